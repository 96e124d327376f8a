/-
  The depth of a set: the model's AdaptiveDepth.
-/
import Derived.Test.YtdelanjkaokiaaaDepO
namespace Go.Proofs.Ytdelanjkaokiaaa
open Go.RowKit Go.Deep Go.ChangeShapes Go.WideShapes

/-- The depth of a set of an automaton with lamps: -1 if it has none. -/
def deepN (n : Nat) (xss : List (List Int)) (ls set : List Int) : Int := depF xss.length (belB n xss ls) (setN set)
/-- What AdaptiveDepth answers. -/
def adaptiveDepth (s : Int) (xss : List (List Int)) (ls set : List Int) : Int × Int :=
  if okL s xss ls = true then (if setB s set = true then (if deepN s.toNat xss ls set < 0 then (0, 6) else (deepN s.toNat xss ls set, 0)) else (0, 2)) else (0, 1)
theorem adaptiveDepth_1 {s : Int} {xss : List (List Int)} {ls set : List Int} (h : okL s xss ls = false) : adaptiveDepth s xss ls set = (0, 1) := by unfold adaptiveDepth; rw [if_neg (by simp [h])]
theorem adaptiveDepth_2 {s : Int} {xss : List (List Int)} {ls set : List Int} (h : okL s xss ls = true) (h' : setB s set = false) : adaptiveDepth s xss ls set = (0, 2) := by unfold adaptiveDepth; rw [if_pos h, if_neg (by simp [h'])]
theorem adaptiveDepth_6 {n : Nat} {xss : List (List Int)} {ls set : List Int} (h : okL (n : Int) xss ls = true) (h' : setB (n : Int) set = true) (hd : deepN n xss ls set < 0) : adaptiveDepth (n : Int) xss ls set = (0, 6) := by
  unfold adaptiveDepth; rw [if_pos h, if_pos h', Int.toNat_natCast, if_pos hd]
theorem adaptiveDepth_0 {n : Nat} {xss : List (List Int)} {ls set : List Int} (h : okL (n : Int) xss ls = true) (h' : setB (n : Int) set = true) (hd : ¬ deepN n xss ls set < 0) : adaptiveDepth (n : Int) xss ls set = (deepN n xss ls set, 0) := by
  unfold adaptiveDepth; rw [if_pos h, if_pos h', Int.toNat_natCast, if_neg hd]
theorem ret_pair {a b : Int} {r : Int × Int} (h : r = (a, b)) : Ending.returned (.tuple #[.int .i64 a, .int .i64 b]) = .returned (.tuple #[.int .i64 r.1, .int .i64 r.2]) := by subst h; rfl
theorem setN_ltN {n : Nat} {set : List Int} (h : setB (n : Int) set = true) : setN set < 2 ^ n := by
  have hm := setB_mem h
  rcases Nat.lt_or_ge (setN set) (2 ^ n) with h1 | h1
  · exact h1
  · exfalso
    obtain ⟨q, hq1, hq2⟩ := Nat.exists_ge_and_testBit_of_ge_two_pow h1
    have h2 := (setN_bit _ _ rfl (fun x hx => (hm x hx).1) q).1 hq2
    have := hm _ h2
    omega

set_option maxRecDepth 100000 in
set_option maxHeartbeats 2000000 in
theorem specAdaptiveDepth_any (s : Int) (A : Option Addr) (n c : Nat) (xss : List (List Int)) (B : Option Addr) (m d : Nat) (ls : List Int) (A2 : Option Addr) (l cap : Nat) (set : List Int) (w : World) (h : RowsAt w A n xss) (hn : n ≤ 4611686018427387904)
    (hrows : ∀ (r : Nat) (xs : List Int), xss[r]? = some xs → xs.length ≤ 4611686018427387904) (g : NumsAt w B m ls) (hm : m ≤ 4611686018427387904) (hs : NumsAt w A2 l set) (hl : l ≤ 4611686018427387904) :
    Calls Try.prog 12 #[.agg #[.int .i64 s, .slice A n c, .slice B m d], .slice A2 l cap] w fun e w' => e = .returned (.tuple #[.int .i64 (adaptiveDepth s xss ls set).1, .int .i64 (adaptiveDepth s xss ls set).2]) ∧ Below w.heap.size w w' := by
  have HR := Lib.hid hrows
  have HL := Lib.hid h.1
  obtain ⟨R, hR⟩ : ∃ R, R = adaptiveDepth s xss ls set := ⟨_, rfl⟩
  rw [← hR]
  have HRR := Lib.hid hR
  clear hrows hR
  obtain ⟨w1, hw1⟩ : ∃ w1, w1 = w.alloc (.cells #[.int .i64 s, .slice A n c, .slice B m d] 33) := ⟨_, rfl⟩
  have b1 : Below w.heap.size w w1 := by rw [hw1]; exact (Below.refl _ _).alloc (Nat.le_refl _) _
  have HB1 := Lib.hid (show LBox w1 w.heap.size s A n c B m d by rw [hw1]; exact Box.new _ _ _)
  have HX1 := Lib.hid (h.below b1)
  have HY1 := Lib.hid (g.below b1)
  have HS1 := Lib.hid (hs.below b1)
  have W1 := Lib.hid b1
  have HW := Lib.hid hw1
  clear h g hs b1 hw1
  go_enter Try.func12, Try.ntmps12
  go_wp2_with fail
  rw [← HW.out]
  refine (l08Ok_any w.heap.size s A n c xss B m d ls w1 HB1.out HX1.out hn HR.out HY1.out hm).mono ?_
  rintro e w2 ⟨rfl, k2, hk2⟩
  have b2 : Below w1.heap.size w1 w2 := by rw [hk2]; exact below_drewN' (Below.refl _ _) _
  have HB2 := Lib.hid (show LBox w2 w.heap.size s A n c B m d from Box.below HB1.out b2)
  have HX2 := Lib.hid (HX1.out.below b2)
  have HY2 := Lib.hid (HY1.out.below b2)
  have HS2 := Lib.hid (HS1.out.below b2)
  have W2 := Lib.hid (below_then W1.out b2)
  clear b2 hk2 HB1 HX1 HY1 HS1 W1 HW
  rcases hok : okL s xss ls with _ | _
  · go_wp2_with fail
    go_ret2
    exact ⟨ret_pair (HRR.out.trans (adaptiveDepth_1 hok)), W2.out⟩
  · obtain ⟨N, hsN, hg⟩ := goodL_of hok HL.out
    subst hsN
    have HG := Lib.hid hg
    have hN1 : (1 : Int) ≤ (N : Int) := by have := hg.good.n1; omega
    have hN10 : (N : Int) ≤ 10 := by have := hg.good.n10; omega
    have m0 := HB2.out 0 _ rfl
    have hmN : m = N := by rw [← HY2.out.1]; exact hg.len
    subst hmN
    clear hg
    go_wp2_with fail
    refine (l01Set_any w.heap.size (m : Int) A2 l cap set _ m0 HS2.out hN1 hN10 hl).mono ?_
    rintro e w3 ⟨rfl, k3, hk3⟩
    have b3 : Below w2.heap.size w2 w3 := by rw [hk3]; exact below_drewN' (Below.refl _ _) _
    have HLT := Lib.hid (show LitAt w3 w.heap.size A m n c xss B d ls from ⟨HG.out, Box.below HB2.out b3, HX2.out.below b3, HY2.out.below b3⟩)
    have HS3 := Lib.hid (HS2.out.below b3)
    have W3 := Lib.hid (below_then W2.out b3)
    clear b3 hk3 HB2 HX2 HY2 HS2 W2 m0
    rcases hse : setB (m : Int) set with _ | _
    · go_wp2_with fail
      go_ret2
      exact ⟨ret_pair (HRR.out.trans (adaptiveDepth_2 hok hse)), W3.out⟩
    · have hSN := setN_ltN hse
      have hmem : ∀ y ∈ set, 0 ≤ y ∧ y < 10 := fun y hy => by have := setB_mem hse y hy; omega
      have HMEM := Lib.hid hmem
      obtain ⟨S, hS⟩ : ∃ S, S = setN set := ⟨_, rfl⟩
      rw [← hS] at hSN
      have HSS := Lib.hid hS
      have HDN := Lib.hid (show deepN m xss ls set = depF n (belB m xss ls) S by unfold deepN; rw [HL.out, hS])
      have HSE := Lib.hid hse
      have hdep := l08Depths_any w.heap.size A m n c xss B d ls w3 HLT.out
      obtain ⟨NN, hNN⟩ : ∃ NN, NN = 2 ^ m := ⟨_, rfl⟩
      rw [← hNN] at hdep hSN
      have hNN2 : NN ≤ 1024 := by rw [hNN]; exact pow_le (by omega)
      have HDEP := Lib.hid hdep
      clear hmem hS hdep hNN
      go_wp2_with fail
      refine HDEP.out.mono ?_
      rintro e w4 ⟨G, rfl, o4, b4⟩
      have HS4 := Lib.hid (HS3.out.below b4)
      have W4 := Lib.hid (below_then W3.out b4)
      obtain ⟨V, hV⟩ : ∃ V, V = depF n (belB m xss ls) S := ⟨_, rfl⟩
      have hc : w4.cell? ⟨G, S, none⟩ = some (.int .i64 V) := by rw [o4.cellAt S (by omega), List.getElem?_map, rowF_at _ hSN, hV]; rfl
      have HV := Lib.hid hV
      have hS0 : (0 : Int) ≤ (S : Int) := by omega
      have hS1 : (S : Int) < (NN : Int) := by omega
      clear o4 b4 hV hse hSN
      go_wp2_with fail
      refine (l02BitsD_any A2 l cap set w4 HS4.out HMEM.out hl).mono ?_
      rw [← HSS.out]
      rintro e w5 ⟨rfl, rfl⟩
      have HDV := Lib.hid (show deepN m xss ls set = V from HDN.out.trans HV.out.symm)
      have HOK := Lib.hid hok
      clear hok HDN HV HDEP
      rcases hneg : decide (V < 0) with _ | _
      · have hneg2 : ¬ V < 0 := by simpa using hneg
        have HF := Lib.hid (show R = (V, 0) from HRR.out.trans ((adaptiveDepth_0 HOK.out HSE.out (by rw [HDV.out]; exact hneg2)).trans (by rw [HDV.out])))
        clear hneg2
        go_wp2_with fail
        go_ret2
        exact ⟨ret_pair HF.out, W4.out⟩
      · have hneg2 : V < 0 := by simpa using hneg
        have HF := Lib.hid (show R = (0, 6) from HRR.out.trans (adaptiveDepth_6 HOK.out HSE.out (by rw [HDV.out]; exact hneg2)))
        clear hneg
        go_wp2_with fail
        go_ret2
        exact ⟨ret_pair HF.out, W4.out⟩

end Go.Proofs.Ytdelanjkaokiaaa
