/-
  The depth of a set: the program's AdaptiveDepth.
-/
import Derived.Test.YtdelanjkaokiaaaAdI
namespace Go.Proofs.Ytdelanjkaokiaaa
open Go.RowKit Go.Deep Go.ChangeShapes Go.WideShapes

theorem adaptiveDepth_no {s : Int} {xss : List (List Int)} {ls set : List Int} (h : ¬ checkCode s xss ls set = 0) : (adaptiveDepth s xss ls set).1 = 0 := by
  unfold checkCode at h
  unfold adaptiveDepth at h ⊢
  split
  · rename_i h1
    rw [if_pos h1] at h
    split
    · rename_i h2
      rw [if_pos h2] at h
      split
      · rfl
      · rename_i h3
        rw [if_neg h3] at h
        exact absurd rfl h
    · rfl
  · rfl
theorem adaptiveDepth_yes {s : Int} {xss : List (List Int)} {ls set : List Int} (h : checkCode s xss ls set = 0) : ∃ n : Nat, s = (n : Int) ∧ GoodL n xss.length xss ls ∧ setB (n : Int) set = true ∧ 0 ≤ deepN n xss ls set ∧ adaptiveDepth s xss ls set = (deepN n xss ls set, 0) := by
  rcases h1 : okL s xss ls with _ | _
  · unfold checkCode at h
    rw [adaptiveDepth_1 h1] at h
    cases h
  · obtain ⟨n, rfl, hg⟩ := goodL_of h1 rfl
    rcases h2 : setB (n : Int) set with _ | _
    · unfold checkCode at h
      rw [adaptiveDepth_2 h1 h2] at h
      cases h
    · rcases Int.lt_or_le (deepN n xss ls set) 0 with h3 | h3
      · unfold checkCode at h
        rw [adaptiveDepth_6 h1 h2 h3] at h
        cases h
      · exact ⟨n, rfl, hg, h2, h3, adaptiveDepth_0 h1 h2 (by omega)⟩

set_option maxRecDepth 100000 in
set_option maxHeartbeats 4000000 in
theorem implAdaptiveDepth_any (s : Int) (A : Option Addr) (n c : Nat) (xss : List (List Int)) (B : Option Addr) (m d : Nat) (ls : List Int) (A2 : Option Addr) (l cap : Nat) (set : List Int) (w : World) (h : RowsAt w A n xss) (hn : n ≤ 4611686018427387904)
    (hrows : ∀ (r : Nat) (xs : List Int), xss[r]? = some xs → xs.length ≤ 4611686018427387904) (g : NumsAt w B m ls) (hm : m ≤ 4611686018427387904) (hs : NumsAt w A2 l set) (hl : l ≤ 4611686018427387904) :
    Calls Try.prog 15 #[.agg #[.int .i64 s, .slice A n c, .slice B m d], .slice A2 l cap] w fun e w' => e = .returned (.tuple #[.int .i64 (adaptiveDepth s xss ls set).1, .int .i64 (adaptiveDepth s xss ls set).2]) ∧ Below w.heap.size w w' := by
  have HR := Lib.hid hrows
  have HL := Lib.hid h.1
  obtain ⟨R, hR⟩ : ∃ R, R = adaptiveDepth s xss ls set := ⟨_, rfl⟩
  rw [← hR]
  have HRR := Lib.hid hR
  clear hrows hR
  obtain ⟨w1, hw1⟩ : ∃ w1, w1 = w.alloc (.cells #[.int .i64 s, .slice A n c, .slice B m d] 33) := ⟨_, rfl⟩
  have b1 : Below w.heap.size w w1 := by rw [hw1]; exact (Below.refl _ _).alloc (Nat.le_refl _) _
  have X1 := Lib.hid (show LBox w1 w.heap.size s A n c B m d by rw [hw1]; exact Box.new _ _ _)
  have HX := Lib.hid (h.below b1)
  have HY := Lib.hid (g.below b1)
  have HS := Lib.hid (hs.below b1)
  have BB := Lib.hid b1
  have HW := Lib.hid hw1
  clear h g hs b1 hw1
  go_enter Try.func15, Try.ntmps15
  go_upto_region 1 with fail
  rw [← HW.out]
  have q0 := X1.out 0 _ rfl
  have q1 := X1.out 1 _ rfl
  have q2 := X1.out 2 _ rfl
  go_wp2_with fail
  refine (checkDepth0_any s A n c xss B m d ls A2 l cap set w1 HX.out hn HR.out HY.out hm HS.out hl).mono ?_
  rintro e w2 ⟨M, rfl, hM1, hM2, hM3, b2⟩
  have MS := Lib.hid hM1
  have MO := Lib.hid hM2
  have MT := Lib.hid hM3
  have HS := Lib.hid (HS.out.below b2)
  have BB := Lib.hid (below_then BB.out b2)
  obtain ⟨C, hC⟩ : ∃ C, C = checkCode s xss ls set := ⟨_, rfl⟩
  rw [← hC] at MT ⊢
  have HC := Lib.hid hC
  clear q0 q1 q2 hM1 hM2 hM3 b2 hC
  go_upto_region 2 with (first
    | (refine wpList_store_mid rfl 76 _ _ rfl w2.heap.size 0 M rfl rfl (there_of (heap_alloc_new w2 (.cells Try.zeroCells76 76)) (by rw [MS.out, zeros_size]; exact Nat.le_refl _)) (by rw [MS.out]; exact size_deps) MO.out ?_))
  obtain ⟨w7, hw7⟩ : ∃ w7, w7 = (w2.alloc (.cells Try.zeroCells76 76)).setCells w2.heap.size 0 M.toList := ⟨_, rfl⟩
  have h7 : w7.heap[w2.heap.size]? = some (.cells M 76 (0, 0)) := by
    have hw := setCells_whole (vs := M.toList) (heap_alloc_new w2 (.cells Try.zeroCells76 76)) (by rw [Array.length_toList, MS.out, zeros_size])
    rw [Array.toArray_toList] at hw
    rw [hw7]
    exact hw
  have b7 : Below w2.heap.size w2 w7 := by rw [hw7]; exact setCells_below (Nat.le_refl _) _ _ _ ((Below.refl _ _).alloc (Nat.le_refl _) _)
  rw [← hw7]
  clear hw7
  have HS := Lib.hid (HS.out.below b7)
  have BB := Lib.hid (below_then BB.out b7)
  have H7 := Lib.hid h7
  obtain ⟨Q, hQ⟩ : ∃ Q, Q = w2.heap.size := ⟨_, rfl⟩
  rw [← hQ] at H7 ⊢
  clear b7 h7 hQ
  rcases hc0 : (C != 0) with _ | _
  · have hCe : C = 0 := by simpa using hc0
    have hcc : checkCode s xss ls set = 0 := by rw [← HC.out]; exact hCe
    obtain ⟨N, hsN, hg, hse, hdp, had⟩ := adaptiveDepth_yes hcc
    subst hsN
    have hN10 : N ≤ 10 := hg.good.n10
    have hmem : ∀ y ∈ set, 0 ≤ y ∧ y < 10 := fun y hy => by have := setB_mem hse y hy; omega
    have HMEM := Lib.hid hmem
    have hSN := setN_ltN hse
    have hp2 := pow_le hN10
    obtain ⟨S, hS⟩ : ∃ S, S = setN set := ⟨_, rfl⟩
    rw [← hS] at hSN
    have HSS := Lib.hid hS
    have hS10 : S < 1024 := by omega
    obtain ⟨V, hV⟩ : ∃ V, V = deepN N xss ls set := ⟨_, rfl⟩
    have hcV : w7.cell? ⟨Q, S, none⟩ = some (.int .i64 V) := by
      rw [cell_of_row _ _ S _ _ _ H7.out, ← Array.getElem?_toList, MT.out hCe, List.getElem?_map, rowF_at _ hS10, hV]
      have e : tabF n (belB ((N : Int)).toNat xss ls) (2 ^ ((N : Int)).toNat) 1024 S = deepN N xss ls set := by
        have e1 : deepN N xss ls set = depF n (belB N xss ls) S := by unfold deepN; rw [HL.out, hS]
        rw [Int.toNat_natCast, e1]
        rw [e1] at hdp
        unfold tabF
        rw [if_pos hSN]
        unfold depF at hdp ⊢
        rw [if_pos hdp]
      rw [e]
      rfl
    have HF := Lib.hid (show R = (V, 0) from HRR.out.trans (had.trans (by rw [hV])))
    have hS0 : (0 : Int) ≤ (S : Int) := by omega
    have hS1 : (S : Int) < 1024 := by omega
    clear hcc hg hse hdp had hmem hSN hp2 hS hV hCe
    go_wp2_with fail
    refine (setOf_any A2 l cap set w7 HS.out HMEM.out hl).mono ?_
    rw [← HSS.out]
    rintro e w8 ⟨rfl, rfl⟩
    go_wp2_with fail
    go_ret2
    exact ⟨ret_pair HF.out, BB.out⟩
  · have hCe : ¬ checkCode s xss ls set = 0 := by rw [← HC.out]; simpa using hc0
    have HF := Lib.hid (show R = (0, C) from by
      have h1 := adaptiveDepth_no hCe
      rw [HRR.out, HC.out]
      exact Prod.ext h1 rfl)
    clear hCe
    go_wp2_with fail
    go_ret2
    exact ⟨ret_pair HF.out, BB.out⟩

end Go.Proofs.Ytdelanjkaokiaaa
