/-
  The depth of a set: the program's checkDepth for no members, and AdaptiveDepth.
-/
import Derived.Test.YtdelanjkaokiaaaAdD
import Derived.Test.YtdelanjkaokiaaaFill
import Derived.Laws.ResultCell
namespace Go.Proofs.Ytdelanjkaokiaaa
open Go.RowKit Go.Deep Go.ChangeShapes Go.WideShapes

/-- What checkDepth tells of a set: the first error, 0 if there is none. -/
def checkCode (s : Int) (xss : List (List Int)) (ls set : List Int) : Int := (adaptiveDepth s xss ls set).2

theorem depN_small {mm N b : Nat} {bel : Nat → Nat → Nat → Nat} (hN : N ≤ 1024) (hb : b < N) (hbel : ∀ b x v, b < N → x < mm → v < 4 → bel b x v < N) : depN mm bel 1024 b < 1024 := by
  rcases Int.lt_or_le (depN mm bel 1024 b) 1024 with h | h
  · exact h
  · exfalso
    have hunk : ∀ j, j ≤ 1023 → ¬ 0 ≤ depN mm bel j b := by
      intro j hj h0
      have h1 := depN_up (e := 1024) h0 (by omega)
      have h2 := depN_le (m := mm) (bel := bel) j b
      omega
    have hprog : ∀ j, j ≤ 1024 → j + 1 ≤ knownN mm bel N j := by
      intro j
      induction j with
      | zero =>
        intro _
        have h1 : 0 < knownN mm bel N 0 := by
          unfold knownN
          rw [List.countP_pos_iff]
          exact ⟨0, List.mem_range.2 (by omega), by rw [depN_0, if_pos (by decide)]; decide⟩
        omega
      | succ j ih =>
        intro hj
        have h1 := ih (by omega)
        rcases Classical.em (∃ c, c < N ∧ ¬ 0 ≤ depN mm bel j c ∧ leadN mm bel j c) with ⟨c, h2, h3, h4⟩ | hno
        · have := knownN_lt h2 h3 h4
          omega
        · exfalso
          have h5 := depN_stable (d := j) (fun c h2 h3 h4 => hno ⟨c, h2, h3, h4⟩) hbel (1024 - j) b hb
          rw [show j + (1024 - j) = 1024 from by omega] at h5
          have h6 := hunk j (by omega)
          omega
    have h1 := hprog 1024 (Nat.le_refl _)
    have h2 := knownN_le (m := mm) (bel := bel) N 1024
    omega

theorem results_cell_row2 {P : Program} {fn : Func} {p u : Tmp} {ty : TypeId} (h : fn.results = #[.cell p ty, .tmp u]) (tmps : Array Value) (w : World) (g : Nat) (t : TypeId) (cs : Array Value) (fr : Nat × Nat) (d : TypeDesc)
    (hp : tmps.getD p undef = .pointer (some ⟨g, 0, none⟩)) (x : Value) (hx : tmps.getD u undef = x) (hg : w.heap[g]? = some (.cells cs t fr))
    (hu : P.underlying ty = some d) (hd : (match d with | .struct _ | .array _ _ => true | _ => false) = true) (hi : (P.info? ty).map (·.size) = some cs.size) :
    (results fn tmps).run P w = .ok (.tuple #[.agg cs, x]) w := by
  rw [results_cell_tmp h, hp, hx]
  simp [asAddr, run_loadVar_row w g t ty cs fr d hg hu hd hi, Result.andThen]
theorem zeros_size : (Try.zeroCells76).size = 1024 := by rw [zero_deps]; simp
theorem zeros_one : (Try.zeroCells76).all (·.oneCell') = true := by
  rw [zero_deps, ← Array.all_toList, List.all_eq_true]
  intro u hu
  rw [Array.toList_replicate] at hu
  rw [List.eq_of_mem_replicate hu]
  rfl

set_option maxRecDepth 100000 in
set_option maxHeartbeats 4000000 in
theorem checkDepth0_any (s : Int) (A : Option Addr) (n c : Nat) (xss : List (List Int)) (B : Option Addr) (m d : Nat) (ls : List Int) (A2 : Option Addr) (l cap : Nat) (set : List Int) (w : World) (h : RowsAt w A n xss) (hn : n ≤ 4611686018427387904)
    (hrows : ∀ (r : Nat) (xs : List Int), xss[r]? = some xs → xs.length ≤ 4611686018427387904) (g : NumsAt w B m ls) (hm : m ≤ 4611686018427387904) (hs : NumsAt w A2 l set) (hl : l ≤ 4611686018427387904) :
    Calls Try.prog 52 #[.agg #[.int .i64 s, .slice A n c, .slice B m d], .slice A2 l cap, .slice none 0 0] w fun e w' => ∃ M : Array Value, e = .returned (.tuple #[.agg M, .int .i64 (checkCode s xss ls set)]) ∧ M.size = 1024 ∧ M.all (·.oneCell') = true ∧
      (checkCode s xss ls set = 0 → M.toList = (rowF 1024 (tabF n (belB s.toNat xss ls) (2 ^ s.toNat) 1024)).map (Value.int .i64)) ∧ Below w.heap.size w w' := by
  have HR := Lib.hid hrows
  have HL := Lib.hid h.1
  obtain ⟨R, hR⟩ : ∃ R, R = checkCode s xss ls set := ⟨_, rfl⟩
  rw [← hR]
  have HRR := Lib.hid hR
  clear hrows hR
  obtain ⟨W1, hW1⟩ : ∃ W1, W1 = w.alloc (.cells #[.int .i64 s, .slice A n c, .slice B m d] 33) := ⟨_, rfl⟩
  obtain ⟨W2, hW2⟩ : ∃ W2, W2 = W1.alloc (.cells #[.slice A2 l cap] 25) := ⟨_, rfl⟩
  obtain ⟨W3, hW3⟩ : ∃ W3, W3 = W2.alloc (.cells (Array.replicate 1024 (Value.int .i64 0)) 76) := ⟨_, rfl⟩
  have s1 : W1.heap.size = w.heap.size + 1 := by rw [hW1, World.size_alloc]
  have s2 : W2.heap.size = w.heap.size + 2 := by rw [hW2, World.size_alloc, s1]
  have s3 : W3.heap.size = w.heap.size + 3 := by rw [hW3, World.size_alloc, s2]
  have b1 : Below w.heap.size w W1 := by rw [hW1]; exact (Below.refl _ _).alloc (Nat.le_refl _) _
  have b2 : Below W1.heap.size W1 W2 := by rw [hW2]; exact (Below.refl _ _).alloc (Nat.le_refl _) _
  have b3 : Below W2.heap.size W2 W3 := by rw [hW3]; exact (Below.refl _ _).alloc (Nat.le_refl _) _
  have bb := below_then (below_then b1 b2) b3
  have X1 := Lib.hid (show LBox W3 w.heap.size s A n c B m d from Box.below (Box.below (by rw [hW1]; exact Box.new _ _ _) b2) b3)
  have X2 := Lib.hid (show W3.cell? ⟨w.heap.size + 1, 0, none⟩ = some (.slice A2 l cap) from (b3.cell (by show w.heap.size + 1 < _; omega)).trans (by rw [hW2, ← s1]; exact cell_of_row _ _ 0 _ _ _ (heap_alloc_new _ _)))
  have X3 := Lib.hid (show W3.heap[w.heap.size + 2]? = some (.cells (Array.replicate 1024 (Value.int .i64 0)) 76 (0, 0)) by rw [hW3, ← s2]; exact heap_alloc_new _ _)
  have HX := Lib.hid (h.below bb)
  have HY := Lib.hid (g.below bb)
  have HS := Lib.hid (hs.below bb)
  have BB := Lib.hid bb
  have HW1 := Lib.hid hW1
  have HW2 := Lib.hid hW2
  have HW3 := Lib.hid hW3
  clear h g hs s1 s2 s3 b1 b2 b3 bb hW1 hW2 hW3
  go_enter Try.func52, Try.ntmps52
  go_upto_region 1 with fail
  rw [zero_deps, ← HW1.out, ← HW2.out, ← HW3.out]
  have q0 := X1.out 0 _ rfl
  have q1 := X1.out 1 _ rfl
  have q2 := X1.out 2 _ rfl
  go_wp2_with fail
  refine (implValidLit_any s A n c xss B m d ls W3 HX.out hn HR.out HY.out hm).mono ?_
  rintro e w4 ⟨rfl, b4⟩
  clear q0 q1 q2
  have X1 := Lib.hid (show LBox w4 w.heap.size s A n c B m d from Box.below X1.out b4)
  have X2 := Lib.hid ((b4.cell (cell_lt X2.out)).trans X2.out)
  have X3 := Lib.hid ((b4.block _ (block_ltL X3.out)).trans X3.out)
  have HX := Lib.hid (HX.out.below b4)
  have HY := Lib.hid (HY.out.below b4)
  have HS := Lib.hid (HS.out.below b4)
  have BB := Lib.hid (below_then BB.out b4)
  clear b4
  rcases hok : okL s xss ls with _ | _
  · have HC := Lib.hid (show R = 1 from HRR.out.trans (by unfold checkCode; rw [adaptiveDepth_1 hok]))
    clear hok
    go_wp2_with (first
      | (refine wpList_store_mid rfl 76 _ _ rfl (w.heap.size + 2) 0 Try.zeroCells76 rfl rfl (there_of X3.out (by rw [zeros_size]; simp)) (by rw [zeros_size]; exact size_deps) zeros_one ?_))
    have hw := setCells_whole (vs := (Try.zeroCells76).toList) X3.out (by rw [Array.length_toList, zeros_size]; simp)
    rw [Array.toArray_toList] at hw
    exact bodyPost_ret (v := .tuple #[.agg Try.zeroCells76, .int .i64 1]) (results_cell_row2 rfl _ _ (w.heap.size + 2) 76 _ (0, 0) _ rfl _ rfl hw Try.underlying76 rfl (by rw [zeros_size]; exact size_deps)) rfl ⟨_, by rw [HC.out], zeros_size, zeros_one, fun h => absurd (HC.out.symm.trans h) (by decide), setCells_below (by omega) _ _ _ BB.out⟩
  · obtain ⟨N, hsN, hg⟩ := goodL_of hok HL.out
    subst hsN
    have HG := Lib.hid hg
    have hN10 : N ≤ 10 := hg.good.n10
    have hmN : m = N := by rw [← HY.out.1]; exact hg.len
    subst hmN
    have HOK := Lib.hid hok
    have hmf : ∀ (fn : Fn) (first cap : Array Value) (w : World), (Instr.makeFunc fn first cap).run Try.prog w = .ok (.func fn first cap) w := fun _ _ _ _ => rfl
    have q0 := X1.out 0 _ rfl
    have q3 := X2.out
    clear hg hok
    rcases hse : setB (m : Int) set with _ | _
    · have HC := Lib.hid (show R = 2 from HRR.out.trans (by unfold checkCode; rw [adaptiveDepth_2 HOK.out hse]))
      go_wp2_with fail
      refine (isSet_any _ _ _ _ _ _ HS.out hl).mono ?_
      rw [hse]
      rintro e w' ⟨rfl, rfl⟩
      clear hse
      go_wp2_with (first
        | (refine wpList_store_mid rfl 76 _ _ rfl (w.heap.size + 2) 0 Try.zeroCells76 rfl rfl (there_of X3.out (by rw [zeros_size]; simp)) (by rw [zeros_size]; exact size_deps) zeros_one ?_))
      have hw := setCells_whole (vs := (Try.zeroCells76).toList) X3.out (by rw [Array.length_toList, zeros_size]; simp)
      rw [Array.toArray_toList] at hw
      exact bodyPost_ret (v := .tuple #[.agg Try.zeroCells76, .int .i64 2]) (results_cell_row2 rfl _ _ (w.heap.size + 2) 76 _ (0, 0) _ rfl _ rfl hw Try.underlying76 rfl (by rw [zeros_size]; exact size_deps)) rfl ⟨_, by rw [HC.out], zeros_size, zeros_one, fun h => absurd (HC.out.symm.trans h) (by decide), setCells_below (by omega) _ _ _ BB.out⟩
    · have HSE := Lib.hid hse
      have hSN := setN_ltN hse
      have hmem : ∀ y ∈ set, 0 ≤ y ∧ y < 10 := fun y hy => by have := setB_mem hse y hy; omega
      have HMEM := Lib.hid hmem
      obtain ⟨S, hS⟩ : ∃ S, S = setN set := ⟨_, rfl⟩
      have hp2 := pow_le hN10
      rw [← hS] at hSN
      have HSS := Lib.hid hS
      have hS10 : S < 1024 := by omega
      have HDN := Lib.hid (show deepN m xss ls set = depF n (belB m xss ls) S by unfold deepN; rw [HL.out, hS])
      have HSN := Lib.hid hSN
      clear hmem hS hSN hp2
      go_wp2_with fail
      refine (isSet_any _ _ _ _ _ _ HS.out hl).mono ?_
      rw [hse]
      rintro e w' ⟨rfl, rfl⟩
      clear hse
      go_wp2_with fail
      refine (containsFunc_any 92 _ (fun _ => true) none 0 0 [] w4 (NumsAt.nil _ _) (by decide) (fun _ _ => rfl) (fun x hx => by simp at hx)).mono ?_
      rintro e w5 ⟨rfl, b5⟩
      have X1 := Lib.hid (show LBox w5 w.heap.size (m : Int) A n c B m d from Box.below X1.out b5)
      have X2 := Lib.hid ((b5.cell (cell_lt X2.out)).trans X2.out)
      have X3 := Lib.hid ((b5.block _ (block_ltL X3.out)).trans X3.out)
      have HX := Lib.hid (HX.out.below b5)
      have HY := Lib.hid (HY.out.below b5)
      have HS := Lib.hid (HS.out.below b5)
      have BB := Lib.hid (below_then BB.out b5)
      clear b5 q0 q3
      have q0 := X1.out 0 _ rfl
      have q1 := X1.out 1 _ rfl
      have q2 := X1.out 2 _ rfl
      go_wp2_with fail
      refine (depthsOf_any A m n c xss B d ls w5 HG.out HX.out HY.out).mono ?_
      rintro e w6 ⟨M, rfl, hM, b6⟩
      have X2 := Lib.hid ((b6.cell (cell_lt X2.out)).trans X2.out)
      have X3 := Lib.hid ((b6.block _ (block_ltL X3.out)).trans X3.out)
      have HS := Lib.hid (HS.out.below b6)
      have BB := Lib.hid (below_then BB.out b6)
      have MT := Lib.hid hM
      have MS := Lib.hid (show M.size = 1024 by rw [← Array.length_toList, hM, List.length_map, rowF_len])
      have MO := Lib.hid (show M.all (·.oneCell') = true by
        rw [← Array.all_toList, hM, List.all_eq_true]
        intro u hu
        obtain ⟨y, _, rfl⟩ := List.mem_map.1 hu
        rfl)
      clear b6 hM q0 q1 q2
      go_upto_region 7 with (first
        | (refine wpList_store_mid rfl 76 _ _ rfl w6.heap.size 0 M rfl rfl (there_of (heap_alloc_new w6 (.cells Try.zeroCells76 76)) (by rw [MS.out, zeros_size]; exact Nat.le_refl _)) (by rw [MS.out]; exact size_deps) MO.out ?_))
      obtain ⟨w7, hw7⟩ : ∃ w7, w7 = (w6.alloc (.cells Try.zeroCells76 76)).setCells w6.heap.size 0 M.toList := ⟨_, rfl⟩
      have h7 : w7.heap[w6.heap.size]? = some (.cells M 76 (0, 0)) := by
        have hw := setCells_whole (vs := M.toList) (heap_alloc_new w6 (.cells Try.zeroCells76 76)) (by rw [Array.length_toList, MS.out, zeros_size])
        rw [Array.toArray_toList] at hw
        rw [hw7]
        exact hw
      have b7 : Below w6.heap.size w6 w7 := by rw [hw7]; exact setCells_below (Nat.le_refl _) _ _ _ ((Below.refl _ _).alloc (Nat.le_refl _) _)
      rw [← hw7]
      clear hw7
      have X2 := Lib.hid ((b7.cell (cell_lt X2.out)).trans X2.out)
      have X3 := Lib.hid ((b7.block _ (block_ltL X3.out)).trans X3.out)
      have HS := Lib.hid (HS.out.below b7)
      have BB := Lib.hid (below_then BB.out b7)
      have H7 := Lib.hid h7
      have q3 := X2.out
      obtain ⟨Q, hQ⟩ : ∃ Q, Q = w6.heap.size := ⟨_, rfl⟩
      rw [← hQ] at H7 ⊢
      obtain ⟨V, hV⟩ : ∃ V, V = tabF n (belB m xss ls) (2 ^ m) 1024 S := ⟨_, rfl⟩
      have hcV : w7.cell? ⟨Q, S, none⟩ = some (.int .i64 V) := by
        rw [cell_of_row _ _ S _ _ _ H7.out, ← Array.getElem?_toList, MT.out, List.getElem?_map, rowF_at _ hS10, hV]
        rfl
      have HV := Lib.hid hV
      have hS0 : (0 : Int) ≤ (S : Int) := by omega
      have hS1 : (S : Int) < 1024 := by omega
      clear b7 h7 hQ hV
      go_wp2_with fail
      refine (setOf_any A2 l cap set w7 HS.out HMEM.out hl).mono ?_
      rw [← HSS.out]
      rintro e w8 ⟨rfl, rfl⟩
      have hbl : ∀ b x v, b < 2 ^ m → x < n → v < 4 → belB m xss ls b x v < 2 ^ m := fun b x v _ hx _ => belB_lt HG.out b x v hx
      have hVd : V = if 0 ≤ deepN m xss ls set then deepN m xss ls set else 1024 := by
        rw [HV.out, HDN.out]; unfold tabF depF; rw [if_pos HSN.out]
      have hdl : deepN m xss ls set < 1024 := by rw [HDN.out]; exact depN_small (pow_le hN10) HSN.out hbl
      rcases h10 : (V == 1024) with _ | _
      · have hd : ¬ deepN m xss ls set < 0 := by
          intro h
          rw [if_neg (by omega)] at hVd
          rw [hVd] at h10
          simp at h10
        have HC := Lib.hid (show R = 0 from HRR.out.trans (by unfold checkCode; rw [adaptiveDepth_0 HOK.out HSE.out hd]))
        clear hVd hdl hd hbl
        go_wp2_with (first
          | (refine wpList_load_row rfl 76 _ rfl Q rfl 76 M (0, 0) _ H7.out Try.underlying76 rfl (by rw [MS.out]; exact size_deps) ?_)
          | (refine wpList_store_mid rfl 76 _ _ rfl (w.heap.size + 2) 0 M rfl rfl (there_of X3.out (by rw [MS.out]; simp)) (by rw [MS.out]; exact size_deps) MO.out ?_))
        have hw := setCells_whole (vs := M.toList) X3.out (by rw [Array.length_toList, MS.out]; simp)
        rw [Array.toArray_toList] at hw
        exact bodyPost_ret (v := .tuple #[.agg M, .int .i64 0]) (results_cell_row2 rfl _ _ (w.heap.size + 2) 76 _ (0, 0) _ rfl _ rfl hw Try.underlying76 rfl (by rw [MS.out]; exact size_deps)) rfl ⟨_, by rw [HC.out], MS.out, MO.out, fun _ => by rw [Int.toNat_natCast]; exact MT.out, setCells_below (by omega) _ _ _ BB.out⟩
      · have hd : deepN m xss ls set < 0 := by
          rcases Int.lt_or_le (deepN m xss ls set) 0 with h | h
          · exact h
          · rw [if_pos h] at hVd
            have := eq_of_beq h10
            omega
        have HC := Lib.hid (show R = 6 from HRR.out.trans (by unfold checkCode; rw [adaptiveDepth_6 HOK.out HSE.out hd]))
        clear hVd hdl hd hbl
        go_wp2_with (first
          | (refine wpList_store_mid rfl 76 _ _ rfl (w.heap.size + 2) 0 Try.zeroCells76 rfl rfl (there_of X3.out (by rw [zeros_size]; simp)) (by rw [zeros_size]; exact size_deps) zeros_one ?_))
        have hw := setCells_whole (vs := (Try.zeroCells76).toList) X3.out (by rw [Array.length_toList, zeros_size]; simp)
        rw [Array.toArray_toList] at hw
        exact bodyPost_ret (v := .tuple #[.agg Try.zeroCells76, .int .i64 6]) (results_cell_row2 rfl _ _ (w.heap.size + 2) 76 _ (0, 0) _ rfl _ rfl hw Try.underlying76 rfl (by rw [zeros_size]; exact size_deps)) rfl ⟨_, by rw [HC.out], zeros_size, zeros_one, fun h => absurd (HC.out.symm.trans h) (by decide), setCells_below (by omega) _ _ _ BB.out⟩

end Go.Proofs.Ytdelanjkaokiaaa
