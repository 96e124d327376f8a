/-
  An adaptive run: the program's checkDepth for members of the set.
-/
import Derived.Test.YtdelanjkaokiaaaRunD
namespace Go.Proofs.Ytdelanjkaokiaaa
open Go.RowKit Go.Deep Go.ChangeShapes Go.WideShapes

theorem place_has (xs : List Int) (v : Int) : decide (0 ≤ placeOf xs v 0) = hasB xs v := by
  rcases h : hasB xs v with _ | _
  · have hm : placeOf xs v 0 = -1 := placeOf_miss (fun j _ hj => by
      have : hasB xs v = true := by
        unfold hasB
        exact List.any_eq_true.2 ⟨v, List.mem_of_getElem? hj, by simp⟩
      rw [h] at this
      cases this)
    rw [hm]
    decide
  · unfold hasB at h
    obtain ⟨y, hy, he⟩ := List.any_eq_true.1 h
    have he' := of_decide_eq_true he
    subst he'
    obtain ⟨i, hi⟩ := List.getElem?_of_mem hy
    obtain ⟨p, _, _, _, hp⟩ := placeOf_le (k0 := 0) hi
    rw [hp]
    simp

theorem slContains_any (A : Option Addr) (n cap : Nat) (xs : List Int) (v : Int) (w : World) (h : NumsAt w A n xs) (hn : n ≤ 4611686018427387904) :
    Calls Try.prog 93 #[.slice A n cap, .int .i64 v] w fun e w' => e = .returned (.bool (hasB xs v)) ∧ w = w' := by
  rw [← place_has]
  obtain ⟨i, hi⟩ : ∃ i, i = placeOf xs v 0 := ⟨_, rfl⟩
  have HI := Lib.hid hi
  rw [← hi]
  clear hi
  go_enter Try.func93, Try.ntmps93
  go_wp2_with fail
  refine (slIndex_any A n cap xs v _ h hn).mono ?_
  rw [← HI.out]
  rintro e w' ⟨rfl, rfl⟩
  go_wp2_with fail
  go_ret
  exact ⟨rfl, rfl⟩

theorem isOutside_any (P : Nat) (x : Int) (A : Option Addr) (n cap : Nat) (xs : List Int) (w : World) (hc : w.cell? ⟨P, 0, none⟩ = some (.slice A n cap)) (h : NumsAt w A n xs) (hn : n ≤ 4611686018427387904) :
    Calls Try.prog 92 #[.int .i64 x, .pointer (some ⟨P, 0, none⟩)] w fun e w' => e = .returned (.bool (!hasB xs x)) ∧ Below w.heap.size w w' := by
  go_enter Try.func92, Try.ntmps92
  go_wp2_with fail
  refine (slContains_any A n cap xs x _ h hn).mono ?_
  rintro e w' ⟨rfl, rfl⟩
  go_wp2_with fail
  go_ret
  exact ⟨rfl, Below.refl _ _⟩

/-- What checkDepth tells of a set and some states: the first error, 0 if there is none. -/
def checkM (s : Int) (xss : List (List Int)) (ls set ms : List Int) : Int := if okL s xss ls = true ∧ setB s set = true ∧ ms.any (fun x => !hasB set x) = true then 2 else checkCode s xss ls set
theorem checkM_in {s : Int} {xss : List (List Int)} {ls set ms : List Int} (h : ms.any (fun x => !hasB set x) = false) : checkM s xss ls set ms = checkCode s xss ls set := by
  unfold checkM
  rw [if_neg]
  rintro ⟨_, _, h3⟩
  rw [h] at h3
  cases h3
theorem checkM_out {s : Int} {xss : List (List Int)} {ls set ms : List Int} (h1 : okL s xss ls = true) (h2 : setB s set = true) (h3 : ms.any (fun x => !hasB set x) = true) : checkM s xss ls set ms = 2 := by
  unfold checkM; rw [if_pos ⟨h1, h2, h3⟩]
theorem checkM_no {s : Int} {xss : List (List Int)} {ls set ms : List Int} {C : Int} (h : checkCode s xss ls set = C) (hc : C = 1 ∨ C = 2) : checkM s xss ls set ms = C := by
  unfold checkM
  split
  · rename_i hh
    rcases hc with rfl | rfl
    · exfalso
      unfold checkCode adaptiveDepth at h
      rw [if_pos hh.1, if_pos hh.2.1] at h
      split at h <;> simp at h
    · rfl
  · exact h

set_option maxRecDepth 100000 in
set_option maxHeartbeats 4000000 in
theorem checkDepthM_any (s : Int) (A : Option Addr) (n c : Nat) (xss : List (List Int)) (B : Option Addr) (m d : Nat) (ls : List Int) (A2 : Option Addr) (l cap : Nat) (set : List Int) (A4 : Option Addr) (l4 c4 : Nat) (ms : List Int) (w : World) (h : RowsAt w A n xss) (hn : n ≤ 4611686018427387904)
    (hrows : ∀ (r : Nat) (xs : List Int), xss[r]? = some xs → xs.length ≤ 4611686018427387904) (g : NumsAt w B m ls) (hm : m ≤ 4611686018427387904) (hs : NumsAt w A2 l set) (hl : l ≤ 4611686018427387904) (hms : NumsAt w A4 l4 ms) (hl4 : l4 ≤ 4611686018427387904) :
    Calls Try.prog 52 #[.agg #[.int .i64 s, .slice A n c, .slice B m d], .slice A2 l cap, .slice A4 l4 c4] w fun e w' => ∃ M : Array Value, e = .returned (.tuple #[.agg M, .int .i64 (checkM s xss ls set ms)]) ∧ M.size = 1024 ∧ M.all (·.oneCell') = true ∧
      (checkM s xss ls set ms = 0 → M.toList = (rowF 1024 (tabF n (belB s.toNat xss ls) (2 ^ s.toNat) 1024)).map (Value.int .i64)) ∧ Below w.heap.size w w' := by
  have HR := Lib.hid hrows
  have HL := Lib.hid h.1
  obtain ⟨R, hR⟩ : ∃ R, R = checkM s xss ls set ms := ⟨_, rfl⟩
  rw [← hR]
  have HRR := Lib.hid hR
  clear hrows hR
  obtain ⟨W1, hW1⟩ : ∃ W1, W1 = w.alloc (.cells #[.int .i64 s, .slice A n c, .slice B m d] 33) := ⟨_, rfl⟩
  obtain ⟨W2, hW2⟩ : ∃ W2, W2 = W1.alloc (.cells #[.slice A2 l cap] 25) := ⟨_, rfl⟩
  obtain ⟨W3, hW3⟩ : ∃ W3, W3 = W2.alloc (.cells (Array.replicate 1024 (Value.int .i64 0)) 76) := ⟨_, rfl⟩
  have s1 : W1.heap.size = w.heap.size + 1 := by rw [hW1, World.size_alloc]
  have s2 : W2.heap.size = w.heap.size + 2 := by rw [hW2, World.size_alloc, s1]
  have s3 : W3.heap.size = w.heap.size + 3 := by rw [hW3, World.size_alloc, s2]
  have b1 : Below w.heap.size w W1 := by rw [hW1]; exact (Below.refl _ _).alloc (Nat.le_refl _) _
  have b2 : Below W1.heap.size W1 W2 := by rw [hW2]; exact (Below.refl _ _).alloc (Nat.le_refl _) _
  have b3 : Below W2.heap.size W2 W3 := by rw [hW3]; exact (Below.refl _ _).alloc (Nat.le_refl _) _
  have bb := below_then (below_then b1 b2) b3
  have X1 := Lib.hid (show LBox W3 w.heap.size s A n c B m d from Box.below (Box.below (by rw [hW1]; exact Box.new _ _ _) b2) b3)
  have X2 := Lib.hid (show W3.cell? ⟨w.heap.size + 1, 0, none⟩ = some (.slice A2 l cap) from (b3.cell (by show w.heap.size + 1 < _; omega)).trans (by rw [hW2, ← s1]; exact cell_of_row _ _ 0 _ _ _ (heap_alloc_new _ _)))
  have X3 := Lib.hid (show W3.heap[w.heap.size + 2]? = some (.cells (Array.replicate 1024 (Value.int .i64 0)) 76 (0, 0)) by rw [hW3, ← s2]; exact heap_alloc_new _ _)
  have HX := Lib.hid (h.below bb)
  have HY := Lib.hid (g.below bb)
  have HS := Lib.hid (hs.below bb)
  have HMS := Lib.hid (hms.below bb)
  have BB := Lib.hid bb
  have HW1 := Lib.hid hW1
  have HW2 := Lib.hid hW2
  have HW3 := Lib.hid hW3
  clear h g hs hms s1 s2 s3 b1 b2 b3 bb hW1 hW2 hW3
  go_enter Try.func52, Try.ntmps52
  go_upto_region 1 with fail
  rw [zero_deps, ← HW1.out, ← HW2.out, ← HW3.out]
  have q0 := X1.out 0 _ rfl
  have q1 := X1.out 1 _ rfl
  have q2 := X1.out 2 _ rfl
  go_wp2_with fail
  refine (implValidLit_any s A n c xss B m d ls W3 HX.out hn HR.out HY.out hm).mono ?_
  rintro e w4 ⟨rfl, b4⟩
  clear q0 q1 q2
  have X1 := Lib.hid (show LBox w4 w.heap.size s A n c B m d from Box.below X1.out b4)
  have X2 := Lib.hid ((b4.cell (cell_lt X2.out)).trans X2.out)
  have X3 := Lib.hid ((b4.block _ (block_ltL X3.out)).trans X3.out)
  have HX := Lib.hid (HX.out.below b4)
  have HY := Lib.hid (HY.out.below b4)
  have HS := Lib.hid (HS.out.below b4)
  have HMS := Lib.hid (HMS.out.below b4)
  have BB := Lib.hid (below_then BB.out b4)
  clear b4
  rcases hok : okL s xss ls with _ | _
  · have HC := Lib.hid (show R = 1 from HRR.out.trans (checkM_no (check_1 hok) (.inl rfl)))
    clear hok
    go_wp2_with (first
      | (refine wpList_store_mid rfl 76 _ _ rfl (w.heap.size + 2) 0 Try.zeroCells76 rfl rfl (there_of X3.out (by rw [zeros_size]; simp)) (by rw [zeros_size]; exact size_deps) zeros_one ?_))
    have hw := setCells_whole (vs := (Try.zeroCells76).toList) X3.out (by rw [Array.length_toList, zeros_size]; simp)
    rw [Array.toArray_toList] at hw
    exact bodyPost_ret (v := .tuple #[.agg Try.zeroCells76, .int .i64 1]) (results_cell_row2 rfl _ _ (w.heap.size + 2) 76 _ (0, 0) _ rfl _ rfl hw Try.underlying76 rfl (by rw [zeros_size]; exact size_deps)) rfl ⟨_, by rw [HC.out], zeros_size, zeros_one, fun h => absurd (HC.out.symm.trans h) (by decide), setCells_below (by omega) _ _ _ BB.out⟩
  · obtain ⟨N, hsN, hg⟩ := goodL_of hok HL.out
    subst hsN
    have HG := Lib.hid hg
    have hN10 : N ≤ 10 := hg.good.n10
    have hmN : m = N := by rw [← HY.out.1]; exact hg.len
    subst hmN
    have HOK := Lib.hid hok
    have hmf : ∀ (fn : Fn) (first cap : Array Value) (w : World), (Instr.makeFunc fn first cap).run Try.prog w = .ok (.func fn first cap) w := fun _ _ _ _ => rfl
    have q0 := X1.out 0 _ rfl
    have q3 := X2.out
    clear hg hok
    rcases hse : setB (m : Int) set with _ | _
    · have HC := Lib.hid (show R = 2 from HRR.out.trans (checkM_no (check_2 HOK.out hse) (.inr rfl)))
      go_wp2_with fail
      refine (isSet_any _ _ _ _ _ _ HS.out hl).mono ?_
      rw [hse]
      rintro e w' ⟨rfl, rfl⟩
      clear hse
      go_wp2_with (first
        | (refine wpList_store_mid rfl 76 _ _ rfl (w.heap.size + 2) 0 Try.zeroCells76 rfl rfl (there_of X3.out (by rw [zeros_size]; simp)) (by rw [zeros_size]; exact size_deps) zeros_one ?_))
      have hw := setCells_whole (vs := (Try.zeroCells76).toList) X3.out (by rw [Array.length_toList, zeros_size]; simp)
      rw [Array.toArray_toList] at hw
      exact bodyPost_ret (v := .tuple #[.agg Try.zeroCells76, .int .i64 2]) (results_cell_row2 rfl _ _ (w.heap.size + 2) 76 _ (0, 0) _ rfl _ rfl hw Try.underlying76 rfl (by rw [zeros_size]; exact size_deps)) rfl ⟨_, by rw [HC.out], zeros_size, zeros_one, fun h => absurd (HC.out.symm.trans h) (by decide), setCells_below (by omega) _ _ _ BB.out⟩
    · have HSE := Lib.hid hse
      have hSN := setN_ltN hse
      have hmem : ∀ y ∈ set, 0 ≤ y ∧ y < 10 := fun y hy => by have := setB_mem hse y hy; omega
      have HMEM := Lib.hid hmem
      obtain ⟨S, hS⟩ : ∃ S, S = setN set := ⟨_, rfl⟩
      have hp2 := pow_le hN10
      rw [← hS] at hSN
      have HSS := Lib.hid hS
      have hS10 : S < 1024 := by omega
      have HDN := Lib.hid (show deepN m xss ls set = depF n (belB m xss ls) S by unfold deepN; rw [HL.out, hS])
      have HSN := Lib.hid hSN
      clear hmem hS hSN hp2
      go_wp2_with fail
      refine (isSet_any _ _ _ _ _ _ HS.out hl).mono ?_
      rw [hse]
      rintro e w' ⟨rfl, rfl⟩
      clear hse
      have HOUT := Lib.hid (show ∀ (x : Int), x ∈ ms → ∀ W', Below w4.heap.size w4 W' → Calls Try.prog 92 (#[.int .i64 x] ++ #[.pointer (some ⟨w.heap.size + 1, 0, none⟩)]) W' fun e w' => e = .returned (.bool (!hasB set x)) ∧ Below W'.heap.size W' w' from
        fun x _ W' hb => isOutside_any (w.heap.size + 1) x A2 l cap set W' ((hb.cell (cell_lt X2.out)).trans X2.out) (HS.out.below hb) hl)
      go_wp2_with fail
      refine (containsFunc_any 92 #[.pointer (some ⟨w.heap.size + 1, 0, none⟩)] (fun x => !hasB set x) A4 l4 c4 ms w4 HMS.out hl4 (fun _ _ => rfl) HOUT.out).mono ?_
      obtain ⟨MA, hMA⟩ : ∃ MA, MA = ms.any (fun x => !hasB set x) := ⟨_, rfl⟩
      rw [← hMA]
      have HMAE := Lib.hid hMA
      clear hMA
      rintro e w5 ⟨rfl, b5⟩
      have X1 := Lib.hid (show LBox w5 w.heap.size (m : Int) A n c B m d from Box.below X1.out b5)
      have X2 := Lib.hid ((b5.cell (cell_lt X2.out)).trans X2.out)
      have X3 := Lib.hid ((b5.block _ (block_ltL X3.out)).trans X3.out)
      have HX := Lib.hid (HX.out.below b5)
      have HY := Lib.hid (HY.out.below b5)
      have HS := Lib.hid (HS.out.below b5)
      have BB := Lib.hid (below_then BB.out b5)
      clear b5 q0 q3
      rcases hma : MA with _ | _
      · have HMA := Lib.hid (show ms.any (fun x => !hasB set x) = false from HMAE.out.symm.trans hma)
        clear hma
        have q0 := X1.out 0 _ rfl
        have q1 := X1.out 1 _ rfl
        have q2 := X1.out 2 _ rfl
        go_wp2_with fail
        refine (depthsOf_any A m n c xss B d ls w5 HG.out HX.out HY.out).mono ?_
        rintro e w6 ⟨M, rfl, hM, b6⟩
        have X2 := Lib.hid ((b6.cell (cell_lt X2.out)).trans X2.out)
        have X3 := Lib.hid ((b6.block _ (block_ltL X3.out)).trans X3.out)
        have HS := Lib.hid (HS.out.below b6)
        have BB := Lib.hid (below_then BB.out b6)
        have MT := Lib.hid hM
        have MS := Lib.hid (show M.size = 1024 by rw [← Array.length_toList, hM, List.length_map, rowF_len])
        have MO := Lib.hid (show M.all (·.oneCell') = true by
          rw [← Array.all_toList, hM, List.all_eq_true]
          intro u hu
          obtain ⟨y, _, rfl⟩ := List.mem_map.1 hu
          rfl)
        clear b6 hM q0 q1 q2
        go_upto_region 7 with (first
          | (refine wpList_store_mid rfl 76 _ _ rfl w6.heap.size 0 M rfl rfl (there_of (heap_alloc_new w6 (.cells Try.zeroCells76 76)) (by rw [MS.out, zeros_size]; exact Nat.le_refl _)) (by rw [MS.out]; exact size_deps) MO.out ?_))
        obtain ⟨w7, hw7⟩ : ∃ w7, w7 = (w6.alloc (.cells Try.zeroCells76 76)).setCells w6.heap.size 0 M.toList := ⟨_, rfl⟩
        have h7 : w7.heap[w6.heap.size]? = some (.cells M 76 (0, 0)) := by
          have hw := setCells_whole (vs := M.toList) (heap_alloc_new w6 (.cells Try.zeroCells76 76)) (by rw [Array.length_toList, MS.out, zeros_size])
          rw [Array.toArray_toList] at hw
          rw [hw7]
          exact hw
        have b7 : Below w6.heap.size w6 w7 := by rw [hw7]; exact setCells_below (Nat.le_refl _) _ _ _ ((Below.refl _ _).alloc (Nat.le_refl _) _)
        rw [← hw7]
        clear hw7
        have X2 := Lib.hid ((b7.cell (cell_lt X2.out)).trans X2.out)
        have X3 := Lib.hid ((b7.block _ (block_ltL X3.out)).trans X3.out)
        have HS := Lib.hid (HS.out.below b7)
        have BB := Lib.hid (below_then BB.out b7)
        have H7 := Lib.hid h7
        have q3 := X2.out
        obtain ⟨Q, hQ⟩ : ∃ Q, Q = w6.heap.size := ⟨_, rfl⟩
        rw [← hQ] at H7 ⊢
        obtain ⟨V, hV⟩ : ∃ V, V = tabF n (belB m xss ls) (2 ^ m) 1024 S := ⟨_, rfl⟩
        have hcV : w7.cell? ⟨Q, S, none⟩ = some (.int .i64 V) := by
          rw [cell_of_row _ _ S _ _ _ H7.out, ← Array.getElem?_toList, MT.out, List.getElem?_map, rowF_at _ hS10, hV]
          rfl
        have HV := Lib.hid hV
        have hS0 : (0 : Int) ≤ (S : Int) := by omega
        have hS1 : (S : Int) < 1024 := by omega
        clear b7 h7 hQ hV
        go_wp2_with fail
        refine (setOf_any A2 l cap set w7 HS.out HMEM.out hl).mono ?_
        rw [← HSS.out]
        rintro e w8 ⟨rfl, rfl⟩
        have hbl : ∀ b x v, b < 2 ^ m → x < n → v < 4 → belB m xss ls b x v < 2 ^ m := fun b x v _ hx _ => belB_lt HG.out b x v hx
        have hVd : V = if 0 ≤ deepN m xss ls set then deepN m xss ls set else 1024 := by
          rw [HV.out, HDN.out]; unfold tabF depF; rw [if_pos HSN.out]
        have hdl : deepN m xss ls set < 1024 := by rw [HDN.out]; exact depN_small (pow_le hN10) HSN.out hbl
        rcases h10 : (V == 1024) with _ | _
        · have hd : ¬ deepN m xss ls set < 0 := by
            intro h
            rw [if_neg (by omega)] at hVd
            rw [hVd] at h10
            simp at h10
          have HC := Lib.hid (show R = 0 from HRR.out.trans ((checkM_in HMA.out).trans (check_0 HOK.out HSE.out hd)))
          clear hVd hdl hd hbl
          go_wp2_with (first
            | (refine wpList_load_row rfl 76 _ rfl Q rfl 76 M (0, 0) _ H7.out Try.underlying76 rfl (by rw [MS.out]; exact size_deps) ?_)
            | (refine wpList_store_mid rfl 76 _ _ rfl (w.heap.size + 2) 0 M rfl rfl (there_of X3.out (by rw [MS.out]; simp)) (by rw [MS.out]; exact size_deps) MO.out ?_))
          have hw := setCells_whole (vs := M.toList) X3.out (by rw [Array.length_toList, MS.out]; simp)
          rw [Array.toArray_toList] at hw
          exact bodyPost_ret (v := .tuple #[.agg M, .int .i64 0]) (results_cell_row2 rfl _ _ (w.heap.size + 2) 76 _ (0, 0) _ rfl _ rfl hw Try.underlying76 rfl (by rw [MS.out]; exact size_deps)) rfl ⟨_, by rw [HC.out], MS.out, MO.out, fun _ => by rw [Int.toNat_natCast]; exact MT.out, setCells_below (by omega) _ _ _ BB.out⟩
        · have hd : deepN m xss ls set < 0 := by
            rcases Int.lt_or_le (deepN m xss ls set) 0 with h | h
            · exact h
            · rw [if_pos h] at hVd
              have := eq_of_beq h10
              omega
          have HC := Lib.hid (show R = 6 from HRR.out.trans ((checkM_in HMA.out).trans (check_6 HOK.out HSE.out hd)))
          clear hVd hdl hd hbl
          go_wp2_with (first
            | (refine wpList_store_mid rfl 76 _ _ rfl (w.heap.size + 2) 0 Try.zeroCells76 rfl rfl (there_of X3.out (by rw [zeros_size]; simp)) (by rw [zeros_size]; exact size_deps) zeros_one ?_))
          have hw := setCells_whole (vs := (Try.zeroCells76).toList) X3.out (by rw [Array.length_toList, zeros_size]; simp)
          rw [Array.toArray_toList] at hw
          exact bodyPost_ret (v := .tuple #[.agg Try.zeroCells76, .int .i64 6]) (results_cell_row2 rfl _ _ (w.heap.size + 2) 76 _ (0, 0) _ rfl _ rfl hw Try.underlying76 rfl (by rw [zeros_size]; exact size_deps)) rfl ⟨_, by rw [HC.out], zeros_size, zeros_one, fun h => absurd (HC.out.symm.trans h) (by decide), setCells_below (by omega) _ _ _ BB.out⟩
      · have HC := Lib.hid (show R = 2 from HRR.out.trans (checkM_out HOK.out HSE.out (HMAE.out.symm.trans hma)))
        clear hma
        go_wp2_with (first
          | (refine wpList_store_mid rfl 76 _ _ rfl (w.heap.size + 2) 0 Try.zeroCells76 rfl rfl (there_of X3.out (by rw [zeros_size]; simp)) (by rw [zeros_size]; exact size_deps) zeros_one ?_))
        have hw := setCells_whole (vs := (Try.zeroCells76).toList) X3.out (by rw [Array.length_toList, zeros_size]; simp)
        rw [Array.toArray_toList] at hw
        exact bodyPost_ret (v := .tuple #[.agg Try.zeroCells76, .int .i64 2]) (results_cell_row2 rfl _ _ (w.heap.size + 2) 76 _ (0, 0) _ rfl _ rfl hw Try.underlying76 rfl (by rw [zeros_size]; exact size_deps)) rfl ⟨_, by rw [HC.out], zeros_size, zeros_one, fun h => absurd (HC.out.symm.trans h) (by decide), setCells_below (by omega) _ _ _ BB.out⟩

end Go.Proofs.Ytdelanjkaokiaaa
