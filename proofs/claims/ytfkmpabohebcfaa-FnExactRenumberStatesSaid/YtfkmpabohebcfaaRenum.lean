/-
  The automaton with its states in another order: the contracts of l01Order and of both RenumberStates.
-/
import Derived.Test.YtfkmpabohebcfaaRestr2
import Derived.Test.YtfkmpabohebcfaaConn
namespace Go.Proofs.Ytfkmpabohebcfaa
open Go.RowKit Go.Deep Go.ChangeShapes Go.WideShapes

theorem placeOf_has {xs : List Int} {v : Int} : ∀ (k : Nat), (decide (placeOf xs v k < 0)) = !hasB xs v := by
  induction xs with
  | nil => intro k; simp [placeOf, hasB]
  | cons x xs ih =>
    intro k
    unfold placeOf
    by_cases h : x = v
    · rw [if_pos h]
      have : hasB (x :: xs) v = true := by simp [hasB, h]
      rw [this]
      simp
    · rw [if_neg h, ih (k + 1)]
      simp [hasB, h]
/-- A list contains each of so many states once. -/
def orderB (n : Nat) (L : List Int) : Bool := (List.range n).all (fun s => hasB L ((s : Nat) : Int)) && decide (L.length = n)
theorem orderB_f {n s : Nat} {L : List Int} (hs : s < n) (h : hasB L (s : Int) = false) : orderB n L = false := by
  unfold orderB
  rw [Bool.and_eq_false_iff]
  left
  rw [List.all_eq_false]
  exact ⟨s, List.mem_range.2 hs, by simp [h]⟩
theorem orderB_g {n : Nat} {L : List Int} (h : ¬ L.length = n) : orderB n L = false := by unfold orderB; simp [h]
theorem orderB_t {n : Nat} {L : List Int} (h : ∀ s, s < n → hasB L ((s : Nat) : Int) = true) (hl : L.length = n) : orderB n L = true := by
  unfold orderB
  rw [Bool.and_eq_true, List.all_eq_true]
  exact ⟨fun s hs => h s (List.mem_range.1 hs), by simpa using hl⟩
theorem hasB_mem {L : List Int} {v : Int} (h : hasB L v = true) : v ∈ L := by
  unfold hasB at h
  rw [List.any_eq_true] at h
  obtain ⟨x, hx, he⟩ := h
  rw [decide_eq_true_eq] at he
  exact he ▸ hx
theorem mem_hasB {L : List Int} {v : Int} (h : v ∈ L) : hasB L v = true := by
  unfold hasB
  rw [List.any_eq_true]
  exact ⟨v, h, by simp⟩
theorem all_len : ∀ (n : Nat) (L : List Int), (∀ s : Nat, s < n → (s : Int) ∈ L) → n ≤ L.length
  | 0, _, _ => Nat.zero_le _
  | n + 1, L, h => by
    have h1 := h n (by omega)
    have h2 := all_len n (L.erase (n : Int)) (fun s hs => by
      rw [List.mem_erase_of_ne (by omega)]
      exact h s (by omega))
    have h3 := List.length_erase_of_mem h1
    have h4 : 0 < L.length := List.length_pos_of_mem h1
    omega
theorem order_range {n : Nat} {L : List Int} (h : orderB n L = true) : ∀ y ∈ L, 0 ≤ y ∧ y < (n : Int) := by
  unfold orderB at h
  rw [Bool.and_eq_true, List.all_eq_true, decide_eq_true_eq] at h
  intro y hy
  rcases Int.lt_or_le y 0 with a | a
  · exfalso
    have h2 := all_len n (L.erase y) (fun s hs => by
      rw [List.mem_erase_of_ne (by omega)]
      exact hasB_mem (h.1 s (List.mem_range.2 hs)))
    have h3 := List.length_erase_of_mem hy
    have h4 : 0 < L.length := List.length_pos_of_mem hy
    omega
  · refine ⟨a, ?_⟩
    rcases Int.lt_or_le y n with b | b
    · exact b
    · exfalso
      have h2 := all_len n (L.erase y) (fun s hs => by
        rw [List.mem_erase_of_ne (by omega)]
        exact hasB_mem (h.1 s (List.mem_range.2 hs)))
      have h3 := List.length_erase_of_mem hy
      have h4 : 0 < L.length := List.length_pos_of_mem hy
      omega
theorem order_map {n : Nat} {L : List Int} (h : orderB n L = true) : mapB (n : Int) L = true := by
  have hl : L.length = n := by unfold orderB at h; rw [Bool.and_eq_true, decide_eq_true_eq] at h; exact h.2
  refine mapB_t ?_ (by omega)
  rw [List.all_eq_true]
  exact fun y hy => belowB_t (order_range h y hy)
theorem order_len {n : Nat} {L : List Int} (h : orderB n L = true) : L.length = n := by unfold orderB at h; rw [Bool.and_eq_true, decide_eq_true_eq] at h; exact h.2
theorem map_range {n : Nat} {L : List Int} (h : mapB (n : Int) L = true) : (∀ y ∈ L, 0 ≤ y ∧ y < (n : Int)) ∧ L.length = n := by
  unfold mapB at h
  rw [Bool.and_eq_true, List.all_eq_true, decide_eq_true_eq] at h
  refine ⟨fun y hy => ?_, by omega⟩
  have := h.1 y hy
  unfold belowB at this
  rwa [decide_eq_true_eq] at this
/-- The program's test: as many different states as the list is long. -/
theorem order_marks {n : Nat} {L : List Int} (hn : n ≤ 10) (h : mapB (n : Int) L = true) : (setL (fun q : Nat => hasB L (q : Int)) 10).length = n ↔ orderB n L = true := by
  obtain ⟨hr, hl⟩ := map_range h
  rw [setL_full hn (fun q hq => by have := hr _ (hasB_mem hq); omega)]
  constructor
  · exact fun h => orderB_t h hl
  · intro h q hq
    unfold orderB at h
    rw [Bool.and_eq_true, List.all_eq_true] at h
    exact h.1 q (List.mem_range.2 hq)

theorem l01Order_any (A : Option Addr) (l cap n : Nat) (xs : List Int) (w : World) (h : NumsAt w A l xs) (hl : l ≤ 4611686018427387904) (hn : n ≤ 10) :
    Calls Try.prog 81 #[.slice A l cap, .int .i64 (n : Int)] w fun e w' => e = .returned (.bool (orderB n xs)) ∧ w = w' := by
  have HL := Lib.hid h.1
  go_enter Try.func81, Try.ntmps81
  go_wp2_with fail
  go_loop [5] (fun i => ∃ k : Nat, k ≤ n ∧ i = .int .i64 k ∧ ∀ s, s < k → hasB xs ((s : Nat) : Int) = true) (fun i => n - (intOf i).toNat)
  case atStart => exact ⟨0, Nat.zero_le _, rfl, fun s hs => by omega⟩
  case round =>
    obtain ⟨k, hk, rfl, hall⟩ := hrel
    have HA := Lib.hid hall
    clear hall
    by_cases hlt : k < n
    · have hp := placeOf_has (xs := xs) (v := (k : Int)) 0
      obtain ⟨V, hV⟩ : ∃ V, V = placeOf xs (k : Int) 0 := ⟨_, rfl⟩
      rw [← hV] at hp
      have HV := Lib.hid hV
      clear hV
      rcases hhas : hasB xs (k : Int) with _ | _
      · have HH := Lib.hid hhas
        rw [hhas] at hp
        go_wp2_with fail
        refine (l01Place_any A l cap xs (k : Int) _ h hl).mono ?_
        rw [← HV.out]
        rintro e w' ⟨rfl, rfl⟩
        have hp' : decide (V < 0) = true := hp
        clear hp
        go_wp2_with fail
        go_ret
        exact ⟨ret_bool (orderB_f hlt HH.out).symm, rfl⟩
      · have HH := Lib.hid hhas
        rw [hhas] at hp
        go_wp2_with fail
        refine (l01Place_any A l cap xs (k : Int) _ h hl).mono ?_
        rw [← HV.out]
        rintro e w' ⟨rfl, rfl⟩
        have hp' : decide (V < 0) = false := hp
        clear hp
        go_wp2_with fail
        go_round
        case rel =>
          refine ⟨k + 1, by omega, by go_num, fun s hs => ?_⟩
          rcases Nat.lt_or_ge s k with a | a
          · exact HA.out s a
          · obtain rfl : s = k := by omega
            exact HH.out
        case measure => simp [intOf]; omega
    · have hkn : k = n := by omega
      subst hkn
      by_cases he : l = k
      · have hz : ((l : Int) == (k : Int)) = true := by rw [beq_iff_eq]; omega
        have HE := Lib.hid he
        clear he
        go_wp2_with fail
        go_ret
        exact ⟨ret_bool (orderB_t HA.out (HL.out.trans HE.out)).symm, rfl⟩
      · have hz : ((l : Int) == (k : Int)) = false := by rw [beq_eq_false_iff_ne]; omega
        have HE := Lib.hid he
        clear he
        go_wp2_with fail
        go_ret
        exact ⟨ret_bool (orderB_g (by rw [HL.out]; exact HE.out)).symm, rfl⟩

/-- What RenumberStates answers. -/
noncomputable def renumberStates (s : Int) (xss : List (List Int)) (L : List Int) : Int × List (List Int) × Int :=
  if okA s xss = true then (if orderB s.toNat L = true then (s, rowsF s.toNat (selF xss L) xss.length, 0) else (0, [], 2)) else (0, [], 1)
theorem renumberStates_1 {s : Int} {xss : List (List Int)} {L : List Int} (h : okA s xss = false) : renumberStates s xss L = (0, [], 1) := by unfold renumberStates; rw [if_neg (by simp [h])]
theorem renumberStates_2 {n : Nat} {xss : List (List Int)} {L : List Int} (h : okA (n : Int) xss = true) (h' : orderB n L = false) : renumberStates (n : Int) xss L = (0, [], 2) := by unfold renumberStates; rw [if_pos h, Int.toNat_natCast, if_neg (by simp [h'])]
theorem renumberStates_0 {n m : Nat} {xss : List (List Int)} {L : List Int} (h : okA (n : Int) xss = true) (hm : xss.length = m) (h' : orderB n L = true) : renumberStates (n : Int) xss L = ((n : Int), rowsF n (selF xss L) m, 0) := by unfold renumberStates; rw [if_pos h, Int.toNat_natCast, if_pos h', hm]
theorem renumberStates_len (s : Int) (xss : List (List Int)) (L : List Int) : (renumberStates s xss L).2.1.length ≤ 10 := by
  unfold renumberStates
  split
  · rename_i h
    obtain ⟨_, h2, _⟩ := okA_parts h
    split
    · rw [rowsF_len]; omega
    · simp
  · simp
theorem renumberStates_sum (s : Int) (xss : List (List Int)) (L : List Int) : sumLens (renumberStates s xss L).2.1 ≤ 100 := by
  unfold renumberStates
  split
  · rename_i h
    obtain ⟨h1, h2, _⟩ := okA_parts h
    split
    · show sumLens (rowsF _ _ _) ≤ 100
      rw [rowsF_sum]
      have : xss.length * s.toNat ≤ 3 * 10 := Nat.mul_le_mul (by omega) (by omega)
      omega
    · simp [sumLens]
  · simp [sumLens]

set_option maxRecDepth 100000 in
set_option maxHeartbeats 3000000 in
theorem implRenumberStates_any (s : Int) (A : Option Addr) (m cap : Nat) (xss : List (List Int)) (AL : Option Addr) (nl cl : Nat) (L : List Int) (w : World) (h : RowsAt w A m xss) (hm : m ≤ 4611686018427387904)
    (hrows : ∀ (r : Nat) (xs : List Int), xss[r]? = some xs → xs.length ≤ 4611686018427387904) (hL : NumsAt w AL nl L) (hl : nl ≤ 4611686018427387904) :
    Calls Try.prog 37 #[.agg #[.int .i64 s, .slice A m cap], .slice AL nl cl] w (AutosTo (renumberStates s xss L) w) := by
  have HR := Lib.hid hrows
  have HM := Lib.hid h.1
  have HNLEN := Lib.hid hL.1
  obtain ⟨W2, hW2⟩ : ∃ W2, W2 = (w.alloc (.cells #[.int .i64 s, .slice A m cap] 29)).alloc (.cells #[.int .i64 0, .slice none 0 0] 29) := ⟨_, rfl⟩
  have b2 : Below w.heap.size w W2 := by rw [hW2]; go_grown
  have B2 := Lib.hid b2
  have x0 : W2.cell? ⟨w.heap.size, 0, none⟩ = some (.int .i64 s) := by rw [hW2]; go_cell
  have x1 : W2.cell? ⟨w.heap.size, 1, none⟩ = some (.slice A m cap) := by rw [hW2]; go_cell
  have xr : W2.heap[w.heap.size + 1]? = some (.cells #[.int .i64 0, .slice none 0 0] 29 (0, 0)) := by
    have := heap_alloc_new (w.alloc (.cells #[.int .i64 s, .slice A m cap] 29)) (.cells #[.int .i64 0, .slice none 0 0] 29)
    rw [World.size_alloc, ← hW2] at this
    exact this
  have H2 := Lib.hid (h.below b2)
  have N2 := Lib.hid (hL.below b2)
  have X0 := Lib.hid x0
  have X1 := Lib.hid x1
  have XR := Lib.hid xr
  have HW2 := Lib.hid hW2
  clear hrows b2 x0 x1 xr hW2
  rcases hok : okA s xss with _ | _
  · have HF := Lib.hid (renumberStates_1 (L := L) hok)
    have x0 := X0.out
    have x1 := X1.out
    rw [HW2.out] at x0 x1
    go_enter Try.func37, Try.ntmps37
    go_wp2_with fail
    rw [← HW2.out]
    refine (implValid_any s A m cap xss _ H2.out hm HR.out).mono ?_
    rw [hok]
    rintro e w1 ⟨rfl, b1⟩
    have d0 : w1.cell? ⟨w.heap.size, 0, none⟩ = some (.int .i64 s) := (b1.cell (cell_lt X0.out)).trans X0.out
    have d1 : w1.cell? ⟨w.heap.size, 1, none⟩ = some (.slice A m cap) := (b1.cell (cell_lt X1.out)).trans X1.out
    have xr := (b1.block _ (block_lt XR.out)).trans XR.out
    obtain ⟨e0, e1, e2, e3⟩ := box2_cells xr
    have H1 := Lib.hid (H2.out.below b1)
    have N1 := Lib.hid (N2.out.below b1)
    have B1 := Lib.hid (below_then B2.out b1)
    obtain ⟨g2, g3⟩ := box2_set xr (.int .i64 0) (.slice none 0 0)
    have XR1 := Lib.hid xr
    clear b1 xr
    clear x0 x1
    go_wp2_with fail
    refine bodyPost_ret (v := .tuple #[.agg #[.int .i64 0, .slice none 0 0], .int .i64 1]) (by simp [results, Try.results37, go_sem, g2, g3]) rfl ?_
    exact autosTo_mk HF.out (tab_nil _ _ _) ((B1.out.setCell (by simp; try omega) _).setCell (by simp; try omega) _)
  · obtain ⟨n, hsn, hg⟩ := good_of hok HM.out
    subst hsn
    have HG := Lib.hid hg
    have hn10 : n ≤ 10 := hg.n10
    clear hg
    rcases hmap : mapB (n : Int) L with _ | _
    · have HF := Lib.hid (renumberStates_2 hok (by rcases h2 : orderB n L with _ | _; rfl; rw [order_map h2] at hmap; cases hmap))
      have x0 := X0.out
      have x1 := X1.out
      rw [HW2.out] at x0 x1
      go_enter Try.func37, Try.ntmps37
      go_wp2_with fail
      rw [← HW2.out]
      refine (implValid_any (n : Int) A m cap xss _ H2.out hm HR.out).mono ?_
      rw [hok]
      rintro e w1 ⟨rfl, b1⟩
      have d0 : w1.cell? ⟨w.heap.size, 0, none⟩ = some (.int .i64 (n : Int)) := (b1.cell (cell_lt X0.out)).trans X0.out
      have d1 : w1.cell? ⟨w.heap.size, 1, none⟩ = some (.slice A m cap) := (b1.cell (cell_lt X1.out)).trans X1.out
      have xr := (b1.block _ (block_lt XR.out)).trans XR.out
      obtain ⟨e0, e1, e2, e3⟩ := box2_cells xr
      have H1 := Lib.hid (H2.out.below b1)
      have N1 := Lib.hid (N2.out.below b1)
      have B1 := Lib.hid (below_then B2.out b1)
      obtain ⟨g2, g3⟩ := box2_set xr (.int .i64 0) (.slice none 0 0)
      have XR1 := Lib.hid xr
      clear b1 xr
      clear x0 x1
      go_wp2_with fail
      refine (isStateList_any AL nl cl L (n : Int) _ N1.out hl).mono ?_
      rw [hmap]
      rintro e w' ⟨rfl, rfl⟩
      go_wp2_with fail
      refine bodyPost_ret (v := .tuple #[.agg #[.int .i64 0, .slice none 0 0], .int .i64 2]) (by simp [results, Try.results37, go_sem, g2, g3]) rfl ?_
      exact autosTo_mk HF.out (tab_nil _ _ _) ((B1.out.setCell (by simp; try omega) _).setCell (by simp; try omega) _)
    · obtain ⟨hin, hlen⟩ := map_range hmap
      have hnl : nl = n := HNLEN.out.symm.trans hlen
      subst hnl
      have hin10 : ∀ y ∈ L, 0 ≤ y ∧ y < 10 := fun y hy => by have := hin y hy; omega
      have HIN := Lib.hid hin
      have HIN10 := Lib.hid hin10
      obtain ⟨M, hM⟩ : ∃ M, M = setL (fun q : Nat => hasB L (q : Int)) 10 := ⟨_, rfl⟩
      have hom := order_marks hn10 hmap
      rw [← hM] at hom
      have hML : M.length ≤ 10 := by rw [hM]; exact setL_len _ _
      have HMM := Lib.hid hM
      have HOM := Lib.hid hom
      clear hin hin10 hlen hM hom
      by_cases hno : M.length = nl
      · have HO := Lib.hid (HOM.out.1 hno)
        have hz : ((M.length : Int) != (nl : Int)) = false := by rw [bne_eq_false_iff_eq]; omega
        have hz' : ((M.length : Int) == (nl : Int)) = true := by rw [beq_iff_eq]; omega
        have HF := Lib.hid (renumberStates_0 hok HM.out HO.out)
        clear hno
        have x0 := X0.out
        have x1 := X1.out
        rw [HW2.out] at x0 x1
        go_enter Try.func37, Try.ntmps37
        go_wp2_with fail
        rw [← HW2.out]
        refine (implValid_any (nl : Int) A m cap xss _ H2.out hm HR.out).mono ?_
        rw [hok]
        rintro e w1 ⟨rfl, b1⟩
        have d0 : w1.cell? ⟨w.heap.size, 0, none⟩ = some (.int .i64 (nl : Int)) := (b1.cell (cell_lt X0.out)).trans X0.out
        have d1 : w1.cell? ⟨w.heap.size, 1, none⟩ = some (.slice A m cap) := (b1.cell (cell_lt X1.out)).trans X1.out
        have xr := (b1.block _ (block_lt XR.out)).trans XR.out
        obtain ⟨e0, e1, e2, e3⟩ := box2_cells xr
        have H1 := Lib.hid (H2.out.below b1)
        have N1 := Lib.hid (N2.out.below b1)
        have B1 := Lib.hid (below_then B2.out b1)
        obtain ⟨g2, g3⟩ := box2_set xr (.int .i64 0) (.slice none 0 0)
        have XR1 := Lib.hid xr
        clear b1 xr
        clear x0 x1 e0 e1 e2 e3 g2 g3
        go_wp2_with fail
        refine (isStateList_any AL nl cl L (nl : Int) _ N1.out hl).mono ?_
        rw [hmap]
        rintro e w' ⟨rfl, rfl⟩
        go_wp2_with fail
        refine (markSet_any AL nl cl L _ N1.out hl HIN10.out).mono ?_
        rintro e w2 ⟨rfl, b2⟩
        have B2' := Lib.hid (below_then B1.out b2)
        go_wp2_with fail
        refine (marksSet_any (fun q : Nat => hasB L (q : Int)) _).mono ?_
        rw [← HMM.out]
        rintro e w3 ⟨v, rfl, o3, b3⟩
        obtain ⟨V3, c3, rfl⟩ := own_form o3
        have b23 := below_then b2 b3
        have d0 : w3.cell? ⟨w.heap.size, 0, none⟩ = some (.int .i64 (nl : Int)) := (b23.cell (cell_lt d0)).trans d0
        have d1 : w3.cell? ⟨w.heap.size, 1, none⟩ = some (.slice A m cap) := (b23.cell (cell_lt d1)).trans d1
        have H3 := Lib.hid (H1.out.below b23)
        have N3 := Lib.hid (N1.out.below b23)
        have XR3 := Lib.hid ((b23.block _ (block_lt XR1.out)).trans XR1.out)
        have B3 := Lib.hid (below_then B1.out b23)
        clear b2 b3 b23 o3
        go_wp2_with fail
        refine (selectStates_any A AL nl m cap nl cl xss L _ HG.out H3.out N3.out HIN.out hn10).mono ?_
        rintro e w4 ⟨v, rfl, t4, b4⟩
        obtain ⟨V4, c4, rfl⟩ := t4.form
        have xr := (b4.block _ (block_lt XR3.out)).trans XR3.out
        obtain ⟨e0, e1, e2, e3⟩ := box2_cells xr
        obtain ⟨g2, g3⟩ := box2_set xr (.int .i64 (nl : Int)) (.slice V4 (rowsF nl (selF xss L) m).length c4)
        have T4 := Lib.hid t4
        have B4 := Lib.hid (below_then B3.out b4)
        have hl3 := Lib.hid (block_lt XR3.out)
        have hl0 := Lib.hid B3.out.size
        clear t4 b4 xr d0 d1
        go_wp2_with fail
        refine bodyPost_ret (v := .tuple #[.agg #[.int .i64 (nl : Int), .slice V4 (rowsF nl (selF xss L) m).length c4], .int .i64 0]) (by simp [results, Try.results37, go_sem, g2, g3]) rfl ?_
        refine autosTo_mk HF.out ?_ ((B4.out.setCell (by simp) _).setCell (by simp) _)
        rw [set2_size]
        exact (T4.out.only (set2_only _ _ _ _) (.inr hl3.out)).wide hl0.out (Nat.le_refl _)
      · have HF := Lib.hid (renumberStates_2 hok (by rcases h2 : orderB nl L with _ | _; rfl; exact absurd (HOM.out.2 h2) hno))
        have hz : ((M.length : Int) != (nl : Int)) = true := by rw [bne_iff_ne]; omega
        have hz' : ((M.length : Int) == (nl : Int)) = false := by rw [beq_eq_false_iff_ne]; omega
        clear hno
        have x0 := X0.out
        have x1 := X1.out
        rw [HW2.out] at x0 x1
        go_enter Try.func37, Try.ntmps37
        go_wp2_with fail
        rw [← HW2.out]
        refine (implValid_any (nl : Int) A m cap xss _ H2.out hm HR.out).mono ?_
        rw [hok]
        rintro e w1 ⟨rfl, b1⟩
        have d0 : w1.cell? ⟨w.heap.size, 0, none⟩ = some (.int .i64 (nl : Int)) := (b1.cell (cell_lt X0.out)).trans X0.out
        have d1 : w1.cell? ⟨w.heap.size, 1, none⟩ = some (.slice A m cap) := (b1.cell (cell_lt X1.out)).trans X1.out
        have xr := (b1.block _ (block_lt XR.out)).trans XR.out
        obtain ⟨e0, e1, e2, e3⟩ := box2_cells xr
        have H1 := Lib.hid (H2.out.below b1)
        have N1 := Lib.hid (N2.out.below b1)
        have B1 := Lib.hid (below_then B2.out b1)
        obtain ⟨g2, g3⟩ := box2_set xr (.int .i64 0) (.slice none 0 0)
        have XR1 := Lib.hid xr
        clear b1 xr
        clear x0 x1 e0 e1 e2 e3 g2 g3
        go_wp2_with fail
        refine (isStateList_any AL nl cl L (nl : Int) _ N1.out hl).mono ?_
        rw [hmap]
        rintro e w' ⟨rfl, rfl⟩
        go_wp2_with fail
        refine (markSet_any AL nl cl L _ N1.out hl HIN10.out).mono ?_
        rintro e w2 ⟨rfl, b2⟩
        have B2' := Lib.hid (below_then B1.out b2)
        go_wp2_with fail
        refine (marksSet_any (fun q : Nat => hasB L (q : Int)) _).mono ?_
        rw [← HMM.out]
        rintro e w3 ⟨v, rfl, o3, b3⟩
        obtain ⟨V3, c3, rfl⟩ := own_form o3
        have b23 := below_then b2 b3
        have xr := (b23.block _ (block_lt XR1.out)).trans XR1.out
        obtain ⟨e0, e1, e2, e3⟩ := box2_cells xr
        obtain ⟨g2, g3⟩ := box2_set xr (.int .i64 0) (.slice none 0 0)
        have B3 := Lib.hid (below_then B1.out b23)
        clear b2 b3 b23 o3 xr d0 d1
        go_wp2_with fail
        refine bodyPost_ret (v := .tuple #[.agg #[.int .i64 0, .slice none 0 0], .int .i64 2]) (by simp [results, Try.results37, go_sem, g2, g3]) rfl ?_
        exact autosTo_mk HF.out (tab_nil _ _ _) ((B3.out.setCell (by simp; try omega) _).setCell (by simp; try omega) _)

set_option maxRecDepth 100000 in
set_option maxHeartbeats 3000000 in
theorem specRenumberStates_any (s : Int) (A : Option Addr) (m cap : Nat) (xss : List (List Int)) (AL : Option Addr) (nl cl : Nat) (L : List Int) (w : World) (h : RowsAt w A m xss) (hm : m ≤ 4611686018427387904)
    (hrows : ∀ (r : Nat) (xs : List Int), xss[r]? = some xs → xs.length ≤ 4611686018427387904) (hL : NumsAt w AL nl L) (hl : nl ≤ 4611686018427387904) :
    Calls Try.prog 36 #[.agg #[.int .i64 s, .slice A m cap], .slice AL nl cl] w (AutosTo (renumberStates s xss L) w) := by
  have HR := Lib.hid hrows
  have HM := Lib.hid h.1
  have HNLEN := Lib.hid hL.1
  obtain ⟨W2, hW2⟩ : ∃ W2, W2 = (w.alloc (.cells #[.int .i64 s, .slice A m cap] 29)).alloc (.cells #[.int .i64 0, .slice none 0 0] 29) := ⟨_, rfl⟩
  have b2 : Below w.heap.size w W2 := by rw [hW2]; go_grown
  have B2 := Lib.hid b2
  have x0 : W2.cell? ⟨w.heap.size, 0, none⟩ = some (.int .i64 s) := by rw [hW2]; go_cell
  have x1 : W2.cell? ⟨w.heap.size, 1, none⟩ = some (.slice A m cap) := by rw [hW2]; go_cell
  have xr : W2.heap[w.heap.size + 1]? = some (.cells #[.int .i64 0, .slice none 0 0] 29 (0, 0)) := by
    have := heap_alloc_new (w.alloc (.cells #[.int .i64 s, .slice A m cap] 29)) (.cells #[.int .i64 0, .slice none 0 0] 29)
    rw [World.size_alloc, ← hW2] at this
    exact this
  have H2 := Lib.hid (h.below b2)
  have N2 := Lib.hid (hL.below b2)
  have X0 := Lib.hid x0
  have X1 := Lib.hid x1
  have XR := Lib.hid xr
  have HW2 := Lib.hid hW2
  clear hrows b2 x0 x1 xr hW2
  rcases hok : okA s xss with _ | _
  · have HF := Lib.hid (renumberStates_1 (L := L) hok)
    go_enter Try.func36, Try.ntmps36
    go_wp2_with fail
    rw [← HW2.out]
    refine (l01Ok_any w.heap.size s A m cap xss _ X0.out X1.out H2.out hm HR.out).mono ?_
    rw [hok]
    rintro e w1 ⟨rfl, d, rfl⟩
    have b1 : Below W2.heap.size W2 (W2.drewN d) := below_drewN' (Below.refl _ _) d
    obtain ⟨w1, hw1⟩ : ∃ w1, w1 = W2.drewN d := ⟨_, rfl⟩
    rw [← hw1] at b1 ⊢
    have d0 : w1.cell? ⟨w.heap.size, 0, none⟩ = some (.int .i64 s) := (b1.cell (cell_lt X0.out)).trans X0.out
    have d1 : w1.cell? ⟨w.heap.size, 1, none⟩ = some (.slice A m cap) := (b1.cell (cell_lt X1.out)).trans X1.out
    have xr := (b1.block _ (block_lt XR.out)).trans XR.out
    obtain ⟨e0, e1, e2, e3⟩ := box2_cells xr
    have H1 := Lib.hid (H2.out.below b1)
    have N1 := Lib.hid (N2.out.below b1)
    have B1 := Lib.hid (below_then B2.out b1)
    obtain ⟨g2, g3⟩ := box2_set xr (.int .i64 0) (.slice none 0 0)
    have XR1 := Lib.hid xr
    clear b1 xr hw1
    go_wp2_with fail
    refine bodyPost_ret (v := .tuple #[.agg #[.int .i64 0, .slice none 0 0], .int .i64 1]) (by simp [results, Try.results36, go_sem, g2, g3]) rfl ?_
    exact autosTo_mk HF.out (tab_nil _ _ _) ((B1.out.setCell (by simp; try omega) _).setCell (by simp; try omega) _)
  · obtain ⟨n, hsn, hg⟩ := good_of hok HM.out
    subst hsn
    have HG := Lib.hid hg
    have hn10 : n ≤ 10 := hg.n10
    clear hg
    rcases hord : orderB n L with _ | _
    · have HF := Lib.hid (renumberStates_2 hok hord)
      go_enter Try.func36, Try.ntmps36
      go_wp2_with fail
      rw [← HW2.out]
      refine (l01Ok_any w.heap.size (n : Int) A m cap xss _ X0.out X1.out H2.out hm HR.out).mono ?_
      rw [hok]
      rintro e w1 ⟨rfl, d, rfl⟩
      have b1 : Below W2.heap.size W2 (W2.drewN d) := below_drewN' (Below.refl _ _) d
      obtain ⟨w1, hw1⟩ : ∃ w1, w1 = W2.drewN d := ⟨_, rfl⟩
      rw [← hw1] at b1 ⊢
      have d0 : w1.cell? ⟨w.heap.size, 0, none⟩ = some (.int .i64 (n : Int)) := (b1.cell (cell_lt X0.out)).trans X0.out
      have d1 : w1.cell? ⟨w.heap.size, 1, none⟩ = some (.slice A m cap) := (b1.cell (cell_lt X1.out)).trans X1.out
      have xr := (b1.block _ (block_lt XR.out)).trans XR.out
      obtain ⟨e0, e1, e2, e3⟩ := box2_cells xr
      have H1 := Lib.hid (H2.out.below b1)
      have N1 := Lib.hid (N2.out.below b1)
      have B1 := Lib.hid (below_then B2.out b1)
      obtain ⟨g2, g3⟩ := box2_set xr (.int .i64 0) (.slice none 0 0)
      have XR1 := Lib.hid xr
      clear b1 xr hw1
      go_wp2_with fail
      refine (l01Order_any AL nl cl n L _ N1.out hl hn10).mono ?_
      rw [hord]
      rintro e w' ⟨rfl, rfl⟩
      go_wp2_with fail
      refine bodyPost_ret (v := .tuple #[.agg #[.int .i64 0, .slice none 0 0], .int .i64 2]) (by simp [results, Try.results36, go_sem, g2, g3]) rfl ?_
      exact autosTo_mk HF.out (tab_nil _ _ _) ((B1.out.setCell (by simp; try omega) _).setCell (by simp; try omega) _)
    · have HF := Lib.hid (renumberStates_0 hok HM.out hord)
      have hnl : nl = n := HNLEN.out.symm.trans (order_len hord)
      subst hnl
      have HIN := Lib.hid (order_range hord)
      go_enter Try.func36, Try.ntmps36
      go_wp2_with fail
      rw [← HW2.out]
      refine (l01Ok_any w.heap.size (nl : Int) A m cap xss _ X0.out X1.out H2.out hm HR.out).mono ?_
      rw [hok]
      rintro e w1 ⟨rfl, d, rfl⟩
      have b1 : Below W2.heap.size W2 (W2.drewN d) := below_drewN' (Below.refl _ _) d
      obtain ⟨w1, hw1⟩ : ∃ w1, w1 = W2.drewN d := ⟨_, rfl⟩
      rw [← hw1] at b1 ⊢
      have d0 : w1.cell? ⟨w.heap.size, 0, none⟩ = some (.int .i64 (nl : Int)) := (b1.cell (cell_lt X0.out)).trans X0.out
      have d1 : w1.cell? ⟨w.heap.size, 1, none⟩ = some (.slice A m cap) := (b1.cell (cell_lt X1.out)).trans X1.out
      have xr := (b1.block _ (block_lt XR.out)).trans XR.out
      obtain ⟨e0, e1, e2, e3⟩ := box2_cells xr
      have H1 := Lib.hid (H2.out.below b1)
      have N1 := Lib.hid (N2.out.below b1)
      have B1 := Lib.hid (below_then B2.out b1)
      obtain ⟨g2, g3⟩ := box2_set xr (.int .i64 0) (.slice none 0 0)
      have XR1 := Lib.hid xr
      clear b1 xr hw1
      clear e0 e1 e2 e3 g2 g3
      go_wp2_with fail
      refine (l01Order_any AL nl cl nl L _ N1.out hl hn10).mono ?_
      rw [hord]
      rintro e w' ⟨rfl, rfl⟩
      go_wp2_with fail
      refine (l01Renumbered_any w.heap.size A AL nl m cap nl cl xss L _ HG.out d0 d1 H1.out N1.out HIN.out hn10).mono ?_
      rintro e w4 ⟨v, rfl, t4, b4⟩
      obtain ⟨V4, c4, rfl⟩ := t4.form
      have xr := (b4.block _ (block_lt XR1.out)).trans XR1.out
      obtain ⟨e0, e1, e2, e3⟩ := box2_cells xr
      obtain ⟨g2, g3⟩ := box2_set xr (.int .i64 (nl : Int)) (.slice V4 (rowsF nl (selF xss L) m).length c4)
      have T4 := Lib.hid t4
      have B4 := Lib.hid (below_then B1.out b4)
      have hl3 := Lib.hid (block_lt XR1.out)
      have hl0 := Lib.hid B1.out.size
      clear t4 b4 xr d0 d1
      go_wp2_with fail
      refine bodyPost_ret (v := .tuple #[.agg #[.int .i64 (nl : Int), .slice V4 (rowsF nl (selF xss L) m).length c4], .int .i64 0]) (by simp [results, Try.results36, go_sem, g2, g3]) rfl ?_
      refine autosTo_mk HF.out ?_ ((B4.out.setCell (by simp) _).setCell (by simp) _)
      rw [set2_size]
      exact (T4.out.only (set2_only _ _ _ _) (.inr hl3.out)).wide hl0.out (Nat.le_refl _)

end Go.Proofs.Ytfkmpabohebcfaa
