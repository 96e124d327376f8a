/-
  The pairs of states of a set: the contract of pairs.
-/
import Derived.Test.YtcglncepmieaaaaSts
namespace Go.Proofs.Ytcglncepmieaaaa
open Go.RowKit Go.Deep Go.ChangeShapes Go.WideShapes
open Hunt Srch From Moved

/-- The pairs of the place i of a list with k of those behind it; those of all places below i. -/
def prsU (L : List Int) (i k : Nat) : List Nat := (List.range k).map fun j => setN [L.getD i 0, L.getD (i + 1 + j) 0]
def prsL (L : List Int) (i : Nat) : List Nat := (List.range i).flatMap fun i => prsU L i (L.length - (i + 1))
theorem prsU_succ (L : List Int) (i k : Nat) : prsU L i (k + 1) = prsU L i k ++ [setN [L.getD i 0, L.getD (i + 1 + k) 0]] := by simp [prsU, List.range_succ]
theorem prsL_succ (L : List Int) (i : Nat) : prsL L (i + 1) = prsL L i ++ prsU L i (L.length - (i + 1)) := by simp [prsL, List.range_succ]
theorem prsU_len (L : List Int) (i k : Nat) : (prsU L i k).length = k := by simp [prsU]
theorem prsL_len (L : List Int) : ∀ i, (prsL L i).length ≤ i * L.length
  | 0 => by simp [prsL]
  | i + 1 => by
    rw [prsL_succ, List.length_append, prsU_len]
    have := prsL_len L i
    rw [Nat.add_mul]
    omega
/-- All pairs of a set. -/
def prsS (b : Nat) : List Nat := prsL (listK b 10) (listK b 10).length
theorem listK_in {b k : Nat} {x : Int} (h : x ∈ listK b k) : 0 ≤ x ∧ x < (k : Int) := by
  unfold listK at h
  obtain ⟨q, hq, rfl⟩ := List.mem_map.1 h
  have := List.mem_range.1 (List.mem_filter.1 hq).1
  omega
theorem getD_mem10 {b : Nat} (i : Nat) : 0 ≤ (listK b 10).getD i 0 ∧ (listK b 10).getD i 0 < 10 := by
  rcases Nat.lt_or_ge i (listK b 10).length with h | h
  · have := listK_in (show (listK b 10).getD i 0 ∈ listK b 10 by rw [List.getD_eq_getElem?_getD, List.getElem?_eq_getElem h]; exact List.getElem_mem h)
    exact this
  · rw [List.getD_eq_getElem?_getD, List.getElem?_eq_none h]; simp
theorem prsS_lt {b c : Nat} (h : c ∈ prsS b) : c < 1024 := by
  unfold prsS prsL prsU at h
  obtain ⟨i, _, h⟩ := List.mem_flatMap.1 h
  obtain ⟨j, _, rfl⟩ := List.mem_map.1 h
  refine setN_lt 2 _ rfl fun x hx => ?_
  simp only [List.mem_cons, List.not_mem_nil, or_false] at hx
  rcases hx with rfl | rfl <;> exact getD_mem10 _
theorem listK_le10 (b : Nat) : (listK b 10).length ≤ 10 := by
  unfold listK
  rw [List.length_map]
  exact Nat.le_trans (List.length_filter_le _ _) (by rw [List.length_range]; omega)
theorem prsS_len (b : Nat) : (prsS b).length ≤ 100 := by
  unfold prsS
  have h1 := prsL_len (listK b 10) (listK b 10).length
  have h2 := listK_le10 b
  have h3 : (listK b 10).length * (listK b 10).length ≤ 10 * 10 := Nat.mul_le_mul h2 h2
  omega

/-- A list of a call's own, cut behind some of its places. -/
theorem own_cells {w : World} {base : Nat} {A : Option Addr} {n c : Nat} {L : List Int} (h : w.ownsRow base 2 1 (.slice A n c) n (L.map (Value.int .i64))) (hn : L.length = n) (h0 : 0 < n) :
    ∃ g, A = some ⟨g, 0, none⟩ ∧ n ≤ c ∧ ∀ i, i < n → w.cell? ⟨g, i, none⟩ = some (.int .i64 (L.getD i 0)) := by
  rcases h.2 with ⟨hv, h1⟩ | ⟨g, cap', cur, hv, hg, hh, hnc, rest⟩
  · simp only [Value.slice.injEq] at hv; omega
  · simp only [Value.slice.injEq] at hv
    obtain ⟨rfl, _, rfl⟩ := hv
    refine ⟨g, rfl, hnc, fun i hi => ?_⟩
    rw [h.cellAt i (by omega), List.getElem?_map, List.getElem?_eq_getElem (by omega), Option.map_some, List.getD_eq_getElem?_getD, List.getElem?_eq_getElem (by omega)]
    rfl

theorem own2_bs {w : World} {base base' z : Nat} {e : TypeId} {v : Value} {n : Nat} {cs : List Value} (h : w.ownsRow base e z v n cs) (hb : base' ≤ base) : w.ownsRow base' e z v n cs := by
  obtain ⟨h1, h2⟩ := h
  refine ⟨h1, ?_⟩
  rcases h2 with h2 | ⟨g, cap, cur, hv, hg, rest⟩
  · exact .inl h2
  · exact .inr ⟨g, cap, cur, hv, Nat.le_trans hb hg, rest⟩

set_option maxRecDepth 100000 in
set_option maxHeartbeats 4000000 in
theorem pairs_any (b : Nat) (w : World) (hb : b < 1024) :
    Calls Try.prog 99 #[.int .u16 (b : Int)] w fun e w' => ∃ u, e = .returned u ∧ w'.ownsRow w.heap.size 74 1 u (prsS b).length ((prsS b).map bitU) ∧ Below w.heap.size w w' := by
  obtain ⟨iS0, iS1, iS2, iS3, iS4⟩ := info_parts info_set
  go_enter Try.func99, Try.ntmps99
  go_wp2_with fail
  refine (setList_any b w hb).mono ?_
  rintro e w1 ⟨u, rfl, o1, b1⟩
  obtain ⟨L, hL⟩ : ∃ L, L = listK b 10 := ⟨_, rfl⟩
  rw [← hL] at o1
  obtain ⟨N, hN⟩ : ∃ N, N = L.length := ⟨_, rfl⟩
  rw [← hN] at o1
  have hN10 : N ≤ 10 := by rw [hN, hL]; exact listK_le10 b
  have H10 := Lib.hid (show ∀ i, 0 ≤ L.getD i 0 ∧ L.getD i 0 < 10 from fun i => by rw [hL]; exact getD_mem10 i)
  have HL := Lib.hid hL
  have HN := Lib.hid hN
  obtain ⟨A1, C1, rfl⟩ := own_form o1
  have HO1 := Lib.hid o1
  have HB1 := Lib.hid b1
  clear o1 b1 hL hN
  go_wp2_with fail
  go_loopw [3, 13] (fun ov iv wr => ∃ (k : Nat) (Y : List Nat), k ≤ N ∧ iv = .int .i64 k ∧ Y = prsL L k ∧ wr.ownsRow w1.heap.size 74 1 ov Y.length (Y.map bitU) ∧ Below w1.heap.size w1 wr) (fun _ iv _ => N - (intOf iv).toNat)
  case atStart => exact ⟨0, [], Nat.zero_le _, rfl, rfl, own2_nil _ _ _ _, Below.refl _ _⟩
  case round =>
    obtain ⟨k, Y, hk, rfl, hY, hown, hbel⟩ := hrel
    have hYl : Y.length ≤ 100 := by
      have h1 := prsL_len L k
      rw [← HN.out, ← hY] at h1
      have h3 : k * N ≤ 10 * 10 := Nat.mul_le_mul (by omega) hN10
      omega
    obtain ⟨A3, C3, rfl⟩ := own2_form hown
    have HO := Lib.hid hown
    have HB := Lib.hid hbel
    have HY := Lib.hid hY
    have h1 := own_below HO1.out hbel
    have hk0 : (0 : Int) ≤ (k : Int) := by omega
    clear hown hbel hY
    by_cases hlt : k < N
    · have hkn : (k : Int) < (N : Int) := by omega
      obtain ⟨g1, rfl, hNC, hcells⟩ := own_cells h1 (by rw [HN.out]) (by omega)
      have hck := hcells k hlt
      have HC := Lib.hid hcells
      obtain ⟨x, hx⟩ : ∃ x, x = L.getD k 0 := ⟨_, rfl⟩
      rw [← hx] at hck
      have hx10 : 0 ≤ x ∧ x < 10 := by rw [hx]; exact H10.out k
      have HX := Lib.hid hx
      obtain ⟨hx0, hx9⟩ := hx10
      clear hcells h1 hx
      go_wp2_with fail
      all_goals
        go_loopw [3, 23] (fun ov jv wi => ∃ (j : Nat) (Z : List Nat), j ≤ N - (k + 1) ∧ jv = .int .i64 j ∧ Z = Y ++ prsU L k j ∧ wi.ownsRow w1.heap.size 74 1 ov Z.length (Z.map bitU) ∧ Below w1.heap.size w1 wi ∧ (∀ i, i < N → wi.cell? ⟨g1, i, none⟩ = some (.int .i64 (L.getD i 0)))) (fun _ jv _ => N - (intOf jv).toNat)
        case atStart => exact ⟨0, Y, Nat.zero_le _, rfl, by simp [prsU], HO.out, HB.out, HC.out⟩
        case round =>
          obtain ⟨j, Z, hj, rfl, hZ, hown, hbel, hcells⟩ := hrel
          have hZl : Z.length ≤ 110 := by rw [hZ, List.length_append, prsU_len]; omega
          obtain ⟨A4, C4, rfl⟩ := own2_form hown
          have HO2 := Lib.hid hown
          have HB2 := Lib.hid hbel
          have HZ := Lib.hid hZ
          have HC2 := Lib.hid hcells
          have hj0 : (0 : Int) ≤ (j : Int) := by omega
          clear hown hbel hZ hcells hck
          by_cases hjn : j < N - (k + 1)
          · first
              | (exfalso; omega)
              | (have hcj := HC2.out (k + 1 + j) (by omega)
                 obtain ⟨y, hy⟩ : ∃ y, y = L.getD (k + 1 + j) 0 := ⟨_, rfl⟩
                 rw [← hy] at hcj
                 have hy10 : 0 ≤ y ∧ y < 10 := by rw [hy]; exact H10.out _
                 have HY2 := Lib.hid hy
                 have hjn' : (j : Int) < ((N - (k + 1) : Nat) : Int) := by omega
                 clear hy
                 have HQ := Lib.hid (show ∀ z ∈ [x, y], 0 ≤ z ∧ z < 10 from fun z hz => by
                   simp only [List.mem_cons, List.not_mem_nil, or_false] at hz
                   rcases hz with rfl | rfl
                   · exact ⟨hx0, hx9⟩
                   · exact hy10)
                 go_wp2_with fail
                 refine (setOf_any (some ⟨wr.heap.size, 0, none⟩) 2 2 [x, y] _ (nums_two wr _ _ _) HQ.out (by omega)).mono ?_
                 obtain ⟨z, hz⟩ : ∃ z, z = setN [x, y] := ⟨_, rfl⟩
                 rw [← hz]
                 have HZ3 := Lib.hid hz
                 rintro e w3 ⟨rfl, hw3⟩
                 have b3 : Below wr.heap.size wr w3 := by rw [← hw3]; exact (Below.refl _ _).alloc (Nat.le_refl _) _
                 have HB3 := Lib.hid (below_then HB2.out b3)
                 have HO3 := Lib.hid (own2_below HO2.out b3)
                 have HC3 := Lib.hid (show ∀ i, i < N → w3.cell? ⟨g1, i, none⟩ = some (.int .i64 (L.getD i 0)) from fun i hi => by
                   have h9 := HC2.out i hi
                   exact (b3.cell (cell_lt h9)).trans h9)
                 clear hw3 b3 hz hcj hy10
                 go_wp2_with (at_builtin; refine wpList_append_own _ rfl _ _ 81 rfl (w1.heap.size) 74 iS0 (.int .u16 0) 1 2 Try.underlying81 iS1 iS2 iS3 iS4 rfl (by decide) _ _ _ rfl (World.ownsRow.alloc (HO3.out) _) ⟨(w3).heap.size, 0, none⟩ 1 1 [.int .u16 (z : Int)] rfl rfl (cell_one_new _ _ _) (ones_bitU [z]) (by unfold maxLen; omega) (by omega) (by rw [World.size_alloc]; exact Nat.le_succ_of_le (HB3.out.size)) ?_)
                 intro v' w4 hown' hgrow _
                 have ba : Below w3.heap.size w3 (w3.alloc (.cells #[.int .u16 (z : Int)] 74)) := (Below.refl _ _).alloc (Nat.le_refl _) _
                 have HB4 := Lib.hid (below_grown (below_then HB3.out ba) hgrow (fun g hg => (HO3.out.lt g hg).1))
                 have HO4 := Lib.hid hown'
                 have HC4 := Lib.hid (show ∀ i, i < N → w4.cell? ⟨g1, i, none⟩ = some (.int .i64 (L.getD i 0)) from fun i hi => by
                   have h9 := HO1.out
                   obtain ⟨g9, e9, _, h8⟩ := own_cells (own_below h9 HB4.out) (by rw [HN.out]) (by omega)
                   simp only [Option.some.injEq, Addr.mk.injEq, and_true] at e9
                   rw [e9]
                   exact h8 i hi)
                 clear hown' hgrow ba
                 go_wp2_with fail
                 go_roundw
                 case rel =>
                   refine ⟨j + 1, Z ++ [z], by omega, by go_num, ?_, by rw [List.length_append, List.map_append]; exact HO4.out, HB4.out, HC4.out⟩
                   rw [prsU_succ, ← List.append_assoc, ← HZ.out, HZ3.out, HX.out, HY2.out]
                 case measure => simp [intOf]; omega)
          · have hjn' : ¬ (j : Int) < ((N - (k + 1) : Nat) : Int) := by omega
            have hje : j = N - (k + 1) := by omega
            have HJ := Lib.hid hje
            have HZ5 := Lib.hid (show Z = prsL L (k + 1) by rw [prsL_succ, ← HN.out, ← HJ.out, HZ.out, HY.out])
            clear hje hjn
            go_wp2_with fail
            first
              | exact ⟨⟨_, _, _, _, _, ⟨k + 1, by omega, by go_num, by rw [← HZ5.out]; exact HO2.out, HB2.out⟩, rfl, rfl, rfl, rfl, rfl⟩, by simp [intOf]; omega⟩
              | (go_roundw
                 case rel => exact ⟨k + 1, Z, by omega, by go_num, HZ5.out, HO2.out, HB2.out⟩
                 case measure => simp [intOf]; omega)
    · have hke : k = N := by omega
      have hkn : ¬ (k : Int) < (N : Int) := by omega
      have HK := Lib.hid hke
      clear h1 hke hlt
      go_wp2_with fail
      go_ret
      refine ⟨_, rfl, ?_, below_then HB1.out HB.out⟩
      have e : prsS b = Y := by rw [HY.out, HK.out]; unfold prsS; rw [← HL.out, ← HN.out]
      rw [e]
      exact own2_bs HO.out HB1.out.size

end Go.Proofs.Ytcglncepmieaaaa
