/-
  Lists of sets: what they read as, and the contract of listsOf (as in XDel and XClsI, for seats without lamps).
  The pairs of states of a set: the contract of pairs.
  The pairs of states with their merging words: the contract of pairWords.
  The table of the lengths of merging words, filled pair by pair: lists alone.
  The table of the lengths of all merging words: the contracts of both PairTable.
-/
import Derived.Test.YtcglncepmieaaaaList
import Derived.Test.YtcglncepmieaaaaTab
import Derived.Test.YtcglncepmieaaaaOwn2
import Derived.Test.YtcglncepmieaaaaPairs
import Derived.Test.YtcglncepmieaaaaTabl
import Derived.Test.YtcglncepmieaaaaMerge
import Derived.Test.YtcglncepmieaaaaRegr
import Derived.Deep.DeepCutAuto
import Derived.StillTailTactics
namespace Go.Proofs.Ytcglncepmieaaaa
open Go.RowKit Go.Deep Go.ChangeShapes Go.WideShapes
open Hunt Srch From Moved

def bitU (b : Nat) : Value := .int .u16 (b : Int)
theorem ones_bitU (bs : List Nat) : ∀ u ∈ bs.map bitU, u.oneCell' = true := by
  intro u hu
  obtain ⟨b, _, rfl⟩ := List.mem_map.1 hu
  rfl
/-- The slice with the address A and the length n reads as the sets bs. -/
def SetsAt (w : World) (A : Option Addr) (n : Nat) (bs : List Nat) : Prop :=
  bs.length = n ∧ ∀ (k b : Nat), bs[k]? = some b → ∃ B off, A = some ⟨B, off, none⟩ ∧ w.cell? ⟨B, off + k, none⟩ = some (.int .u16 (b : Int))
theorem SetsAt.at_ {w : World} {A : Option Addr} {n : Nat} {bs : List Nat} (h : SetsAt w A n bs) {k : Nat} (hk : k < n) : ∃ b B off, bs[k]? = some b ∧ A = some ⟨B, off, none⟩ ∧ w.cell? ⟨B, off + k, none⟩ = some (.int .u16 (b : Int)) := by
  have hl : k < bs.length := by rw [h.1]; exact hk
  obtain ⟨B, off, e, hc⟩ := h.2 k bs[k] (List.getElem?_eq_getElem hl)
  exact ⟨_, B, off, List.getElem?_eq_getElem hl, e, hc⟩
theorem SetsAt.below {w w' : World} {A : Option Addr} {n : Nat} {bs : List Nat} (h : SetsAt w A n bs) (hb : Below w.heap.size w w') : SetsAt w' A n bs :=
  ⟨h.1, fun k b hx => by
    obtain ⟨B, off, e, hc⟩ := h.2 k b hx
    exact ⟨B, off, e, (hb.cell (cell_lt hc)).trans hc⟩⟩
theorem SetsAt.own {w : World} {base : Nat} {e : TypeId} {g n c : Nat} {bs : List Nat} (h : w.ownsRow base e 1 (.slice (some ⟨g, 0, none⟩) n c) n (bs.map bitU)) (hn : bs.length = n) : SetsAt w (some ⟨g, 0, none⟩) n bs :=
  ⟨hn, fun k b hb => ⟨g, 0, rfl, by
    have hk : k < n := by
      rcases Nat.lt_or_ge k bs.length with hlt | hge
      · omega
      · rw [List.getElem?_eq_none hge] at hb; cases hb
    rw [Nat.zero_add, h.cellAt k (by omega), List.getElem?_map, hb]; rfl⟩⟩

theorem tabV_none (lo hi : Nat) (w : World) : TabV lo hi w (.slice none 0 0) [] [] := by
  refine ⟨rfl, World.ownsRow_nil _ _ _ _, fun g hg => ?_, fun r u xs hu => ?_, fun r r' u u' g hu => ?_, fun r u g hu => ?_⟩
  · simp [Value.ownBlock] at hg
  · simp at hu
  · simp at hu
  · simp at hu

set_option maxRecDepth 100000 in
set_option maxHeartbeats 4000000 in
theorem listsOf_any (A : Option Addr) (n c : Nat) (bs : List Nat) (w : World) (h : SetsAt w A n bs) (hn : n ≤ 1048576) (hb : ∀ b ∈ bs, b < 1024) :
    Calls Try.prog 64 #[.slice A n c] w fun e w' => ∃ u, e = .returned u ∧ TabIn w.heap.size w'.heap.size w' u (bs.map fun b => listK b 10) ∧ Below w.heap.size w w' := by
  obtain ⟨i1, hi1, hy0, hy1, hy2⟩ := info_parts info_ints
  have HBS := Lib.hid hb
  have HL := Lib.hid h.1
  have HH := Lib.hid h
  clear hb h
  go_enter Try.func64, Try.ntmps64
  go_wp2_with fail
  go_loopw [3, 8] (fun ov iv wr => ∃ (k : Nat) (vs : List Value) (Y : List (List Int)), k ≤ n ∧ iv = .int .i64 k ∧ Y = (bs.take k).map (fun b => listK b 10) ∧ Y.length = k ∧ TabV w.heap.size wr.heap.size wr ov vs Y ∧ Below w.heap.size w wr) (fun _ iv _ => n - (intOf iv).toNat)
  case atStart => exact ⟨0, [], [], Nat.zero_le _, rfl, rfl, rfl, tabV_none _ _ _, Below.refl _ _⟩
  case round =>
    obtain ⟨k, vs, Y, hk, rfl, hY, hYl, htab, hbel⟩ := hrel
    obtain ⟨A3, C3, rfl⟩ := own_form htab.out
    have HT := Lib.hid htab
    have HB := Lib.hid hbel
    have HYY := Lib.hid hY
    have HYL := Lib.hid hYl
    have h1 := HH.out.below hbel
    have hk0 : (0 : Int) ≤ (k : Int) := by omega
    clear htab hbel hY
    by_cases hlt : k < n
    · have hkn : (k : Int) < (n : Int) := by omega
      obtain ⟨b, b0, off, hbk, rfl, hc⟩ := h1.at_ hlt
      have hb10 := HBS.out b (List.mem_of_getElem? hbk)
      have HBK := Lib.hid hbk
      have hym : Y.length < 1048576 := by omega
      clear hbk h1 hYl
      go_wp2_with fail
      refine (setList_any b wr hb10).mono ?_
      rintro e w4 ⟨u, rfl, o4, b4⟩
      obtain ⟨Z, hZ⟩ : ∃ Z, Z = listK b 10 := ⟨_, rfl⟩
      rw [← hZ] at o4
      obtain ⟨A5, C5, rfl⟩ := own_form o4
      have HT4 := Lib.hid (HT.out.below b4)
      have HI4 := Lib.hid (IntsIn.of o4)
      have HW4 := Lib.hid (below_then HB.out b4)
      have HLE := Lib.hid (show w.heap.size ≤ w4.heap.size from HW4.out.size)
      have HN := Lib.hid (show (bs.take (k + 1)).map (fun b => listK b 10) = Y ++ [Z] by rw [take_snoc HBK.out, List.map_append, ← HYY.out, hZ]; rfl)
      clear o4 b4 hZ hc
      go_wp2_with (at_builtin; refine wpList_append_own_at _ rfl _ _ 22 rfl (w.heap.size) 35 i1 (.slice none 0 0) 1 24 Try.underlying22 hi1 hy0 hy1 hy2 rfl (by decide) _ _ _ rfl (World.ownsRow.alloc (HT4.out.out) _) ⟨(w4).heap.size, 0, none⟩ 1 1 [.slice A5 Z.length C5] rfl rfl (cell_one_new _ _ _) (by simp [Value.oneCell']) (by unfold maxLen; omega) (by omega) (by rw [World.size_alloc]; exact Nat.le_succ_of_le HLE.out) ?_)
      intro v' w5 hown' hgrow _ hat
      have ba : Below w4.heap.size w4 (w4.alloc (.cells #[.slice A5 Z.length C5] 35)) := (Below.refl _ _).alloc (Nat.le_refl _) _
      have htab2 := TabV.snoc (HT4.out.below ba) (HI4.out.below ba) hown' hgrow (by rw [World.size_alloc]; exact hat) HB.out.size (Nat.le_refl _) (by have := ba.size; omega)
      rw [← HN.out] at htab2
      have HT5 := Lib.hid htab2
      have HB5 := Lib.hid (below_grown (below_then HW4.out ba) hgrow (fun g hg => (HT4.out.out.lt g hg).1))
      have HN2 := Lib.hid (show ((bs.take (k + 1)).map (fun b => listK b 10)).length = k + 1 by rw [HN.out, List.length_append, HYL.out]; rfl)
      clear hown' hgrow hat ba htab2
      go_wp2_with fail
      go_roundw
      case rel => exact ⟨k + 1, _, _, by omega, by go_num, rfl, HN2.out, HT5.out, HB5.out⟩
      case measure => simp [intOf]; omega
    · have hkn : k = n := by omega
      have HKN := Lib.hid hkn
      clear h1 hkn hYl
      go_wp2_with fail
      go_ret
      refine ⟨_, rfl, ⟨vs, ?_⟩, HB.out⟩
      have e : bs.map (fun b => listK b 10) = Y := by rw [HYY.out, HKN.out, List.take_of_length_le (by rw [HL.out]; exact Nat.le_refl _)]
      rw [e]
      exact HT.out

end Go.Proofs.Ytcglncepmieaaaa

namespace Go.Proofs.Ytcglncepmieaaaa
open Go.RowKit Go.Deep Go.ChangeShapes Go.WideShapes
open Hunt Srch From Moved

/-- The pairs of the place i of a list with k of those behind it; those of all places below i. -/
def prsU (L : List Int) (i k : Nat) : List Nat := (List.range k).map fun j => setN [L.getD i 0, L.getD (i + 1 + j) 0]
def prsL (L : List Int) (i : Nat) : List Nat := (List.range i).flatMap fun i => prsU L i (L.length - (i + 1))
theorem prsU_succ (L : List Int) (i k : Nat) : prsU L i (k + 1) = prsU L i k ++ [setN [L.getD i 0, L.getD (i + 1 + k) 0]] := by simp [prsU, List.range_succ]
theorem prsL_succ (L : List Int) (i : Nat) : prsL L (i + 1) = prsL L i ++ prsU L i (L.length - (i + 1)) := by simp [prsL, List.range_succ]
theorem prsU_len (L : List Int) (i k : Nat) : (prsU L i k).length = k := by simp [prsU]
theorem prsL_len (L : List Int) : ∀ i, (prsL L i).length ≤ i * L.length
  | 0 => by simp [prsL]
  | i + 1 => by
    rw [prsL_succ, List.length_append, prsU_len]
    have := prsL_len L i
    rw [Nat.add_mul]
    omega
/-- All pairs of a set. -/
def prsS (b : Nat) : List Nat := prsL (listK b 10) (listK b 10).length
theorem listK_in {b k : Nat} {x : Int} (h : x ∈ listK b k) : 0 ≤ x ∧ x < (k : Int) := by
  unfold listK at h
  obtain ⟨q, hq, rfl⟩ := List.mem_map.1 h
  have := List.mem_range.1 (List.mem_filter.1 hq).1
  omega
theorem getD_mem10 {b : Nat} (i : Nat) : 0 ≤ (listK b 10).getD i 0 ∧ (listK b 10).getD i 0 < 10 := by
  rcases Nat.lt_or_ge i (listK b 10).length with h | h
  · have := listK_in (show (listK b 10).getD i 0 ∈ listK b 10 by rw [List.getD_eq_getElem?_getD, List.getElem?_eq_getElem h]; exact List.getElem_mem h)
    exact this
  · rw [List.getD_eq_getElem?_getD, List.getElem?_eq_none h]; simp
theorem prsS_lt {b c : Nat} (h : c ∈ prsS b) : c < 1024 := by
  unfold prsS prsL prsU at h
  obtain ⟨i, _, h⟩ := List.mem_flatMap.1 h
  obtain ⟨j, _, rfl⟩ := List.mem_map.1 h
  refine setN_lt 2 _ rfl fun x hx => ?_
  simp only [List.mem_cons, List.not_mem_nil, or_false] at hx
  rcases hx with rfl | rfl <;> exact getD_mem10 _
theorem listK_le10 (b : Nat) : (listK b 10).length ≤ 10 := by
  unfold listK
  rw [List.length_map]
  exact Nat.le_trans (List.length_filter_le _ _) (by rw [List.length_range]; omega)
theorem prsS_len (b : Nat) : (prsS b).length ≤ 100 := by
  unfold prsS
  have h1 := prsL_len (listK b 10) (listK b 10).length
  have h2 := listK_le10 b
  have h3 : (listK b 10).length * (listK b 10).length ≤ 10 * 10 := Nat.mul_le_mul h2 h2
  omega

/-- A list of a call's own, cut behind some of its places. -/
theorem own_cells {w : World} {base : Nat} {A : Option Addr} {n c : Nat} {L : List Int} (h : w.ownsRow base 2 1 (.slice A n c) n (L.map (Value.int .i64))) (hn : L.length = n) (h0 : 0 < n) :
    ∃ g, A = some ⟨g, 0, none⟩ ∧ n ≤ c ∧ ∀ i, i < n → w.cell? ⟨g, i, none⟩ = some (.int .i64 (L.getD i 0)) := by
  rcases h.2 with ⟨hv, h1⟩ | ⟨g, cap', cur, hv, hg, hh, hnc, rest⟩
  · simp only [Value.slice.injEq] at hv; omega
  · simp only [Value.slice.injEq] at hv
    obtain ⟨rfl, _, rfl⟩ := hv
    refine ⟨g, rfl, hnc, fun i hi => ?_⟩
    rw [h.cellAt i (by omega), List.getElem?_map, List.getElem?_eq_getElem (by omega), Option.map_some, List.getD_eq_getElem?_getD, List.getElem?_eq_getElem (by omega)]
    rfl

theorem own2_bs {w : World} {base base' z : Nat} {e : TypeId} {v : Value} {n : Nat} {cs : List Value} (h : w.ownsRow base e z v n cs) (hb : base' ≤ base) : w.ownsRow base' e z v n cs := by
  obtain ⟨h1, h2⟩ := h
  refine ⟨h1, ?_⟩
  rcases h2 with h2 | ⟨g, cap, cur, hv, hg, rest⟩
  · exact .inl h2
  · exact .inr ⟨g, cap, cur, hv, Nat.le_trans hb hg, rest⟩

set_option maxRecDepth 100000 in
set_option maxHeartbeats 4000000 in
theorem pairs_any (b : Nat) (w : World) (hb : b < 1024) :
    Calls Try.prog 99 #[.int .u16 (b : Int)] w fun e w' => ∃ u, e = .returned u ∧ w'.ownsRow w.heap.size 74 1 u (prsS b).length ((prsS b).map bitU) ∧ Below w.heap.size w w' := by
  obtain ⟨iS0, iS1, iS2, iS3, iS4⟩ := info_parts info_set
  go_enter Try.func99, Try.ntmps99
  go_wp2_with fail
  refine (setList_any b w hb).mono ?_
  rintro e w1 ⟨u, rfl, o1, b1⟩
  obtain ⟨L, hL⟩ : ∃ L, L = listK b 10 := ⟨_, rfl⟩
  rw [← hL] at o1
  obtain ⟨N, hN⟩ : ∃ N, N = L.length := ⟨_, rfl⟩
  rw [← hN] at o1
  have hN10 : N ≤ 10 := by rw [hN, hL]; exact listK_le10 b
  have H10 := Lib.hid (show ∀ i, 0 ≤ L.getD i 0 ∧ L.getD i 0 < 10 from fun i => by rw [hL]; exact getD_mem10 i)
  have HL := Lib.hid hL
  have HN := Lib.hid hN
  obtain ⟨A1, C1, rfl⟩ := own_form o1
  have HO1 := Lib.hid o1
  have HB1 := Lib.hid b1
  clear o1 b1 hL hN
  go_wp2_with fail
  go_loopw [3, 13] (fun ov iv wr => ∃ (k : Nat) (Y : List Nat), k ≤ N ∧ iv = .int .i64 k ∧ Y = prsL L k ∧ wr.ownsRow w1.heap.size 74 1 ov Y.length (Y.map bitU) ∧ Below w1.heap.size w1 wr) (fun _ iv _ => N - (intOf iv).toNat)
  case atStart => exact ⟨0, [], Nat.zero_le _, rfl, rfl, own2_nil _ _ _ _, Below.refl _ _⟩
  case round =>
    obtain ⟨k, Y, hk, rfl, hY, hown, hbel⟩ := hrel
    have hYl : Y.length ≤ 100 := by
      have h1 := prsL_len L k
      rw [← HN.out, ← hY] at h1
      have h3 : k * N ≤ 10 * 10 := Nat.mul_le_mul (by omega) hN10
      omega
    obtain ⟨A3, C3, rfl⟩ := own2_form hown
    have HO := Lib.hid hown
    have HB := Lib.hid hbel
    have HY := Lib.hid hY
    have h1 := own_below HO1.out hbel
    have hk0 : (0 : Int) ≤ (k : Int) := by omega
    clear hown hbel hY
    by_cases hlt : k < N
    · have hkn : (k : Int) < (N : Int) := by omega
      obtain ⟨g1, rfl, hNC, hcells⟩ := own_cells h1 (by rw [HN.out]) (by omega)
      have hck := hcells k hlt
      have HC := Lib.hid hcells
      obtain ⟨x, hx⟩ : ∃ x, x = L.getD k 0 := ⟨_, rfl⟩
      rw [← hx] at hck
      have hx10 : 0 ≤ x ∧ x < 10 := by rw [hx]; exact H10.out k
      have HX := Lib.hid hx
      obtain ⟨hx0, hx9⟩ := hx10
      clear hcells h1 hx
      go_wp2_with fail
      all_goals
        go_loopw [3, 23] (fun ov jv wi => ∃ (j : Nat) (Z : List Nat), j ≤ N - (k + 1) ∧ jv = .int .i64 j ∧ Z = Y ++ prsU L k j ∧ wi.ownsRow w1.heap.size 74 1 ov Z.length (Z.map bitU) ∧ Below w1.heap.size w1 wi ∧ (∀ i, i < N → wi.cell? ⟨g1, i, none⟩ = some (.int .i64 (L.getD i 0)))) (fun _ jv _ => N - (intOf jv).toNat)
        case atStart => exact ⟨0, Y, Nat.zero_le _, rfl, by simp [prsU], HO.out, HB.out, HC.out⟩
        case round =>
          obtain ⟨j, Z, hj, rfl, hZ, hown, hbel, hcells⟩ := hrel
          have hZl : Z.length ≤ 110 := by rw [hZ, List.length_append, prsU_len]; omega
          obtain ⟨A4, C4, rfl⟩ := own2_form hown
          have HO2 := Lib.hid hown
          have HB2 := Lib.hid hbel
          have HZ := Lib.hid hZ
          have HC2 := Lib.hid hcells
          have hj0 : (0 : Int) ≤ (j : Int) := by omega
          clear hown hbel hZ hcells hck
          by_cases hjn : j < N - (k + 1)
          · first
              | (exfalso; omega)
              | (have hcj := HC2.out (k + 1 + j) (by omega)
                 obtain ⟨y, hy⟩ : ∃ y, y = L.getD (k + 1 + j) 0 := ⟨_, rfl⟩
                 rw [← hy] at hcj
                 have hy10 : 0 ≤ y ∧ y < 10 := by rw [hy]; exact H10.out _
                 have HY2 := Lib.hid hy
                 have hjn' : (j : Int) < ((N - (k + 1) : Nat) : Int) := by omega
                 clear hy
                 have HQ := Lib.hid (show ∀ z ∈ [x, y], 0 ≤ z ∧ z < 10 from fun z hz => by
                   simp only [List.mem_cons, List.not_mem_nil, or_false] at hz
                   rcases hz with rfl | rfl
                   · exact ⟨hx0, hx9⟩
                   · exact hy10)
                 go_wp2_with fail
                 refine (setOf_any (some ⟨wr.heap.size, 0, none⟩) 2 2 [x, y] _ (nums_two wr _ _ _) HQ.out (by omega)).mono ?_
                 obtain ⟨z, hz⟩ : ∃ z, z = setN [x, y] := ⟨_, rfl⟩
                 rw [← hz]
                 have HZ3 := Lib.hid hz
                 rintro e w3 ⟨rfl, hw3⟩
                 have b3 : Below wr.heap.size wr w3 := by rw [← hw3]; exact (Below.refl _ _).alloc (Nat.le_refl _) _
                 have HB3 := Lib.hid (below_then HB2.out b3)
                 have HO3 := Lib.hid (own2_below HO2.out b3)
                 have HC3 := Lib.hid (show ∀ i, i < N → w3.cell? ⟨g1, i, none⟩ = some (.int .i64 (L.getD i 0)) from fun i hi => by
                   have h9 := HC2.out i hi
                   exact (b3.cell (cell_lt h9)).trans h9)
                 clear hw3 b3 hz hcj hy10
                 go_wp2_with (at_builtin; refine wpList_append_own _ rfl _ _ 81 rfl (w1.heap.size) 74 iS0 (.int .u16 0) 1 2 Try.underlying81 iS1 iS2 iS3 iS4 rfl (by decide) _ _ _ rfl (World.ownsRow.alloc (HO3.out) _) ⟨(w3).heap.size, 0, none⟩ 1 1 [.int .u16 (z : Int)] rfl rfl (cell_one_new _ _ _) (ones_bitU [z]) (by unfold maxLen; omega) (by omega) (by rw [World.size_alloc]; exact Nat.le_succ_of_le (HB3.out.size)) ?_)
                 intro v' w4 hown' hgrow _
                 have ba : Below w3.heap.size w3 (w3.alloc (.cells #[.int .u16 (z : Int)] 74)) := (Below.refl _ _).alloc (Nat.le_refl _) _
                 have HB4 := Lib.hid (below_grown (below_then HB3.out ba) hgrow (fun g hg => (HO3.out.lt g hg).1))
                 have HO4 := Lib.hid hown'
                 have HC4 := Lib.hid (show ∀ i, i < N → w4.cell? ⟨g1, i, none⟩ = some (.int .i64 (L.getD i 0)) from fun i hi => by
                   have h9 := HO1.out
                   obtain ⟨g9, e9, _, h8⟩ := own_cells (own_below h9 HB4.out) (by rw [HN.out]) (by omega)
                   simp only [Option.some.injEq, Addr.mk.injEq, and_true] at e9
                   rw [e9]
                   exact h8 i hi)
                 clear hown' hgrow ba
                 go_wp2_with fail
                 go_roundw
                 case rel =>
                   refine ⟨j + 1, Z ++ [z], by omega, by go_num, ?_, by rw [List.length_append, List.map_append]; exact HO4.out, HB4.out, HC4.out⟩
                   rw [prsU_succ, ← List.append_assoc, ← HZ.out, HZ3.out, HX.out, HY2.out]
                 case measure => simp [intOf]; omega)
          · have hjn' : ¬ (j : Int) < ((N - (k + 1) : Nat) : Int) := by omega
            have hje : j = N - (k + 1) := by omega
            have HJ := Lib.hid hje
            have HZ5 := Lib.hid (show Z = prsL L (k + 1) by rw [prsL_succ, ← HN.out, ← HJ.out, HZ.out, HY.out])
            clear hje hjn
            go_wp2_with fail
            first
              | exact ⟨⟨_, _, _, _, _, ⟨k + 1, by omega, by go_num, by rw [← HZ5.out]; exact HO2.out, HB2.out⟩, rfl, rfl, rfl, rfl, rfl⟩, by simp [intOf]; omega⟩
              | (go_roundw
                 case rel => exact ⟨k + 1, Z, by omega, by go_num, HZ5.out, HO2.out, HB2.out⟩
                 case measure => simp [intOf]; omega)
    · have hke : k = N := by omega
      have hkn : ¬ (k : Int) < (N : Int) := by omega
      have HK := Lib.hid hke
      clear h1 hke hlt
      go_wp2_with fail
      go_ret
      refine ⟨_, rfl, ?_, below_then HB1.out HB.out⟩
      have e : prsS b = Y := by rw [HY.out, HK.out]; unfold prsS; rw [← HL.out, ← HN.out]
      rw [e]
      exact own2_bs HO.out HB1.out.size

end Go.Proofs.Ytcglncepmieaaaa

namespace Go.Proofs.Ytcglncepmieaaaa
open Go.RowKit Go.Deep Go.ChangeShapes Go.WideShapes
open Hunt Srch From Moved

/-- A pair of states, its word, and whether there is one. -/
structure PW where
  pair : Nat
  word : List Int
  ok : Bool
def wcells : List PW → List Value → List Value
  | p :: ps, u :: us => .int .u16 (p.pair : Int) :: u :: .bool p.ok :: wcells ps us
  | _, _ => []
theorem wcells_snoc : ∀ (ps : List PW) (us : List Value) (p : PW) (u : Value), ps.length = us.length → wcells (ps ++ [p]) (us ++ [u]) = wcells ps us ++ [.int .u16 (p.pair : Int), u, .bool p.ok]
  | [], [], _, _, _ => rfl
  | [], _ :: _, _, _, h => by simp at h
  | _ :: _, [], _, _, h => by simp at h
  | q :: ps, v :: us, p, u, h => by
    rw [List.cons_append, List.cons_append, wcells, wcells, wcells_snoc ps us p u (by simpa using h)]
    rfl
theorem wcells_at : ∀ {ps : List PW} {us : List Value} {k : Nat} {p : PW} {u : Value}, ps[k]? = some p → us[k]? = some u →
    (wcells ps us)[k * 3]? = some (.int .u16 (p.pair : Int)) ∧ (wcells ps us)[k * 3 + 1]? = some u ∧ (wcells ps us)[k * 3 + 2]? = some (.bool p.ok)
  | [], _, _, _, _, h, _ => by simp at h
  | _ :: _, [], _, _, _, _, h => by simp at h
  | q :: ps, v :: us, 0, p, u, h, h' => by
    simp only [List.getElem?_cons_zero, Option.some.injEq] at h h'
    subst h h'
    exact ⟨rfl, rfl, rfl⟩
  | q :: ps, v :: us, k + 1, p, u, h, h' => by
    simp only [List.getElem?_cons_succ] at h h'
    have := wcells_at h h'
    rw [show (k + 1) * 3 = k * 3 + 3 by omega]
    exact this

/-- The value v is a row of pairs with the words vs, which are lists of their own, in blocks from lo on and below hi. -/
structure PwV (lo hi : Nat) (w : World) (v : Value) (vs : List Value) (ps : List PW) : Prop where
  len : vs.length = ps.length
  out : w.ownsRow lo 76 3 v ps.length (wcells ps vs)
  top : ∀ g, v.ownBlock = some g → g < hi
  row : ∀ (r : Nat) (u : Value) (p : PW), vs[r]? = some u → ps[r]? = some p → IntsIn lo hi w u p.word
  apart : ∀ (r r' : Nat) (u u' : Value) (g : Nat), vs[r]? = some u → vs[r']? = some u' → u.ownBlock = some g → u'.ownBlock = some g → r = r'
  outer : ∀ (r : Nat) (u : Value) (g : Nat), vs[r]? = some u → u.ownBlock = some g → v.ownBlock ≠ some g
theorem pwV_nil (lo hi : Nat) (w : World) : PwV lo hi w (.slice none 0 0) [] [] := by
  refine ⟨rfl, own2_nil _ _ _ _, fun g hg => ?_, fun r u xs hu => ?_, fun r r' u u' g hu => ?_, fun r u g hu => ?_⟩
  · simp [Value.ownBlock] at hg
  · simp at hu
  · simp at hu
  · simp at hu
theorem PwV.below {lo hi : Nat} {w w' : World} {v : Value} {vs : List Value} {ps : List PW} (h : PwV lo hi w v vs ps) (hb : Below w.heap.size w w') : PwV lo hi w' v vs ps :=
  ⟨h.len, own2_below h.out hb, h.top, fun r u p hu hx => (h.row r u p hu hx).below hb, h.apart, h.outer⟩
theorem PwV.wide {lo hi lo' hi' : Nat} {w : World} {v : Value} {vs : List Value} {ps : List PW} (h : PwV lo hi w v vs ps) (h1 : lo' ≤ lo) (h2 : hi ≤ hi') : PwV lo' hi' w v vs ps :=
  ⟨h.len, own2_bs h.out h1, fun g hg => Nat.lt_of_lt_of_le (h.top g hg) h2, fun r u p hu hx => (h.row r u p hu hx).wide h1 h2, h.apart, h.outer⟩
theorem PwV.snoc {lo hi lu hu : Nat} {w w' : World} {v v' u : Value} {vs : List Value} {ps : List PW} {p : PW} (h : PwV lo hi w v vs ps) (hr : IntsIn lu hu w u p.word)
    (ho : w'.ownsRow lo 76 3 v' (ps.length + 1) (wcells (ps ++ [p]) (vs ++ [u]))) (hg : w.grownBy w' v.ownBlock) (hat : v'.ownBlock = v.ownBlock ∨ v'.ownBlock = some w.heap.size)
    (h1 : lo ≤ lu) (h2 : hi ≤ lu) (h3 : hu ≤ w.heap.size) : PwV lo w'.heap.size w' v' (vs ++ [u]) (ps ++ [p]) := by
  have hz := hg.size
  have hvn : ∀ g, v.ownBlock = some g → lo ≤ g ∧ g < hi := fun g e => ⟨(h.out.lt g e).1, h.top g e⟩
  have hun : ∀ g, u.ownBlock = some g → lu ≤ g ∧ g < hu := fun g e => ⟨(hr.1.lt g e).1, hr.2 g e⟩
  have hrn : ∀ (r : Nat) (x : Value) (g : Nat), vs[r]? = some x → x.ownBlock = some g → lo ≤ g ∧ g < hi ∧ g < w.heap.size := fun r x g hx e => by
    have hl : r < ps.length := by
      rw [← h.len]
      rcases Nat.lt_or_ge r vs.length with a | a
      · exact a
      · rw [List.getElem?_eq_none a] at hx; cases hx
    have hi := h.row r x ps[r] hx (List.getElem?_eq_getElem hl)
    exact ⟨(hi.1.lt g e).1, hi.2 g e, (hi.1.lt g e).2⟩
  have hup : IntsIn lo w'.heap.size w' u p.word := by
    refine ⟨own_base (hr.1.kept hg ?_) h1, fun g e => by have := hun g e; omega⟩
    rcases hb : u.ownBlock with _ | g
    · exact .inl rfl
    · refine .inr (fun e => ?_)
      have := hvn g e.symm
      have := hun g hb
      omega
  have hn' : ∀ (r : Nat) (x : Value), (vs ++ [u])[r]? = some x → (r < vs.length ∧ vs[r]? = some x) ∨ (r = vs.length ∧ x = u) := fun r x hx => by
    rcases Nat.lt_or_ge r vs.length with a | a
    · rw [List.getElem?_append_left a] at hx; exact .inl ⟨a, hx⟩
    · rw [List.getElem?_append_right a] at hx
      have hz : r - vs.length = 0 := by
        rcases Nat.eq_zero_or_pos (r - vs.length) with e | e
        · exact e
        · rw [List.getElem?_eq_none (by simp; omega)] at hx; cases hx
      rw [hz] at hx
      exact .inr ⟨by omega, by simpa using hx.symm⟩
  refine ⟨by simp [h.len], by rw [List.length_append]; exact ho, fun g e => (ho.lt g e).2, fun r x q hx hy => ?_, fun r r' x x' g hx hx' e e' => ?_, fun r x g hx e => ?_⟩
  · rcases hn' r x hx with ⟨a, b⟩ | ⟨a, rfl⟩
    · have hl := h.len
      rw [List.getElem?_append_left (by omega)] at hy
      have hi := h.row r x q b hy
      refine ⟨hi.1.kept hg ?_, fun g e => by have := hrn r x g b e; omega⟩
      rcases hb : x.ownBlock with _ | g
      · exact .inl rfl
      · exact .inr (fun e => h.outer r x g b hb e.symm)
    · have hl := h.len
      subst a
      rw [hl, List.getElem?_append_right (Nat.le_refl _), Nat.sub_self] at hy
      simp only [List.getElem?_cons_zero, Option.some.injEq] at hy
      subst hy
      exact hup
  · rcases hn' r x hx with ⟨a, b⟩ | ⟨a, rfl⟩ <;> rcases hn' r' x' hx' with ⟨a', b'⟩ | ⟨a', rfl⟩
    · exact h.apart r r' x x' g b b' e e'
    · have := hrn r x g b e; have := hun g e'; omega
    · have := hrn r' x' g b' e'; have := hun g e; omega
    · omega
  · intro hv'
    rcases hat with hat | hat
    · rw [hat] at hv'
      rcases hn' r x hx with ⟨a, b⟩ | ⟨a, rfl⟩
      · exact h.outer r x g b e hv'
      · have := hvn g hv'; have := hun g e; omega
    · rw [hat] at hv'
      have hgz := Option.some.inj hv'
      rcases hn' r x hx with ⟨a, b⟩ | ⟨a, rfl⟩
      · have := hrn r x g b e; omega
      · have := hun g e; omega
theorem PwV.cells {lo hi : Nat} {w : World} {A : Option Addr} {c k : Nat} {vs : List Value} {ps : List PW} {p : PW} (h : PwV lo hi w (.slice A ps.length c) vs ps) (hk : ps[k]? = some p) :
    ∃ g A' c', A = some ⟨g, 0, none⟩ ∧ w.cell? ⟨g, k * 3, none⟩ = some (.int .u16 (p.pair : Int)) ∧ w.cell? ⟨g, k * 3 + 1, none⟩ = some (.slice A' p.word.length c') ∧ w.cell? ⟨g, k * 3 + 2, none⟩ = some (.bool p.ok) ∧ vs[k]? = some (.slice A' p.word.length c') := by
  have hl := h.len
  have hkl : k < ps.length := by
    rcases Nat.lt_or_ge k ps.length with a | a
    · exact a
    · rw [List.getElem?_eq_none a] at hk; cases hk
  have hu : vs[k]? = some vs[k] := List.getElem?_eq_getElem (by omega)
  obtain ⟨A', c', hv⟩ := own_form (h.row k _ p hu hk).1
  obtain ⟨c1, c2, c3⟩ := wcells_at hk hu
  rcases h.out.2 with ⟨hv0, h0⟩ | ⟨g, cap', cur, hv0, hg, hh, hnc, hcap, hsz, htake⟩
  · omega
  · simp only [Value.slice.injEq] at hv0
    obtain ⟨rfl, _, rfl⟩ := hv0
    have hcell : ∀ i, i < ps.length * 3 → w.cell? ⟨g, i, none⟩ = (wcells ps vs)[i]? := fun i hi => h.out.cellAt i hi
    rw [hv] at c2 hu
    exact ⟨g, A', c', rfl, (hcell _ (by omega)).trans c1, (hcell _ (by omega)).trans c2, (hcell _ (by omega)).trans c3, hu⟩
theorem info_pw : (Try.prog.info? 76).map (fun i => (i.zero, i.size, i.bytes)) = some (some (.agg #[.int .u16 0, .slice none 0 0, .bool false]), 3, 40) := by kernel_rfl
theorem ones_pw (b : Int) (A : Option Addr) (n c : Nat) (o : Bool) : ∀ u ∈ [Value.int .u16 b, .slice A n c, .bool o], u.oneCell' = true := by
  intro u hu
  simp at hu
  rcases hu with rfl | rfl | rfl <;> rfl

/-- A pair with its word. -/
noncomputable def pwO (n m : Nat) (xss : List (List Int)) (b : Nat) : PW := ⟨b, (cutW n m xss b).1, hitB (firstF mergedB (fnd n m xss 400 b))⟩
noncomputable def pwL (n m : Nat) (xss : List (List Int)) : List PW := (prsS (2 ^ n - 1)).map (pwO n m xss)
theorem cut_code (n m : Nat) (xss : List (List Int)) (b : Nat) : ((cutW n m xss b).2 == 0) = hitB (firstF mergedB (fnd n m xss 400 b)) := by
  unfold cutW hitB
  rcases firstF mergedB (fnd n m xss 400 b) with _ | f <;> rfl

set_option maxRecDepth 100000 in
set_option maxHeartbeats 4000000 in
theorem pairWords_any (A : Option Addr) (n m cap : Nat) (xss : List (List Int)) (w : World) (hg : Good n m xss) (hR : RowsAt w A m xss) :
    Calls Try.prog 55 #[.agg #[.int .i64 (n : Int), .slice A m cap]] w fun e w' => ∃ u, e = .returned u ∧ (∃ vs, PwV w.heap.size w'.heap.size w' u vs (pwL n m xss)) ∧ Below w.heap.size w w' := by
  obtain ⟨i0, hi, hz0, hz1, hz2⟩ := info_parts info_pw
  have hn10 : n ≤ 10 := hg.n10
  obtain ⟨w1, hw1⟩ : ∃ w1, w1 = w.alloc (.cells #[.int .i64 (n : Int), .slice A m cap] 28) := ⟨_, rfl⟩
  have b1 : Below w.heap.size w w1 := by rw [hw1]; exact (Below.refl _ _).alloc (Nat.le_refl _) _
  have HBX := Lib.hid (show Box w1 w.heap.size [.int .i64 (n : Int), .slice A m cap] by rw [hw1]; exact Box.new _ _ _)
  have HX := Lib.hid (hR.below b1)
  have HB1 := Lib.hid b1
  have HW := Lib.hid hw1
  have HG := Lib.hid hg
  clear hR b1 hw1 hg
  go_enter Try.func55, Try.ntmps55
  go_wp2_with fail
  rw [← HW.out]
  refine (allStates_any A n m cap w1 hn10).mono ?_
  obtain ⟨F, hF⟩ : ∃ F, F = 2 ^ n - 1 := ⟨_, rfl⟩
  rw [← hF]
  have hF10 : F < 1024 := by have := pow_le hn10; have := Nat.two_pow_pos n; omega
  have HF := Lib.hid hF
  rintro e w2 ⟨rfl, b2⟩
  have HB2 := Lib.hid (below_then HB1.out b2)
  have HX2 := Lib.hid (HX.out.below b2)
  have HBX2 := Lib.hid (Box.below HBX.out b2)
  clear b2 hF
  go_wp2_with fail
  refine (pairs_any F w2 hF10).mono ?_
  rintro e w3 ⟨u, rfl, o3, b3⟩
  obtain ⟨P, hP⟩ : ∃ P, P = prsS F := ⟨_, rfl⟩
  rw [← hP] at o3
  have hPl : P.length ≤ 100 := by rw [hP]; exact prsS_len F
  have HPL := Lib.hid (show ∀ b ∈ P, b < 1024 from fun b hb => by rw [hP] at hb; exact prsS_lt hb)
  have HP := Lib.hid hP
  obtain ⟨A3, C3, rfl⟩ := own2_form o3
  obtain ⟨N, hN⟩ : ∃ N, N = P.length := ⟨_, rfl⟩
  rw [← hN] at o3 hPl ⊢
  have HN := Lib.hid hN
  have HS3 := Lib.hid (show ∀ (k b : Nat), P[k]? = some b → ∃ g, A3 = some ⟨g, 0, none⟩ ∧ w3.cell? ⟨g, k, none⟩ = some (.int .u16 (b : Int)) from fun k b hb => by
    have hk : k < P.length := by
      rcases Nat.lt_or_ge k P.length with a | a
      · exact a
      · rw [List.getElem?_eq_none a] at hb; cases hb
    rcases o3.2 with ⟨hv0, h0⟩ | ⟨g, cap', cur, hv0, hg, hh, hnc, hcap, hsz, htake⟩
    · omega
    · simp only [Value.slice.injEq] at hv0
      obtain ⟨rfl, _, rfl⟩ := hv0
      refine ⟨g, rfl, (o3.cellAt k (by omega)).trans ?_⟩
      rw [List.getElem?_map, hb]
      rfl)
  have HB3 := Lib.hid (below_then HB2.out b3)
  have HX3 := Lib.hid (HX2.out.below b3)
  have HBX3 := Lib.hid (Box.below HBX2.out b3)
  clear b3 hP hN o3
  go_wp2_with fail
  go_loopw [3, 12] (fun ov iv wr => ∃ (k : Nat) (vs : List Value) (Y : List PW), k ≤ N ∧ iv = .int .i64 k ∧ Y = (P.take k).map (pwO n m xss) ∧ Y.length = k ∧ PwV w3.heap.size wr.heap.size wr ov vs Y ∧ Below w3.heap.size w3 wr) (fun _ iv _ => N - (intOf iv).toNat)
  case atStart => exact ⟨0, [], [], Nat.zero_le _, rfl, rfl, rfl, pwV_nil _ _ _, Below.refl _ _⟩
  case round =>
    obtain ⟨k, vs, Y, hk, rfl, hY, hYl, hpw, hbel⟩ := hrel
    obtain ⟨A4, C4, rfl⟩ := own2_form hpw.out
    have HT := Lib.hid hpw
    have HB := Lib.hid hbel
    have HY := Lib.hid hY
    have HYL := Lib.hid hYl
    have hk0 : (0 : Int) ≤ (k : Int) := by omega
    have q0 := (Box.below HBX3.out hbel) 0 _ rfl
    have q1 := (Box.below HBX3.out hbel) 1 _ rfl
    clear hpw hbel hY
    by_cases hlt : k < N
    · have hkn : (k : Int) < (N : Int) := by omega
      obtain ⟨b, hbk⟩ : ∃ b, P[k]? = some b := ⟨P[k]'(by rw [← HN.out]; exact hlt), List.getElem?_eq_getElem _⟩
      obtain ⟨g, rfl, hc⟩ := HS3.out k b hbk
      have hcc := (HB.out.cell (cell_lt hc)).trans hc
      have hb10 := HPL.out b (List.mem_of_getElem? hbk)
      have HBK := Lib.hid hbk
      have hym : Y.length ≤ 100 := by omega
      clear hbk hc hYl
      go_wp2_with fail
      refine (mergingWord_any A n m cap b xss wr HG.out (HX3.out.below HB.out) hb10).mono ?_
      rintro e w4 ⟨u, rfl, o4, b4⟩
      obtain ⟨Z, hZ⟩ : ∃ Z, Z = (cutW n m xss b).1 := ⟨_, rfl⟩
      have HCC := Lib.hid (cut_code n m xss b)
      obtain ⟨cd, hcd⟩ : ∃ cd, cd = (cutW n m xss b).2 := ⟨_, rfl⟩
      obtain ⟨ok, hok⟩ : ∃ ok, ok = hitB (firstF mergedB (fnd n m xss 400 b)) := ⟨_, rfl⟩
      rw [← hZ] at o4
      rw [← hcd, ← hok] at HCC
      rw [← hcd]
      obtain ⟨A5, C5, rfl⟩ := own_form o4
      have HT4 := Lib.hid (HT.out.below b4)
      have HI4 := Lib.hid (IntsIn.of o4)
      have HW4 := Lib.hid (below_then HB.out b4)
      have HLE := Lib.hid (show w3.heap.size ≤ w4.heap.size from HW4.out.size)
      obtain ⟨p, hp⟩ : ∃ p, p = pwO n m xss b := ⟨_, rfl⟩
      have HPP := Lib.hid (show p.pair = b ∧ p.word = Z ∧ p.ok = ok by rw [hp, hZ, hok]; exact ⟨rfl, rfl, rfl⟩)
      have HNX := Lib.hid (show (P.take (k + 1)).map (pwO n m xss) = Y ++ [p] by rw [take_snoc HBK.out, List.map_append, ← HY.out, hp]; rfl)
      have HCD := Lib.hid hcd
      clear o4 b4 hZ hcc q0 q1 hp hok hcd
      go_wp2_with (at_builtin; refine wpList_append_own_at _ rfl _ _ 71 rfl w3.heap.size 76 i0 (.agg #[.int .u16 0, .slice none 0 0, .bool false]) 3 40 Try.underlying71 hi hz0 hz1 hz2 rfl (by decide) _ _ _ rfl (World.ownsRow.alloc HT4.out.out _) ⟨w4.heap.size, 0, none⟩ 1 1 [.int .u16 (b : Int), .slice A5 Z.length C5, .bool (cd == 0)] rfl rfl (World.news_of_block (heap_alloc_new w4 _)) (ones_pw _ _ _ _ _) (by unfold maxLen; omega) (by omega) (by rw [World.size_alloc]; exact Nat.le_succ_of_le HLE.out) ?_)
      rw [HCC.out]
      intro v' w5 hown' hgrow _ hat
      have ba : Below w4.heap.size w4 (w4.alloc (.cells #[.int .u16 (b : Int), .slice A5 Z.length C5, .bool ok] 76)) := (Below.refl _ _).alloc (Nat.le_refl _) _
      have hpp := HPP.out
      have ho5 : w5.ownsRow w3.heap.size 76 3 v' (Y.length + 1) (wcells (Y ++ [p]) (vs ++ [.slice A5 Z.length C5])) := by
        rw [wcells_snoc _ _ _ _ HT.out.len.symm, hpp.1, hpp.2.2]
        exact hown'
      have hpw2 := PwV.snoc (HT4.out.below ba) (p := p) (u := .slice A5 Z.length C5) (by rw [hpp.2.1]; exact HI4.out.below ba) ho5 hgrow (by rw [World.size_alloc]; exact hat) HB.out.size (Nat.le_refl _) (by have := ba.size; omega)
      rw [← HNX.out] at hpw2
      have HT5 := Lib.hid hpw2
      have HB5 := Lib.hid (below_grown (below_then HW4.out ba) hgrow (fun g hg => (HT4.out.out.lt g hg).1))
      have HN2 := Lib.hid (show ((P.take (k + 1)).map (pwO n m xss)).length = k + 1 by rw [HNX.out, List.length_append, HYL.out]; rfl)
      clear hown' hgrow hat ba hpw2 hpp ho5
      go_wp2_with fail
      go_roundw
      case rel => exact ⟨k + 1, _, _, by omega, by go_num, rfl, HN2.out, HT5.out, HB5.out⟩
      case measure => simp [intOf]; omega
    · have hke : k = N := by omega
      have hkn : ¬ (k : Int) < (N : Int) := by omega
      have HK := Lib.hid hke
      clear hke hlt q0 q1 hYl
      go_wp2_with fail
      go_ret
      refine ⟨_, rfl, ⟨vs, ?_⟩, below_then HB3.out HB.out⟩
      have e : pwL n m xss = Y := by rw [HY.out, HK.out, HN.out, List.take_length, HP.out, HF.out]; rfl
      rw [e]
      exact HT.out.wide HB3.out.size (Nat.le_refl _)

end Go.Proofs.Ytcglncepmieaaaa

namespace Go.Proofs.Ytcglncepmieaaaa
open Go.RowKit Go.Deep Go.ChangeShapes Go.WideShapes
open Hunt Srch From Moved

theorem listK_full {n : Nat} (hn : n ≤ 10) : listK (2 ^ n - 1) 10 = (List.range n).map fun q => ((q : Nat) : Int) := by
  have h1 : 2 ^ n - 1 < 2 ^ n := by have := Nat.two_pow_pos n; omega
  rw [listK_stop h1 10 hn]
  unfold listK
  congr 1
  apply List.filter_eq_self.2
  intro q hq
  unfold bitF
  rw [Nat.testBit_two_pow_sub_one, decide_eq_true_eq]
  exact List.mem_range.1 hq
theorem flat_congr {f g : Nat → List Nat} : ∀ {L : List Nat}, (∀ x ∈ L, f x = g x) → L.flatMap f = L.flatMap g
  | [], _ => rfl
  | x :: L, h => by
    rw [List.flatMap_cons, List.flatMap_cons, h x List.mem_cons_self, flat_congr (fun y hy => h y (List.mem_cons_of_mem _ hy))]
theorem prsS_full {n : Nat} (hn : n ≤ 10) : prsS (2 ^ n - 1) = (prL n n).map fun g => pairB g.1 g.2 := by
  unfold prsS
  rw [listK_full hn, List.length_map, List.length_range]
  unfold prsL prL
  rw [List.map_flatMap, List.length_map, List.length_range]
  apply flat_congr
  intro i hi
  have hi := List.mem_range.1 hi
  unfold prsU prU
  rw [List.map_map, show n - (i + 1) = n - 1 - i by omega]
  apply List.map_congr_left
  intro j hj
  have hj := List.mem_range.1 hj
  have e1 : ((List.range n).map fun q => ((q : Nat) : Int)).getD i 0 = (i : Int) := by
    rw [List.getD_eq_getElem?_getD, List.getElem?_map, List.getElem?_range hi]; rfl
  have e2 : ((List.range n).map fun q => ((q : Nat) : Int)).getD (i + 1 + j) 0 = ((i + 1 + j : Nat) : Int) := by
    rw [List.getD_eq_getElem?_getD, List.getElem?_map, List.getElem?_range (by omega)]; rfl
  rw [e1, e2, setN_pair]
  rfl
theorem list_pair : ∀ s < 10, ∀ t < 10, s < t → listK (pairB s t) 10 = [((s : Nat) : Int), ((t : Nat) : Int)] := by decide +kernel
theorem pair_lt : ∀ s < 10, ∀ t < 10, pairB s t < 1024 := by decide +kernel
theorem pair_comm (s t : Nat) : pairB s t = pairB t s := by unfold pairB; rw [Nat.or_comm]
theorem pair_inj {s t a b : Nat} (h : pairB a b = pairB s t) : (a = s ∧ b = t) ∨ (a = t ∧ b = s) := by
  have ha := pair_bit.1 (show (pairB s t).testBit a = true by rw [← h]; exact pair_bit.2 (.inl rfl))
  have hb := pair_bit.1 (show (pairB s t).testBit b = true by rw [← h]; exact pair_bit.2 (.inr rfl))
  have hs := pair_bit.1 (show (pairB a b).testBit s = true by rw [h]; exact pair_bit.2 (.inl rfl))
  have ht := pair_bit.1 (show (pairB a b).testBit t = true by rw [h]; exact pair_bit.2 (.inr rfl))
  omega

/-- A square table. -/
def sqT (n : Nat) (f : Nat → Nat → Int) : List (List Int) := (List.range n).map fun s => (List.range n).map (f s)
theorem sqT_len (n : Nat) (f : Nat → Nat → Int) : (sqT n f).length = n := by simp [sqT]
theorem sqT_at {n : Nat} (f : Nat → Nat → Int) {s : Nat} (hs : s < n) : (sqT n f)[s]? = some ((List.range n).map (f s)) := by
  unfold sqT; rw [List.getElem?_map, List.getElem?_range hs]; rfl
theorem sqT_set {n s t : Nat} (f : Nat → Nat → Int) (x : Int) (hs : s < n) (ht : t < n) : (sqT n f).set s (((List.range n).map (f s)).set t x) = sqT n fun a b => if a = s ∧ b = t then x else f a b := by
  apply List.ext_getElem?
  intro a
  rw [List.getElem?_set, sqT_len]
  rcases Nat.lt_or_ge a n with ha | ha
  · rw [sqT_at _ ha]
    by_cases e : s = a
    · subst e
      rw [if_pos rfl, if_pos hs, sqT_at _ hs]
      congr 1
      apply List.ext_getElem?
      intro b
      rw [List.getElem?_set, List.length_map, List.length_range]
      rcases Nat.lt_or_ge b n with hb | hb
      · by_cases e : t = b
        · subst e
          rw [if_pos rfl, if_pos ht, List.getElem?_map, List.getElem?_range hb]
          simp
        · rw [if_neg e, List.getElem?_map, List.getElem?_map, List.getElem?_range hb]
          simp [show ¬ b = t from fun h => e h.symm]
      · have hne : ¬ t = b := by omega
        rw [if_neg hne, List.getElem?_eq_none (by simp; omega), List.getElem?_eq_none (by simp; omega)]
    · rw [if_neg e, sqT_at _ ha]
      congr 1
      apply List.map_congr_left
      intro b _
      rw [if_neg (fun h => e h.1.symm)]
  · rw [if_neg (by omega), List.getElem?_eq_none (by rw [sqT_len]; exact ha), List.getElem?_eq_none (by rw [sqT_len]; exact ha)]
theorem sqT_congr {n : Nat} {f g : Nat → Nat → Int} (h : ∀ a b, a < n → b < n → f a b = g a b) : sqT n f = sqT n g := by
  unfold sqT
  apply List.map_congr_left
  intro a ha
  apply List.map_congr_left
  intro b hb
  exact h a b (List.mem_range.1 ha) (List.mem_range.1 hb)
/-- The table behind the first k pairs. -/
noncomputable def tabP (n m : Nat) (xss : List (List Int)) (k : Nat) : Nat → Nat → Int := fun s t => if pairB s t ∈ ((prL n n).take k).map (fun g => pairB g.1 g.2) then lenP n m xss s t else 0
theorem tabP_0 (n m : Nat) (xss : List (List Int)) : sqT n (tabP n m xss 0) = List.replicate n (List.replicate n 0) := by
  unfold sqT tabP
  simp only [List.take_zero, List.map_nil, List.not_mem_nil, if_false]
  rw [List.map_const', List.length_range, List.map_const', List.length_range]
theorem lenP_comm (n m : Nat) (xss : List (List Int)) (s t : Nat) : lenP n m xss s t = lenP n m xss t s := by unfold lenP; rw [pair_comm]
theorem tabP_step {n m k s t : Nat} {xss : List (List Int)} (h : (prL n n)[k]? = some (s, t)) :
    sqT n (fun a b => if a = t ∧ b = s then lenP n m xss s t else (if a = s ∧ b = t then lenP n m xss s t else tabP n m xss k a b)) = sqT n (tabP n m xss (k + 1)) := by
  have hst := prL_mem (List.mem_of_getElem? h)
  apply sqT_congr
  intro a b ha hb
  unfold tabP
  simp only [take_snoc h, List.map_append, List.mem_append]
  by_cases h1 : a = t ∧ b = s
  · obtain ⟨rfl, rfl⟩ := h1
    rw [if_pos ⟨rfl, rfl⟩, if_pos (.inr (by simp [pair_comm])), lenP_comm]
  · rw [if_neg h1]
    by_cases h2 : a = s ∧ b = t
    · obtain ⟨rfl, rfl⟩ := h2
      rw [if_pos ⟨rfl, rfl⟩, if_pos (.inr (by simp))]
    · rw [if_neg h2]
      have h3 : ¬ pairB a b ∈ [(s, t)].map (fun g => pairB g.1 g.2) := by
        intro h3
        simp only [List.map_cons, List.map_nil, List.mem_cons, List.not_mem_nil, or_false] at h3
        rcases pair_inj h3 with e | e
        · exact h2 e
        · exact h1 e
      simp only [h3, or_false]
theorem lenP_same {n m a : Nat} {xss : List (List Int)} (hg : Good n m xss) (ha : a < n) : lenP n m xss a a = 0 := by
  have hn := hg.n10
  have hb := pair_lt a (by omega) a (by omega)
  have h0 : (runF (aftF n xss) m 1024 (pairB a a) 0)[0]? = some ⟨pairB a a, -1, 0, []⟩ := rfl
  have h1 := all_at (small hg hb) h0
  have hm : ∀ s < 10, mergedB (pairB s s) = true := by decide +kernel
  have h2 : firstF mergedB (fnd n m xss 1024 (pairB a a)) = some ⟨pairB a a, -1, 0, []⟩ := first_hit h1 (hm a (by omega)) (fun k f hk => by omega)
  unfold lenP
  rw [h2]
  rfl
theorem tabP_all {n m : Nat} {xss : List (List Int)} (hg : Good n m xss) : sqT n (tabP n m xss (prL n n).length) = tabK n m xss n := by
  show sqT n _ = sqT n (lenP n m xss)
  apply sqT_congr
  intro a b ha hb
  unfold tabP
  rw [List.take_length]
  rcases Nat.lt_trichotomy a b with h | h | h
  · rw [if_pos (List.mem_map.2 ⟨(a, b), prL_has h hb, rfl⟩)]
  · subst h
    rw [lenP_same hg ha]
    exact ite_self _
  · rw [if_pos (List.mem_map.2 ⟨(b, a), prL_has h ha, pair_comm _ _⟩)]

end Go.Proofs.Ytcglncepmieaaaa

namespace Go.Proofs.Ytcglncepmieaaaa
open Go.RowKit Go.Deep Go.ChangeShapes Go.WideShapes
open Hunt Srch From Moved

def TabsTo2 (r : List (List Int) × Int) (w : World) (e : Ending) (w' : World) : Prop := ∃ v, e = .returned (.tuple #[v, .int .i64 r.2]) ∧ TabIn w.heap.size w'.heap.size w' v r.1 ∧ Below w.heap.size w w'
theorem tabsTo2_mk {r : List (List Int) × Int} {w w' : World} {xss : List (List Int)} {v : Value} {c : Int} (h : r = (xss, c)) (ht : TabIn w.heap.size w'.heap.size w' v xss) (hb : Below w.heap.size w w') : TabsTo2 r w (.returned (.tuple #[v, .int .i64 c])) w' := by
  subst h; exact ⟨v, rfl, ht, hb⟩
theorem tabV_made (w : World) (lo : Nat) (h : lo ≤ w.heap.size) : TabV lo (w.heap.size + 1) (w.alloc (.cells #[] 35)) (.slice (some ⟨w.heap.size, 0, none⟩) 0 0) [] [] := by
  refine ⟨rfl, World.ownsRow_lit (e := 35) w #[] 0 h (Nat.zero_le _) rfl, fun g hg => ?_, fun r u xs hu => ?_, fun r r' u u' g hu => ?_, fun r u g hu => ?_⟩
  · simp [Value.ownBlock] at hg; omega
  · simp at hu
  · simp at hu
  · simp at hu
theorem sumLens_leC {k : Nat} : ∀ {xss : List (List Int)}, (∀ x ∈ xss, x.length ≤ k) → sumLens xss ≤ k * xss.length
  | [], _ => by simp [sumLens]
  | x :: xs, h => by
    have h1 := h x List.mem_cons_self
    have h2 := sumLens_leC (xss := xs) (fun y hy => h y (List.mem_cons_of_mem _ hy))
    simp only [sumLens, List.map_cons, List.sum_cons, List.length_cons] at h2 ⊢
    rw [Nat.mul_succ]
    omega

/-- What PairTable answers. -/
noncomputable def pairTable (s : Int) (xss : List (List Int)) : List (List Int) × Int := if okA s xss = true then (tabK s.toNat xss.length xss s.toNat, 0) else ([], 1)
theorem pairTable_1 {s : Int} {xss : List (List Int)} (h : okA s xss = false) : pairTable s xss = ([], 1) := by unfold pairTable; rw [if_neg (by simp [h])]
theorem pairTable_0 {n m : Nat} {xss : List (List Int)} (h : okA (n : Int) xss = true) (hm : xss.length = m) : pairTable (n : Int) xss = (tabK n m xss n, 0) := by unfold pairTable; rw [if_pos h, Int.toNat_natCast, hm]
theorem pairTable_len (s : Int) (xss : List (List Int)) : (pairTable s xss).1.length ≤ 10 := by
  rcases hok : okA s xss with _ | _
  · rw [pairTable_1 hok]; simp
  · obtain ⟨n, rfl, hg⟩ := good_of hok rfl
    rw [pairTable_0 hok rfl]
    show (tabK _ _ _ _).length ≤ 10
    rw [tabK_len]
    exact hg.n10
theorem pairTable_sum (s : Int) (xss : List (List Int)) : sumLens (pairTable s xss).1 ≤ 100 := by
  rcases hok : okA s xss with _ | _
  · rw [pairTable_1 hok]; simp [sumLens]
  · obtain ⟨n, rfl, hg⟩ := good_of hok rfl
    rw [pairTable_0 hok rfl]
    have h10 := hg.n10
    have h1 := sumLens_leC (k := n) (xss := tabK n xss.length xss n) (fun x hx => by
      unfold tabK at hx
      obtain ⟨a, _, rfl⟩ := List.mem_map.1 hx
      rw [rowK_len]; exact Nat.le_refl _)
    rw [tabK_len] at h1
    have h2 : n * n ≤ 10 * 10 := Nat.mul_le_mul h10 h10
    show sumLens (tabK _ _ _ _) ≤ 100
    omega

set_option maxRecDepth 100000 in
set_option maxHeartbeats 4000000 in
theorem specPairTable_any (s : Int) (A : Option Addr) (m cap : Nat) (xss : List (List Int)) (w : World) (h : RowsAt w A m xss) (hm : m ≤ 4611686018427387904)
    (hrows : ∀ (r : Nat) (xs : List Int), xss[r]? = some xs → xs.length ≤ 4611686018427387904) :
    Calls Try.prog 12 #[.agg #[.int .i64 s, .slice A m cap]] w (TabsTo2 (pairTable s xss) w) := by
  have HR := Lib.hid hrows
  have HM := Lib.hid h.1
  have b0 : Below w.heap.size w (w.alloc (.cells #[.int .i64 s, .slice A m cap] 28)) := (Below.refl _ _).alloc (Nat.le_refl _) _
  have H0 := Lib.hid (h.below b0)
  have B0 := Lib.hid b0
  have HBX := Lib.hid (show Box (w.alloc (.cells #[.int .i64 s, .slice A m cap] 28)) w.heap.size [.int .i64 s, .slice A m cap] from Box.new _ _ _)
  clear hrows b0
  go_enter Try.func12, Try.ntmps12
  go_wp2_with fail
  refine (l01Ok_any w.heap.size s A m cap xss _ (by go_cell) (by go_cell) H0.out hm HR.out).mono ?_
  rintro e w' ⟨rfl, d, hd⟩
  have B1 := Lib.hid (show Below w.heap.size w w' by rw [hd]; exact below_drewN' B0.out d)
  have HB1 := Lib.hid (show Box w' w.heap.size [.int .i64 s, .slice A m cap] by rw [hd]; exact Box.below HBX.out (below_drewN' (Below.refl _ _) d))
  have H1 := Lib.hid (show RowsAt w' A m xss by rw [hd]; exact H0.out.below (below_drewN' (Below.refl _ _) d))
  clear hd
  rcases hok : okA s xss with _ | _
  · go_wp2_with fail
    go_ret2
    exact tabsTo2_mk (pairTable_1 hok) ⟨[], (tabV_made w' w.heap.size B1.out.size).wide (Nat.le_refl _) (by simp)⟩ (B1.out.alloc B1.out.size _)
  · obtain ⟨n, hsn, hg⟩ := good_of hok HM.out
    subst hsn
    go_wp2_with fail
    refine (l02Table_any w.heap.size n m cap A xss w' hg H1.out HB1.out).mono ?_
    rintro e w3 ⟨u, rfl, t3, b3⟩
    go_wp2_with fail
    go_ret2
    exact tabsTo2_mk (pairTable_0 hok HM.out) (t3.wide B1.out.size (Nat.le_refl _)) (below_then B1.out b3)

theorem pwL_full {n m : Nat} {xss : List (List Int)} (hn : n ≤ 10) : pwL n m xss = (prL n n).map fun g => pwO n m xss (pairB g.1 g.2) := by
  unfold pwL
  rw [prsS_full hn, List.map_map]
  rfl
theorem pwO_len {n m s t : Nat} {xss : List (List Int)} (hg : Good n m xss) (hs : s < n) (ht : t < n) : (if (pwO n m xss (pairB s t)).ok = true then (((pwO n m xss (pairB s t)).word.length : Nat) : Int) else -1) = lenP n m xss s t := by
  unfold lenP lenO pwO cutW
  rw [pair_same hg hs ht]

/-- The rows of the first k states are made. -/
def madeN (n k : Nat) : List (List Int) := List.replicate k (List.replicate n 0) ++ List.replicate (n - k) []
theorem madeN_len {n k : Nat} (hk : k ≤ n) : (madeN n k).length = n := by unfold madeN; rw [List.length_append, List.length_replicate, List.length_replicate]; omega
theorem madeN_step {n k : Nat} (hk : k < n) : (madeN n k).set k (List.replicate n 0) = madeN n (k + 1) := by
  unfold madeN
  rw [List.set_append_right _ _ (by simp), List.length_replicate, Nat.sub_self, show n - k = (n - (k + 1)) + 1 by omega, List.replicate_succ, List.set_cons_zero, List.replicate_succ', List.append_assoc]
  rfl
theorem tabV_blank (w : World) (lo n : Nat) (h : lo ≤ w.heap.size) (hn : n ≤ 10) : TabV lo (w.heap.size + 1) (w.alloc (.cells (madeCells #[.slice none 0 0] n) 35)) (.slice (some ⟨w.heap.size, 0, none⟩) n n) (List.replicate n (.slice none 0 0)) (madeN n 0) := by
  have e : madeN n 0 = List.replicate n [] := by unfold madeN; rw [List.replicate_zero, List.nil_append, Nat.sub_zero]
  have hv : ∀ (r : Nat) (u : Value), (List.replicate n (Value.slice none 0 0))[r]? = some u → u = .slice none 0 0 := fun r u hu => (List.mem_replicate.1 (List.mem_of_getElem? hu)).2
  rw [e]
  refine ⟨by simp, ?_, fun g hg => ?_, fun r u xs hu hx => ?_, fun r r' u u' g hu _ hg => ?_, fun r u g hu hg => ?_⟩
  · rw [List.length_replicate]
    have h1 := World.ownsRow_lit (e := 35) w (madeCells #[.slice none 0 0] n) n h (by unfold maxLen; omega) (by rw [size_madeCells, Nat.mul_one])
    rw [toList_madeCells_one] at h1
    exact h1
  · simp [Value.ownBlock] at hg; omega
  · obtain rfl := hv r u hu
    obtain rfl := (List.mem_replicate.1 (List.mem_of_getElem? hx)).2
    exact ⟨World.ownsRow_nil _ _ _ _, fun g hg => by simp [Value.ownBlock] at hg⟩
  · obtain rfl := hv r u hu
    simp [Value.ownBlock] at hg
  · obtain rfl := hv r u hu
    simp [Value.ownBlock] at hg

theorem tab_store {lo hi : Nat} {w : World} {G n c s t : Nat} {vs : List Value} {f : Nat → Nat → Int} (h : TabV lo hi w (.slice (some ⟨G, 0, none⟩) n c) vs (sqT n f)) (hs : s < n) (ht : t < n) :
    ∃ gs cs, lo ≤ gs ∧ gs + 1 ≤ hi ∧ w.cell? ⟨G, s, none⟩ = some (.slice (some ⟨gs, 0, none⟩) n cs) ∧ (∃ z, w.cell? ⟨gs, t, none⟩ = some z) ∧ w.frozen? ⟨gs, t, none⟩ = false ∧
      ∀ (w' : World) (x : Int), Below w.heap.size w w' → TabV lo hi (w'.setCell ⟨gs, t, none⟩ (.int .i64 x)) (.slice (some ⟨G, 0, none⟩) n c) vs (sqT n fun a b => if a = s ∧ b = t then x else f a b) := by
  obtain ⟨g, u, hG, hu, hc⟩ := h.cell (r := s) (by rw [sqT_len]; exact hs)
  obtain rfl : g = G := by simpa using hG.symm
  have hrow := h.row s u _ hu (sqT_at f hs)
  have hl : ((List.range n).map (f s)).length = n := by simp
  rw [show IntsIn lo hi w u ((List.range n).map (f s)) = (w.ownsRow lo 2 1 u ((List.range n).map (f s)).length (((List.range n).map (f s)).map (Value.int .i64)) ∧ ∀ g, u.ownBlock = some g → g < hi) from rfl, hl] at hrow
  obtain ⟨hrow, htop⟩ := hrow
  rcases hrow.2 with ⟨hv, h0⟩ | ⟨gs, cap, cur, rfl, hg, hh, hnc, hcap, hsz, htake⟩
  · omega
  · have hlt := htop gs rfl
    refine ⟨gs, cap, hg, hlt, hc, ⟨_, (hrow.cellAt t (by omega)).trans (List.getElem?_eq_getElem (by simp; exact ht))⟩, hrow.frozenAt t, fun w' x hb => ?_⟩
    have hst := (own_below hrow hb).stored t (.int .i64 x)
    rw [← sqT_set f x hs ht]
    refine (h.below hb).set hu (sqT_at f hs) hst.2 ⟨?_, fun q hq => ?_⟩
    · rw [List.length_set, hl, List.map_set]; exact hst.1
    · exact htop q hq

set_option maxRecDepth 100000 in
set_option maxHeartbeats 4000000 in
theorem implPairTable_any (s : Int) (A : Option Addr) (m cap : Nat) (xss : List (List Int)) (w : World) (h : RowsAt w A m xss) (hm : m ≤ 4611686018427387904)
    (hrows : ∀ (r : Nat) (xs : List Int), xss[r]? = some xs → xs.length ≤ 4611686018427387904) :
    Calls Try.prog 14 #[.agg #[.int .i64 s, .slice A m cap]] w (TabsTo2 (pairTable s xss) w) := by
  have HR := Lib.hid hrows
  have HM := Lib.hid h.1
  obtain ⟨w1, hw1⟩ : ∃ w1, w1 = w.alloc (.cells #[.int .i64 s, .slice A m cap] 28) := ⟨_, rfl⟩
  have b1 : Below w.heap.size w w1 := by rw [hw1]; exact (Below.refl _ _).alloc (Nat.le_refl _) _
  have HBX := Lib.hid (show Box w1 w.heap.size [.int .i64 s, .slice A m cap] by rw [hw1]; exact Box.new _ _ _)
  have HX := Lib.hid (h.below b1)
  have HB1 := Lib.hid b1
  have HW := Lib.hid hw1
  clear h b1 hw1 hrows
  go_enter Try.func14, Try.ntmps14
  go_wp2_with fail
  rw [← HW.out]
  refine (implValid_any s A m cap xss w1 HX.out hm HR.out).mono ?_
  rintro e w2 ⟨rfl, b2⟩
  have HB2 := Lib.hid (below_then HB1.out b2)
  have HX2 := Lib.hid (HX.out.below b2)
  have HBX2 := Lib.hid (Box.below HBX.out b2)
  clear b2 HBX HX HW HB1
  rcases hok : okA s xss with _ | _
  · go_wp2_with fail
    go_ret2
    exact tabsTo2_mk (pairTable_1 hok) ⟨[], tabV_none _ _ _⟩ HB2.out
  · obtain ⟨n, hsn, hg⟩ := good_of hok HM.out
    subst hsn
    have HF := Lib.hid (pairTable_0 hok HM.out)
    have hn10 : n ≤ 10 := hg.n10
    have HG := Lib.hid hg
    have hmk := run_make_row' (P := Try.prog) 22 35 (.slice none 0 0) 24 Try.underlying22 info_ints rfl .i64 .i64 n (by omega) (by omega)
    have hmk2 := run_make_row' (P := Try.prog) 35 2 (.int .i64 0) 8 Try.underlying35 info_int64 rfl .i64 .i64 n (by omega) (by omega)
    have q0 := HBX2.out 0 _ rfl
    clear hg hok
    have HT0 := Lib.hid (tabV_blank w2 w2.heap.size n (Nat.le_refl _) hn10)
    have B20 : Below w2.heap.size w2 (w2.alloc (.cells (madeCells #[.slice none 0 0] n) 35)) := (Below.refl _ _).alloc (Nat.le_refl _) _
    have HB20 := Lib.hid B20
    clear B20
    go_wp2_with fail
    go_loopw [18] (fun iv wr => ∃ (k : Nat) (vs : List Value), k ≤ n ∧ iv = .int .i64 k ∧ TabV w2.heap.size wr.heap.size wr (.slice (some ⟨w2.heap.size, 0, none⟩) n n) vs (madeN n k) ∧ (∀ j, k ≤ j → j < n → vs[j]? = some (.slice none 0 0)) ∧ Below w2.heap.size w2 wr) (fun iv _ => n - (intOf iv).toNat)
    case atStart => exact ⟨0, List.replicate n (.slice none 0 0), Nat.zero_le _, rfl, HT0.out.wide (Nat.le_refl _) (by rw [World.size_alloc]; exact Nat.le_refl _), fun j _ hj => by simp [hj], HB20.out⟩
    case round =>
      obtain ⟨k, vs, hk, rfl, htab, hnil, hbel⟩ := hrel
      have HT := Lib.hid htab
      have HB := Lib.hid hbel
      have HNL := Lib.hid hnil
      have hk0 : (0 : Int) ≤ (k : Int) := by omega
      have q0 := (Box.below HBX2.out hbel) 0 _ rfl
      by_cases hlt : k < n
      · have hkn : (k : Int) < (n : Int) := by omega
        have hck : wr.cell? ⟨w2.heap.size, k, none⟩ = some (.slice none 0 0) := by
          have h9 := htab.out
          rw [madeN_len hk] at h9
          exact (h9.cellAt k (by omega)).trans (hnil k (Nat.le_refl _) hlt)
        have hfk : wr.frozen? ⟨w2.heap.size, k, none⟩ = false := by
          have h9 := htab.out
          rw [madeN_len hk] at h9
          exact h9.frozenAt k
        obtain ⟨wa, hwa⟩ : ∃ wa, wa = wr.alloc (.cells (madeCells #[.int .i64 0] n) 2) := ⟨_, rfl⟩
        have ba : Below wr.heap.size wr wa := by rw [hwa]; exact (Below.refl _ _).alloc (Nat.le_refl _) _
        have hca := (ba.cell (cell_lt hck)).trans hck
        have hfa : wa.frozen? ⟨w2.heap.size, k, none⟩ = false := by
          have h9 := own_below htab.out ba
          rw [madeN_len hk] at h9
          exact h9.frozenAt k
        have HOA := Lib.hid (show wa.ownsRow w2.heap.size 2 1 (.slice (some ⟨wr.heap.size, 0, none⟩) n n) (List.replicate n (0 : Int)).length ((List.replicate n (0 : Int)).map (Value.int .i64)) by
          rw [← made_zeros, List.length_replicate, hwa]
          exact World.ownsRow_lit wr _ n hbel.size (by unfold maxLen; omega) (by rw [size_madeCells, Nat.mul_one]))
        have HWA := Lib.hid hwa
        have HBA := Lib.hid ba
        rw [hwa] at hca hfa
        clear htab hnil hbel hwa ba
        go_wp2_with fail
        rw [← HWA.out]
        clear hca hfa hck hfk q0
        go_roundw
        case rel =>
          have hT := HT.out
          have hb := HB.out
          have hba := HBA.out
          have hre := TabV.regrow hT (madeN_len hk) hlt (HNL.out k (Nat.le_refl _) hlt) (Below.refl _ _) (⟨hba.os, hba.tape, hba.output, hba.size, fun j hj _ => hba.block j hj⟩) HOA.out rfl (.inr rfl)
          rw [madeN_step hlt] at hre
          refine ⟨k + 1, _, by omega, by go_num, hre, fun j hj hjn => ?_, (below_then hb hba).setCell (Nat.le_refl _) _⟩
          rw [List.getElem?_set, if_neg (by omega)]
          exact HNL.out j (by omega) hjn
        case measure => simp [intOf]; omega
      · have hke : k = n := by omega
        have hkn : ¬ (k : Int) < (n : Int) := by omega
        have q1 := (Box.below HBX2.out hbel) 1 _ rfl
        have HTT := Lib.hid (show TabV w2.heap.size wr.heap.size wr (.slice (some ⟨w2.heap.size, 0, none⟩) n n) vs (sqT n (tabP n m xss 0)) by
          have h9 := htab
          rw [hke] at h9
          rw [tabP_0]
          unfold madeN at h9
          rw [Nat.sub_self, List.replicate_zero, List.append_nil] at h9
          exact h9)
        obtain ⟨wt, hwt⟩ : ∃ wt, wt = wr := ⟨_, rfl⟩
        rw [← hwt] at HB HTT q0 q1 ⊢
        clear HT hke hnil htab hbel hlt HNL hwt
        go_wp2_with fail
        refine (pairWords_any A n m cap xss wt HG.out (HX2.out.below HB.out)).mono ?_
        rintro e w3 ⟨u, rfl, ⟨ws, hpw⟩, b3⟩
        obtain ⟨P, hP⟩ : ∃ P, P = pwL n m xss := ⟨_, rfl⟩
        rw [← hP] at hpw
        obtain ⟨A3, C3, rfl⟩ := own2_form hpw.out
        obtain ⟨N, hN⟩ : ∃ N, N = P.length := ⟨_, rfl⟩
        have HPW := Lib.hid hpw
        have HNL2 := Lib.hid (show N = (prL n n).length by rw [hN, hP, pwL_full hn10, List.length_map])
        have hN100 : N ≤ 100 := by
          rw [HNL2.out]
          have h8 := prL_len n n
          have h9 : n * n ≤ 10 * 10 := Nat.mul_le_mul hn10 hn10
          omega
        rw [← hN]
        have HN := Lib.hid hN
        have HP := Lib.hid hP
        have HT3 := Lib.hid (HTT.out.below b3)
        have HB3 := Lib.hid (below_then HB.out b3)
        have HSZ3 := Lib.hid b3.size
        clear hpw b3 hN hP q0 q1 HTT
        go_wp2_with fail
        go_loopw [31] (fun iv wr => ∃ (k : Nat) (T : List (List Int)), k ≤ N ∧ iv = .int .i64 k ∧ T = sqT n (tabP n m xss k) ∧ TabV w2.heap.size wt.heap.size wr (.slice (some ⟨w2.heap.size, 0, none⟩) n n) vs T ∧ Only w2.heap.size wt.heap.size w3 wr) (fun iv _ => N - (intOf iv).toNat)
        case atStart => exact ⟨0, _, Nat.zero_le _, rfl, rfl, HT3.out, Only.refl _ _ _⟩
        case round =>
          obtain ⟨k, T, hk, rfl, hTk, htab, hon⟩ := hrel
          have HT := Lib.hid htab
          have HON := Lib.hid hon
          have HTK := Lib.hid hTk
          have hk0 : (0 : Int) ≤ (k : Int) := by omega
          clear htab hon hTk
          by_cases hlt : k < N
          · have hkn : (k : Int) < (N : Int) := by omega
            obtain ⟨⟨s, t⟩, hst⟩ : ∃ g, (prL n n)[k]? = some g := ⟨_, List.getElem?_eq_getElem (by rw [← HNL2.out]; exact hlt)⟩
            have hlim := prL_mem (List.mem_of_getElem? hst)
            obtain ⟨p, hp⟩ : ∃ p, p = pwO n m xss (pairB s t) := ⟨_, rfl⟩
            have hPk : P[k]? = some p := by rw [HP.out, pwL_full hn10, List.getElem?_map, hst, hp]; rfl
            obtain ⟨g, A', c', rfl, e1, e2, e3, hus⟩ := PwV.cells HPW.out hPk
            have hgg : wt.heap.size ≤ g := (HPW.out.out.lt g rfl).1
            have e1 := (HON.out.cell (cell_lt e1) (.inr hgg)).trans e1
            have e2 := (HON.out.cell (cell_lt e2) (.inr hgg)).trans e2
            have e3 := (HON.out.cell (cell_lt e3) (.inr hgg)).trans e3
            have HLEN := Lib.hid (pwO_len (xss := xss) HG.out (show s < n by omega) (show t < n by omega))
            rw [← hp] at HLEN
            obtain ⟨b, hb⟩ : ∃ b, b = p.pair := ⟨_, rfl⟩
            obtain ⟨l, hl⟩ : ∃ l, l = p.word.length := ⟨_, rfl⟩
            obtain ⟨ok, hok⟩ : ∃ ok, ok = p.ok := ⟨_, rfl⟩
            have HBP := Lib.hid (show b = pairB s t by rw [hb, hp]; rfl)
            rw [← hb] at e1
            rw [← hl] at e2 HLEN
            rw [← hok] at e3 HLEN
            have HST := Lib.hid hst
            have HLIM := Lib.hid hlim
            clear hb hl hok hp hus hst hlim
            have hVV : ∃ V, V = lenP n m xss s t := ⟨_, rfl⟩
            obtain ⟨V, hV⟩ := hVV
            rw [← hV] at HLEN
            have HV := Lib.hid hV
            clear hV
            rcases ok with _ | _
            · have hV1 : -1 = V := by have h9 := HLEN.out; rwa [if_neg (by simp)] at h9
              have HV1 := Lib.hid hV1
              clear hV1
              go_wp2_with fail
              rw [HV1.out]
              obtain ⟨wb, hwb⟩ : ∃ wb, wb = wr.alloc (.cells #[.int .u16 (b : Int), .slice A' l c', .bool false] 76) := ⟨_, rfl⟩
              have HONB := Lib.hid (show Only w2.heap.size wt.heap.size w3 wb by rw [hwb]; exact HON.out.trans (Only.of_below ((Below.refl _ _).alloc (Nat.le_refl _) _) _ _))
              have HTB := Lib.hid (show TabV w2.heap.size wt.heap.size wb _ vs T by rw [hwb]; exact HT.out.below ((Below.refl _ _).alloc (Nat.le_refl _) _))
              rw [← hwb]
              have hlim := HLIM.out
              clear hwb e1 e2 e3
              refine (setList_any b wb (by rw [HBP.out]; exact pair_lt s (by omega) t (by omega))).mono ?_
              rintro e w4 ⟨u, rfl, o4, b4⟩
              rw [HBP.out, list_pair s (by omega) t (by omega) hlim.2.1] at o4
              obtain ⟨A9, C9, rfl⟩ := own_form o4
              obtain ⟨g9, rfl, hNC9, hcells⟩ := own_cells (n := 2) o4 rfl (by omega)
              have hg9 : wb.heap.size ≤ g9 := (o4.lt g9 rfl).1
              have hg9' : wt.heap.size ≤ g9 := by have h1 := HONB.out.size; have h2 := HSZ3.out; omega
              have d0 : w4.cell? ⟨g9, 0, none⟩ = some (.int .i64 ((s : Nat) : Int)) := hcells 0 (by omega)
              have d1 : w4.cell? ⟨g9, 1, none⟩ = some (.int .i64 ((t : Nat) : Int)) := hcells 1 (by omega)
              have HT4 := Lib.hid (show TabV w2.heap.size wt.heap.size w4 (.slice (some ⟨w2.heap.size, 0, none⟩) n n) vs (sqT n (tabP n m xss k)) by rw [← HTK.out]; exact HTB.out.below b4)
              have HON4 := Lib.hid (HONB.out.trans (Only.of_below b4 _ _))
              obtain ⟨gs, cs, hgs, hgsh, d3, ⟨z3, z3'⟩, f3, hst3⟩ := tab_store HT4.out (show s < n by omega) (show t < n by omega)
              have HG9 := Lib.hid hg9'
              have i1 : (0 : Int) ≤ (s : Int) := by omega
              have i2 : (s : Int) < (n : Int) := by omega
              have i3 : (0 : Int) ≤ (t : Int) := by omega
              have i4 : (t : Int) < (n : Int) := by omega
              clear hcells hg9 hg9' o4 b4 hlim
              go_wp2_with fail
              go_still_tail 11, (by decide +kernel)
              obtain ⟨W5, hW5⟩ : ∃ W5, W5 = w4.drew := ⟨_, rfl⟩
              have b5 : Below w4.heap.size w4 W5 := by rw [hW5]; exact below_drewN' (Below.refl _ _) 1
              have hz5 := (b5.cell (cell_lt z3')).trans z3'
              have hf5 : W5.frozen? ⟨gs, t, none⟩ = false := by rw [hW5]; exact f3
              have hst5 : TabV w2.heap.size wt.heap.size (W5.setCell ⟨gs, t, none⟩ (.int .i64 V)) (.slice (some ⟨w2.heap.size, 0, none⟩) n n) vs (sqT n fun a b => if a = s ∧ b = t then V else tabP n m xss k a b) := hst3 W5 V b5
              have HON5 := Lib.hid ((HON4.out.trans (Only.of_below b5 _ _)).trans ((only_setCell W5 gs t (.int .i64 V)).wide hgs hgsh))
              have on5 := (Only.of_below b5 w2.heap.size wt.heap.size).trans ((only_setCell W5 gs t (.int .i64 V)).wide hgs hgsh)
              have d0 := (on5.cell (cell_lt d0) (.inr HG9.out)).trans d0
              have d1 := (on5.cell (cell_lt d1) (.inr HG9.out)).trans d1
              have HT5 := Lib.hid hst5
              change wpList _ _ _ _ _ w4.drew
              rw [← hW5]
              clear hW5 b5 z3' f3 d3 hst3 hst5 hgs hgsh on5
              go_wp2_with fail
              obtain ⟨w6, hw6⟩ : ∃ w6, w6 = W5.setCell ⟨gs, t, none⟩ (.int .i64 V) := ⟨_, rfl⟩
              rw [← hw6] at HT5 HON5 d0 d1 ⊢
              obtain ⟨gt, ct, hgt, hgth, d4, ⟨z4, z4'⟩, f4, hst4⟩ := tab_store HT5.out (show t < n by omega) (show s < n by omega)
              clear hz5 hf5 hw6
              go_wp2_with fail
              go_still_tail 11, (by decide +kernel)
              obtain ⟨W7, hW7⟩ : ∃ W7, W7 = w6.drew := ⟨_, rfl⟩
              have b7 : Below w6.heap.size w6 W7 := by rw [hW7]; exact below_drewN' (Below.refl _ _) 1
              have hz7 := (b7.cell (cell_lt z4')).trans z4'
              have hf7 : W7.frozen? ⟨gt, s, none⟩ = false := by rw [hW7]; exact f4
              have hst7 : TabV w2.heap.size wt.heap.size (W7.setCell ⟨gt, s, none⟩ (.int .i64 V)) (.slice (some ⟨w2.heap.size, 0, none⟩) n n) vs (sqT n fun a b => if a = t ∧ b = s then V else (if a = s ∧ b = t then V else tabP n m xss k a b)) := hst4 W7 V b7
              have HON7 := Lib.hid ((HON5.out.trans (Only.of_below b7 _ _)).trans ((only_setCell W7 gt s (.int .i64 V)).wide hgt hgth))
              have HT7 := Lib.hid hst7
              change wpList _ _ _ _ _ w6.drew
              rw [← hW7]
              clear hW7 b7 z4' f4 d4 hst4 hst7 hgt hgth d0 d1
              go_wp2_with fail
              go_roundw
              case rel =>
                refine ⟨k + 1, _, by omega, by go_num, rfl, ?_, HON7.out⟩
                have h9 := HT7.out
                rw [HV.out, tabP_step HST.out] at h9
                rw [HV.out]
                exact h9
              case measure => simp [intOf]; omega
            · have hV1 : ((l : Nat) : Int) = V := by have h9 := HLEN.out; rwa [if_pos rfl] at h9
              have HV1 := Lib.hid hV1
              clear hV1
              go_wp2_with fail
              rw [HV1.out]
              obtain ⟨wb, hwb⟩ : ∃ wb, wb = wr.alloc (.cells #[.int .u16 (b : Int), .slice A' l c', .bool true] 76) := ⟨_, rfl⟩
              have HONB := Lib.hid (show Only w2.heap.size wt.heap.size w3 wb by rw [hwb]; exact HON.out.trans (Only.of_below ((Below.refl _ _).alloc (Nat.le_refl _) _) _ _))
              have HTB := Lib.hid (show TabV w2.heap.size wt.heap.size wb _ vs T by rw [hwb]; exact HT.out.below ((Below.refl _ _).alloc (Nat.le_refl _) _))
              rw [← hwb]
              have hlim := HLIM.out
              clear hwb e1 e2 e3
              refine (setList_any b wb (by rw [HBP.out]; exact pair_lt s (by omega) t (by omega))).mono ?_
              rintro e w4 ⟨u, rfl, o4, b4⟩
              rw [HBP.out, list_pair s (by omega) t (by omega) hlim.2.1] at o4
              obtain ⟨A9, C9, rfl⟩ := own_form o4
              obtain ⟨g9, rfl, hNC9, hcells⟩ := own_cells (n := 2) o4 rfl (by omega)
              have hg9 : wb.heap.size ≤ g9 := (o4.lt g9 rfl).1
              have hg9' : wt.heap.size ≤ g9 := by have h1 := HONB.out.size; have h2 := HSZ3.out; omega
              have d0 : w4.cell? ⟨g9, 0, none⟩ = some (.int .i64 ((s : Nat) : Int)) := hcells 0 (by omega)
              have d1 : w4.cell? ⟨g9, 1, none⟩ = some (.int .i64 ((t : Nat) : Int)) := hcells 1 (by omega)
              have HT4 := Lib.hid (show TabV w2.heap.size wt.heap.size w4 (.slice (some ⟨w2.heap.size, 0, none⟩) n n) vs (sqT n (tabP n m xss k)) by rw [← HTK.out]; exact HTB.out.below b4)
              have HON4 := Lib.hid (HONB.out.trans (Only.of_below b4 _ _))
              obtain ⟨gs, cs, hgs, hgsh, d3, ⟨z3, z3'⟩, f3, hst3⟩ := tab_store HT4.out (show s < n by omega) (show t < n by omega)
              have HG9 := Lib.hid hg9'
              have i1 : (0 : Int) ≤ (s : Int) := by omega
              have i2 : (s : Int) < (n : Int) := by omega
              have i3 : (0 : Int) ≤ (t : Int) := by omega
              have i4 : (t : Int) < (n : Int) := by omega
              clear hcells hg9 hg9' o4 b4 hlim
              go_wp2_with fail
              go_still_tail 11, (by decide +kernel)
              obtain ⟨W5, hW5⟩ : ∃ W5, W5 = w4.drew := ⟨_, rfl⟩
              have b5 : Below w4.heap.size w4 W5 := by rw [hW5]; exact below_drewN' (Below.refl _ _) 1
              have hz5 := (b5.cell (cell_lt z3')).trans z3'
              have hf5 : W5.frozen? ⟨gs, t, none⟩ = false := by rw [hW5]; exact f3
              have hst5 : TabV w2.heap.size wt.heap.size (W5.setCell ⟨gs, t, none⟩ (.int .i64 V)) (.slice (some ⟨w2.heap.size, 0, none⟩) n n) vs (sqT n fun a b => if a = s ∧ b = t then V else tabP n m xss k a b) := hst3 W5 V b5
              have HON5 := Lib.hid ((HON4.out.trans (Only.of_below b5 _ _)).trans ((only_setCell W5 gs t (.int .i64 V)).wide hgs hgsh))
              have on5 := (Only.of_below b5 w2.heap.size wt.heap.size).trans ((only_setCell W5 gs t (.int .i64 V)).wide hgs hgsh)
              have d0 := (on5.cell (cell_lt d0) (.inr HG9.out)).trans d0
              have d1 := (on5.cell (cell_lt d1) (.inr HG9.out)).trans d1
              have HT5 := Lib.hid hst5
              change wpList _ _ _ _ _ w4.drew
              rw [← hW5]
              clear hW5 b5 z3' f3 d3 hst3 hst5 hgs hgsh on5
              go_wp2_with fail
              obtain ⟨w6, hw6⟩ : ∃ w6, w6 = W5.setCell ⟨gs, t, none⟩ (.int .i64 V) := ⟨_, rfl⟩
              rw [← hw6] at HT5 HON5 d0 d1 ⊢
              obtain ⟨gt, ct, hgt, hgth, d4, ⟨z4, z4'⟩, f4, hst4⟩ := tab_store HT5.out (show t < n by omega) (show s < n by omega)
              clear hz5 hf5 hw6
              go_wp2_with fail
              go_still_tail 11, (by decide +kernel)
              obtain ⟨W7, hW7⟩ : ∃ W7, W7 = w6.drew := ⟨_, rfl⟩
              have b7 : Below w6.heap.size w6 W7 := by rw [hW7]; exact below_drewN' (Below.refl _ _) 1
              have hz7 := (b7.cell (cell_lt z4')).trans z4'
              have hf7 : W7.frozen? ⟨gt, s, none⟩ = false := by rw [hW7]; exact f4
              have hst7 : TabV w2.heap.size wt.heap.size (W7.setCell ⟨gt, s, none⟩ (.int .i64 V)) (.slice (some ⟨w2.heap.size, 0, none⟩) n n) vs (sqT n fun a b => if a = t ∧ b = s then V else (if a = s ∧ b = t then V else tabP n m xss k a b)) := hst4 W7 V b7
              have HON7 := Lib.hid ((HON5.out.trans (Only.of_below b7 _ _)).trans ((only_setCell W7 gt s (.int .i64 V)).wide hgt hgth))
              have HT7 := Lib.hid hst7
              change wpList _ _ _ _ _ w6.drew
              rw [← hW7]
              clear hW7 b7 z4' f4 d4 hst4 hst7 hgt hgth d0 d1
              go_wp2_with fail
              go_roundw
              case rel =>
                refine ⟨k + 1, _, by omega, by go_num, rfl, ?_, HON7.out⟩
                have h9 := HT7.out
                rw [HV.out, tabP_step HST.out] at h9
                rw [HV.out]
                exact h9
              case measure => simp [intOf]; omega
          · have hke : k = N := by omega
            have hkn : ¬ (k : Int) < (N : Int) := by omega
            have HTE := Lib.hid (show T = tabK n m xss n by rw [HTK.out, hke, HNL2.out, tabP_all HG.out])
            clear hke hlt
            go_wp2_with fail
            go_ret2
            have h9 := HT.out
            have hon := HON.out
            have hs3 := HSZ3.out
            have hb3 := HB3.out.size
            have hb2 := HB2.out.size
            have hos := hon.size
            rw [HTE.out] at h9
            exact tabsTo2_mk HF.out ⟨vs, h9.wide hb2 (by omega)⟩ (below_then HB2.out (Only.below HB3.out hon (Nat.le_refl _) (by omega)))

end Go.Proofs.Ytcglncepmieaaaa
