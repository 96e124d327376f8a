/-
  Automata as the laws hold them: lists of lists of numbers in memory, and the contracts of what the laws do with them: szInt64S, szInt64SS, szAutomaton, toInt64SS, toAutomaton, eqInt64SS, eqAutomaton.
-/
import Derived.Test.YtcglncepmieaaaaBase
import Derived.Deep.RegionHeld3
import Derived.Deep.Matrix
import Derived.Outline
namespace Go.Proofs.Ytcglncepmieaaaa
open Go.RowKit Go.Deep Go.ChangeShapes Go.WideShapes

/-- The slice with the address A and the length n reads as the lists xss in the world w. -/
def RowsAt (w : World) (A : Option Addr) (n : Nat) (xss : List (List Int)) : Prop :=
  xss.length = n ∧ ∀ r xs, xss[r]? = some xs → ∃ b off A' c', A = some ⟨b, off, none⟩ ∧ w.cell? ⟨b, off + r, none⟩ = some (.slice A' xs.length c') ∧ NumsAt w A' xs.length xs

theorem RowsAt.nil (w : World) (A : Option Addr) : RowsAt w A 0 [] := ⟨rfl, fun k x h => by simp at h⟩
theorem RowsAt.at_ {w : World} {A : Option Addr} {n : Nat} {xss : List (List Int)} (h : RowsAt w A n xss) {r : Nat} (hr : r < n) :
    ∃ xs b off A' c', xss[r]? = some xs ∧ A = some ⟨b, off, none⟩ ∧ w.cell? ⟨b, off + r, none⟩ = some (.slice A' xs.length c') ∧ NumsAt w A' xs.length xs := by
  have hl : r < xss.length := by rw [h.1]; exact hr
  obtain ⟨b, off, A', c', e, hc, hx⟩ := h.2 r xss[r] (List.getElem?_eq_getElem hl)
  exact ⟨_, b, off, A', c', List.getElem?_eq_getElem hl, e, hc, hx⟩
theorem RowsAt.below {w w' : World} {A : Option Addr} {n : Nat} {xss : List (List Int)} (h : RowsAt w A n xss) (hb : Below w.heap.size w w') : RowsAt w' A n xss :=
  ⟨h.1, fun r xs hx => by
    obtain ⟨b, off, A', c', e, hc, hn⟩ := h.2 r xs hx
    exact ⟨b, off, A', c', e, (hb.cell (cell_lt hc)).trans hc, hn.below hb⟩⟩
theorem RowsAt.drewN {w : World} {A : Option Addr} {n : Nat} {xss : List (List Int)} (h : RowsAt w A n xss) (k : Nat) : RowsAt (w.drewN k) A n xss := h

def sumLens (xss : List (List Int)) : Nat := (xss.map List.length).sum
theorem sumLens_snoc {xss : List (List Int)} {k : Nat} {xs : List Int} (hx : xss[k]? = some xs) : sumLens (xss.take (k + 1)) = sumLens (xss.take k) + xs.length := by
  rw [take_snoc hx]; simp [sumLens]
theorem sumLens_take (xss : List (List Int)) (k : Nat) : sumLens (xss.take k) ≤ sumLens xss := by
  have h : sumLens xss = sumLens (xss.take k) + sumLens (xss.drop k) := by
    unfold sumLens
    rw [← List.sum_append, ← List.map_append, List.take_append_drop]
  omega
theorem len_le_sum {xss : List (List Int)} {k : Nat} {xs : List Int} (hx : xss[k]? = some xs) : xs.length ≤ sumLens xss := by
  have h1 := sumLens_snoc hx
  have h2 := sumLens_take xss (k + 1)
  omega

/-! ### What is left of a bound -/
def leftOf (left : Int) (n : Nat) : Int := if left - (n : Int) < 0 then -1 else left - (n : Int)

theorem szInt64S_any (A : Option Addr) (n cap : Nat) (left : Int) (w : World) (hn : n ≤ 9223372036854775807) (h0 : 0 ≤ left) (h1 : left ≤ 4611686018427387904) :
    Calls Try.prog 93 #[.slice A n cap, .int .i64 left] w fun e w' => e = .returned (.int .i64 (leftOf left n)) ∧ w = w' := by
  by_cases h : left - (n : Int) < 0
  · go_enter Try.func93, Try.ntmps93
    go_wp2
    go_ret
    exact ⟨ret_int (by rw [leftOf, if_pos h]), rfl⟩
  · go_enter Try.func93, Try.ntmps93
    go_wp2
    go_ret
    exact ⟨ret_int (by rw [leftOf, if_neg (by omega)]), rfl⟩

/-- What szInt64SS answers: -1, or what is left when all lists and all their elements are counted. -/
def SizedTo (xss : List (List Int)) (left r : Int) : Prop := r = -1 ∨ (0 ≤ r ∧ r + ((xss.length + sumLens xss : Nat) : Int) = left)
def SizedOut (xss : List (List Int)) (left : Int) (w : World) (e : Ending) (w' : World) : Prop := ∃ r : Int, e = .returned (.int .i64 r) ∧ SizedTo xss left r ∧ w = w'

theorem szInt64SS_any (A : Option Addr) (n cap : Nat) (xss : List (List Int)) (left : Int) (w : World) (h : RowsAt w A n xss) (hn : n ≤ 9223372036854775807) (hrows : ∀ (r : Nat) (xs : List Int), xss[r]? = some xs → xs.length ≤ 9223372036854775807) (h0 : 0 ≤ left) (h1 : left ≤ 4611686018427387904) :
    Calls Try.prog 50 #[.slice A n cap, .int .i64 left] w (SizedOut xss left w) := by
  have HR := Lib.hid hrows
  have HL := Lib.hid h.1
  clear hrows
  by_cases hbig : left - (n : Int) < 0
  · go_enter Try.func50, Try.ntmps50
    go_wp2
    go_ret
    exact ⟨-1, rfl, .inl rfl, rfl⟩
  · go_enter Try.func50, Try.ntmps50
    go_wp2
    go_loop [1, 5] (fun lv i => ∃ (k : Nat) (q : Int), k ≤ n ∧ i = .int .i64 k ∧ lv = .int .i64 q ∧ 0 ≤ q ∧ q ≤ left ∧ q + ((n + sumLens (xss.take k) : Nat) : Int) = left) (fun _ i => n - (intOf i).toNat)
    case atStart => exact ⟨0, left - (n : Int), Nat.zero_le _, rfl, rfl, by omega, by omega, by simp [sumLens]⟩
    case round =>
      obtain ⟨k, q, hk, rfl, rfl, hq0, hql, hsum⟩ := hrel
      have HS := Lib.hid hsum
      clear hsum
      by_cases hlt : k < n
      · obtain ⟨xs, b, off, A', c', hx, rfl, hc, hnum⟩ := h.at_ hlt
        have HX := Lib.hid hx
        have hlen : xs.length ≤ 9223372036854775807 := HR.out k xs hx
        have hk0 : (0 : Int) ≤ (k : Int) := by omega
        have hkn : (k : Int) < (n : Int) := by omega
        clear hx hnum
        by_cases hneg : q - (xs.length : Int) < 0
        · have hl : leftOf q xs.length = -1 := if_pos hneg
          go_wp2_with (go_at_call 93; refine (szInt64S_any _ _ _ _ _ hlen hq0 (by omega)).mono ?_; rw [hl]; rintro e w' ⟨rfl, rfl⟩)
          go_ret
          exact ⟨-1, rfl, .inl rfl, rfl⟩
        · have hl : leftOf q xs.length = q - (xs.length : Int) := if_neg hneg
          go_wp2_with (go_at_call 93; refine (szInt64S_any _ _ _ _ _ hlen hq0 (by omega)).mono ?_; rw [hl]; rintro e w' ⟨rfl, rfl⟩)
          go_round
          case rel => exact ⟨k + 1, q - (xs.length : Int), by omega, by go_num, rfl, by omega, by omega, by rw [sumLens_snoc HX.out]; have := HS.out; omega⟩
          case measure => simp [intOf]; omega
      · go_wp2
        go_ret
        refine ⟨q, rfl, .inr ⟨hq0, ?_⟩, rfl⟩
        have := HS.out
        rw [show k = n from by omega, List.take_of_length_le (Nat.le_of_eq HL.out)] at this
        rw [HL.out]
        exact this

theorem szAutomaton_any (s : Int) (A : Option Addr) (n cap : Nat) (xss : List (List Int)) (left : Int) (w : World) (h : RowsAt w A n xss) (hn : n ≤ 9223372036854775807) (hrows : ∀ (r : Nat) (xs : List Int), xss[r]? = some xs → xs.length ≤ 9223372036854775807) (h0 : 0 ≤ left) (h1 : left ≤ 4611686018427387904) :
    Calls Try.prog 11 #[.agg #[.int .i64 s, .slice A n cap], .int .i64 left] w fun e w' => ∃ r : Int, e = .returned (.int .i64 r) ∧ SizedTo xss left r ∧ Below w.heap.size w w' := by
  have HR := Lib.hid hrows
  clear hrows
  go_enter Try.func11, Try.ntmps11
  go_wp2_with fail
  refine (szInt64SS_any _ _ _ xss _ _ (h.below ((Below.refl _ _).alloc (Nat.le_refl _) _)) hn HR.out h0 h1).mono ?_
  rintro e w' ⟨r, rfl, hr, rfl⟩
  have HR2 := Lib.hid hr
  by_cases hneg : r < 0
  · have hr1 : r = -1 := by rcases hr with h | h <;> omega
    subst hr1
    clear hr
    go_wp2_with fail
    go_ret
    exact ⟨-1, rfl, HR2.out, (Below.refl _ _).alloc (Nat.le_refl _) _⟩
  · clear hr
    go_wp2_with fail
    go_ret
    exact ⟨r, rfl, HR2.out, (Below.refl _ _).alloc (Nat.le_refl _) _⟩

/-! ### toInt64SS, toAutomaton: copies in new blocks -/
def rowVal (g r : Nat) (xs : List Int) : Value := .slice (some ⟨g + 1 + r, 0, none⟩) xs.length xs.length
/-- A list of lists in blocks of the call's own: the outer list in the block g, the list r in the block g + 1 + r. -/
def Grid (w : World) (g : Nat) (xss : List (List Int)) : Prop :=
  w.ownsRow g 35 1 (.slice (some ⟨g, 0, none⟩) xss.length xss.length) xss.length (xss.mapIdx (rowVal g)) ∧
  ∀ (r : Nat) (xs : List Int), xss[r]? = some xs → w.ownsRow g 2 1 (rowVal g r xs) xs.length (xs.map (Value.int .i64))

theorem Grid.below {w w' : World} {g : Nat} {xss : List (List Int)} (h : Grid w g xss) (hb : Below w.heap.size w w') : Grid w' g xss :=
  ⟨own_below h.1 hb, fun r xs hx => own_below (h.2 r xs hx) hb⟩
theorem Grid.drewN {w : World} {g : Nat} {xss : List (List Int)} (h : Grid w g xss) (k : Nat) : Grid (w.drewN k) g xss := h
theorem Grid.rows {w : World} {g : Nat} {xss : List (List Int)} (h : Grid w g xss) : RowsAt w (some ⟨g, 0, none⟩) xss.length xss := by
  refine ⟨rfl, fun r xs hx => ⟨g, 0, some ⟨g + 1 + r, 0, none⟩, xs.length, rfl, ?_, NumsAt.own (h.2 r xs hx) rfl rfl⟩⟩
  have hr : r < xss.length := by
    rcases Nat.lt_or_ge r xss.length with hlt | hge
    · exact hlt
    · rw [List.getElem?_eq_none hge] at hx; cases hx
  rw [Nat.zero_add, h.1.cellAt r (by omega), List.getElem?_mapIdx, hx]
  rfl

theorem Grid.setLow {w : World} {g : Nat} {xss : List (List Int)} (h : Grid w g xss) {p : Addr} (hp : p.block < g) (u : Value) : Grid (w.setCell p u) g xss :=
  ⟨ownsRow_setCell_below h.1 hp u, fun r xs hx => ownsRow_setCell_below (h.2 r xs hx) hp u⟩

theorem info_ints : (Try.prog.info? 35).map (fun i => (i.zero, i.size, i.bytes)) = some (some (.slice none 0 0), 1, 24) := by kernel_rfl

theorem grid_step {g : Nat} {xss : List (List Int)} {k : Nat} {xs : List Int} (hx : xss[k]? = some xs) :
    ((xss.take k).mapIdx (rowVal g) ++ List.replicate (xss.length - k) (Value.slice none 0 0)).set k (rowVal g k xs) = (xss.take (k + 1)).mapIdx (rowVal g) ++ List.replicate (xss.length - (k + 1)) (Value.slice none 0 0) := by
  have hk : k < xss.length := by
    rcases Nat.lt_or_ge k xss.length with hlt | hge
    · exact hlt
    · rw [List.getElem?_eq_none hge] at hx; cases hx
  have hl : (xss.take k).length = k := by rw [List.length_take]; omega
  rw [take_snoc hx, List.mapIdx_concat, hl, show xss.length - k = (xss.length - (k + 1)) + 1 from by omega, List.replicate_succ, List.set_append_right _ _ (by rw [List.length_mapIdx, hl]; exact Nat.le_refl _), List.length_mapIdx, hl, Nat.sub_self, List.set_cons_zero]
  simp

def CopyAt (w : World) (n k : Nat) (xss : List (List Int)) (wr : World) : Prop :=
  wr.heap.size = w.heap.size + 1 + k ∧ wr.ownsRow w.heap.size 35 1 (.slice (some ⟨w.heap.size, 0, none⟩) n n) n ((xss.take k).mapIdx (rowVal w.heap.size) ++ List.replicate (xss.length - k) (Value.slice none 0 0)) ∧
  (∀ (r : Nat) (xs : List Int), xss[r]? = some xs → r < k → wr.ownsRow w.heap.size 2 1 (rowVal w.heap.size r xs) xs.length (xs.map (Value.int .i64))) ∧ Below w.heap.size w wr

theorem copyAt_step {w wr w1 : World} {n k : Nat} {xss : List (List Int)} {xs : List Int} (h : CopyAt w n k xss wr) (hx : xss[k]? = some xs)
    (o1 : w1.ownsRow wr.heap.size 2 1 (.slice (some ⟨wr.heap.size, 0, none⟩) xs.length xs.length) xs.length (xs.map (Value.int .i64))) (b1 : Below wr.heap.size wr w1) (z1 : w1.heap.size = wr.heap.size + 1) :
    CopyAt w n (k + 1) xss (w1.setCell ⟨w.heap.size, k, none⟩ (.slice (some ⟨wr.heap.size, 0, none⟩) xs.length xs.length)) := by
  obtain ⟨hz, ho, hrows, hb⟩ := h
  have ho1 := own_below ho b1
  have hst := ho1.stored k (rowVal w.heap.size k xs)
  have hv : (Value.slice (some ⟨wr.heap.size, 0, none⟩) xs.length xs.length) = rowVal w.heap.size k xs := by rw [hz]; rfl
  rw [hv]
  refine ⟨by rw [World.size_setCell, z1, hz]; omega, ?_, fun r ys hy hr => ?_, (hb.trans (b1.mono hb.size)).setCell (Nat.le_refl _) _⟩
  · rw [← grid_step hx]
    exact hst.1
  · by_cases e : r = k
    · subst e
      obtain rfl : xs = ys := by rw [hx] at hy; exact Option.some.inj hy
      rw [hv] at o1
      exact (own_base o1 (by omega)).kept hst.2 (.inr (by simp [Value.ownBlock, rowVal]; omega))
    · exact (own_below (hrows r ys hy (by omega)) b1).kept hst.2 (.inr (by simp [Value.ownBlock, rowVal]; omega))

set_option maxHeartbeats 1000000 in
theorem toInt64SS_any (A : Option Addr) (n cap : Nat) (xss : List (List Int)) (w : World) (h : RowsAt w A n xss) (hn : n ≤ 1048576) (hrows : ∀ (r : Nat) (xs : List Int), xss[r]? = some xs → xs.length ≤ 1048576) :
    Calls Try.prog 53 #[.slice A n cap] w fun e w' => e = .returned (.slice (some ⟨w.heap.size, 0, none⟩) n n) ∧ Grid w' w.heap.size xss ∧ Below w.heap.size w w' ∧ w'.heap.size = w.heap.size + 1 + n := by
  have HL := Lib.hid h.1
  have HN := Lib.hid hn
  have HR := Lib.hid hrows
  have hmk := run_make_row' (P := Try.prog) 22 35 (.slice none 0 0) 24 Try.underlying22 info_ints rfl .i64 .i64 n (by omega) (by omega)
  have hn' : n ≤ 4611686018427387904 := by omega
  clear hn hrows
  go_enter Try.func53, Try.ntmps53
  go_wp2
  clear hmk
  go_loopw [4] (fun i wr => ∃ k : Nat, k ≤ n ∧ i = .int .i64 k ∧ CopyAt w n k xss wr) (fun i _ => n - (intOf i).toNat)
  case atStart =>
    refine ⟨0, Nat.zero_le _, rfl, by simp, ?_, fun r xs _ hr => absurd hr (Nat.not_lt_zero _), (Below.refl _ _).alloc (Nat.le_refl _) _⟩
    have hs : (madeCells #[Value.slice none 0 0] n).toList = (xss.take 0).mapIdx (rowVal w.heap.size) ++ List.replicate (xss.length - 0) (Value.slice none 0 0) := by rw [toList_madeCells_one]; simp [HL.out]
    rw [← hs]
    exact World.ownsRow_lit w _ n (Nat.le_refl _) (by have := HN.out; unfold maxLen; omega) (by rw [size_madeCells, Nat.mul_one])
  case round =>
    obtain ⟨k, hk, rfl, hcopy⟩ := hrel
    have HC := Lib.hid hcopy
    clear hcopy
    by_cases hlt : k < n
    · obtain ⟨xs, b, off, A', c', hx, rfl, hc, hnum⟩ := h.at_ hlt
      have HX := Lib.hid hx
      have hc' : wr.cell? ⟨b, off + k, none⟩ = some (.slice A' xs.length c') := (HC.out.2.2.2.cell (cell_lt hc)).trans hc
      have HX2 := Lib.hid (hnum.below HC.out.2.2.2)
      have hk0 : (0 : Int) ≤ (k : Int) := by omega
      have hkn : (k : Int) < (n : Int) := by omega
      clear hx hnum hc
      go_wp2_with fail
      refine (toInt64S_any _ _ _ _ _ HX2.out (HR.out k xs HX.out)).mono ?_
      rintro e w1 ⟨rfl, o1, b1, z1⟩
      have ho1 := own_below HC.out.2.1 b1
      obtain ⟨u, hu⟩ : ∃ u, w1.cell? ⟨w.heap.size, k, none⟩ = some u := by
        rw [ho1.cellAt k (by omega)]
        exact ⟨_, List.getElem?_eq_getElem (by rw [ho1.1]; omega)⟩
      have hf : w1.frozen? ⟨w.heap.size, k, none⟩ = false := ho1.frozenAt k
      have HS := Lib.hid (copyAt_step HC.out HX.out o1 b1 z1)
      clear ho1 o1 b1 z1
      go_wp2_with fail
      go_roundw
      case rel => exact ⟨k + 1, by omega, by go_num, HS.out⟩
      case measure => simp [intOf]; omega
    · go_wp2
      go_ret
      obtain ⟨hz, ho, hr, hb⟩ := HC.out
      have hkn : k = n := by omega
      subst hkn
      rw [List.take_of_length_le (Nat.le_of_eq HL.out), HL.out, Nat.sub_self, List.replicate_zero, List.append_nil] at ho
      refine ⟨rfl, ⟨by rw [HL.out]; exact ho, fun r xs hx => hr r xs hx ?_⟩, hb, hz⟩
      rw [← HL.out]
      rcases Nat.lt_or_ge r xss.length with hlt | hge
      · exact hlt
      · rw [List.getElem?_eq_none hge] at hx; cases hx

set_option maxHeartbeats 1000000 in
theorem toAutomaton_any (s : Int) (A : Option Addr) (n cap : Nat) (xss : List (List Int)) (w : World) (h : RowsAt w A n xss) (hn : n ≤ 1048576) (hrows : ∀ (r : Nat) (xs : List Int), xss[r]? = some xs → xs.length ≤ 1048576) :
    Calls Try.prog 13 #[.agg #[.int .i64 s, .slice A n cap]] w fun e w' => e = .returned (.agg #[.int .i64 s, .slice (some ⟨w.heap.size + 3, 0, none⟩) n n]) ∧ Grid w' (w.heap.size + 3) xss ∧ Below w.heap.size w w' ∧ w'.heap.size = w.heap.size + 4 + n := by
  have HN := Lib.hid hn
  have HR := Lib.hid hrows
  clear hn hrows
  go_enter Try.func13, Try.ntmps13
  go_wp2_with fail
  obtain ⟨W1, hW1⟩ : ∃ W1, W1 = ((w.alloc (.cells #[.int .i64 s, .slice A n cap] 24)).alloc (.cells #[.int .i64 0, .slice none 0 0] 28)).alloc (.cells #[.int .i64 s, .slice none 0 0] 28) := ⟨_, rfl⟩
  have hsz : W1.heap.size = w.heap.size + 3 := by rw [hW1]; simp
  have hb : Below w.heap.size w W1 := by rw [hW1]; go_grown
  have g20 : W1.cell? ⟨w.heap.size + 2, 0, none⟩ = some (.int .i64 s) := by rw [hW1]; go_cell
  have g21 : W1.cell? ⟨w.heap.size + 2, 1, none⟩ = some (.slice none 0 0) := by rw [hW1]; go_cell
  have g10 : W1.cell? ⟨w.heap.size + 1, 0, none⟩ = some (.int .i64 0) := by rw [hW1]; go_cell
  have g11 : W1.cell? ⟨w.heap.size + 1, 1, none⟩ = some (.slice none 0 0) := by rw [hW1]; go_cell
  have f20 : W1.frozen? ⟨w.heap.size + 2, 0, none⟩ = false := by rw [hW1]; go_cell
  have f21 : W1.frozen? ⟨w.heap.size + 2, 1, none⟩ = false := by rw [hW1]; go_cell
  have f10 : W1.frozen? ⟨w.heap.size + 1, 0, none⟩ = false := by rw [hW1]; go_cell
  have f11 : W1.frozen? ⟨w.heap.size + 1, 1, none⟩ = false := by rw [hW1]; go_cell
  rw [← hW1]
  have HB := Lib.hid hb
  have HX := Lib.hid (h.below hb)
  clear hW1 hb
  refine (toInt64SS_any _ _ _ xss W1 HX.out HN.out HR.out).mono ?_
  rintro e w2 ⟨rfl, hg, hb2, hz2⟩
  rw [hsz] at hg hz2 hb2 ⊢
  have e20 : w2.cell? ⟨w.heap.size + 2, 0, none⟩ = some (.int .i64 s) := (hb2.cell (by simp)).trans g20
  have e21 : w2.cell? ⟨w.heap.size + 2, 1, none⟩ = some (.slice none 0 0) := (hb2.cell (by simp)).trans g21
  have e10 : w2.cell? ⟨w.heap.size + 1, 0, none⟩ = some (.int .i64 0) := (hb2.cell (by simp)).trans g10
  have e11 : w2.cell? ⟨w.heap.size + 1, 1, none⟩ = some (.slice none 0 0) := (hb2.cell (by simp)).trans g11
  have i20 : w2.frozen? ⟨w.heap.size + 2, 0, none⟩ = false := (hb2.frozen (by simp)).trans f20
  have i21 : w2.frozen? ⟨w.heap.size + 2, 1, none⟩ = false := (hb2.frozen (by simp)).trans f21
  have i10 : w2.frozen? ⟨w.heap.size + 1, 0, none⟩ = false := (hb2.frozen (by simp)).trans f10
  have i11 : w2.frozen? ⟨w.heap.size + 1, 1, none⟩ = false := (hb2.frozen (by simp)).trans f11
  have HG := Lib.hid hg
  have HZ := Lib.hid hz2
  have HB2 := Lib.hid (HB.out.trans (hb2.mono (by omega)))
  clear g20 g21 g10 g11 f20 f21 f10 f11 hg hz2 hb2 hsz
  go_wp2_with fail
  refine bodyPost_ret (v := .agg #[.int .i64 s, .slice (some ⟨w.heap.size + 3, 0, none⟩) n n]) (by simp [results, Try.results13, go_sem, e10, e11]) rfl ⟨rfl, ?_, ?_, ?_⟩
  · exact ((HG.out.setLow (by simp) _).setLow (by simp) _).setLow (by simp) _
  · exact ((HB2.out.setCell (by simp; omega) _).setCell (by simp) _).setCell (by simp) _
  · rw [World.size_setCell, World.size_setCell, World.size_setCell, HZ.out]

/-! ### eqInt64SS, eqAutomaton -/
def sameR (xss yss : List (List Int)) : Bool := decide (xss = yss)
theorem sameR_t {xss yss : List (List Int)} (h : xss = yss) : sameR xss yss = true := by simp [sameR, h]
theorem sameR_f {xss yss : List (List Int)} (h : ¬ xss = yss) : sameR xss yss = false := by simp [sameR, h]
theorem rows_snoc {xss yss : List (List Int)} {k : Nat} {x y : List Int} (h : xss.take k = yss.take k) (hx : xss[k]? = some x) (hy : yss[k]? = some y) (e : x = y) : xss.take (k + 1) = yss.take (k + 1) := by
  rw [List.take_add_one, List.take_add_one, h, hx, hy, e]
theorem rows_stop {xss yss : List (List Int)} {k : Nat} {x y : List Int} (hx : xss[k]? = some x) (hy : yss[k]? = some y) (hne : ¬ x = y) : ¬ xss = yss := by
  rintro rfl
  rw [hx] at hy
  exact hne (Option.some.inj hy)

set_option maxHeartbeats 1000000 in
theorem eqInt64SS_any (A A' : Option Addr) (n n' cap cap' : Nat) (xss yss : List (List Int)) (w : World) (h : RowsAt w A n xss) (h' : RowsAt w A' n' yss) (hn : n ≤ 4611686018427387904) (hn' : n' ≤ 4611686018427387904)
    (hrows : ∀ (r : Nat) (xs : List Int), xss[r]? = some xs → xs.length ≤ 4611686018427387904) (hrows' : ∀ (r : Nat) (xs : List Int), yss[r]? = some xs → xs.length ≤ 4611686018427387904) :
    Calls Try.prog 15 #[.slice A n cap, .slice A' n' cap'] w fun e w' => e = .returned (.bool (sameR xss yss)) ∧ ∃ m, w' = w.drewN m := by
  have HR := Lib.hid hrows
  have HR' := Lib.hid hrows'
  clear hrows hrows'
  by_cases hnn : n = n'
  · subst hnn
    go_enter Try.func15, Try.ntmps15
    go_wp2
    go_loopw [5] (fun i wr => ∃ k m : Nat, k ≤ n ∧ i = .int .i64 k ∧ wr = w.drewN m ∧ xss.take k = yss.take k) (fun i _ => n - (intOf i).toNat)
    case atStart => exact ⟨0, 0, Nat.zero_le _, rfl, rfl, by simp⟩
    case round =>
      obtain ⟨k, m, hk, rfl, hw, htake⟩ := hrel
      have HT := Lib.hid htake
      have HW := Lib.hid hw
      have h1 : RowsAt wr A n xss := by rw [hw]; exact h.drewN m
      have h2 : RowsAt wr A' n yss := by rw [hw]; exact h'.drewN m
      clear htake hw
      by_cases hlt : k < n
      · obtain ⟨xs, b, off, A1, c1, hx, rfl, hc, hnum⟩ := h1.at_ hlt
        obtain ⟨ys, b', off', A2, c2, hy, rfl, hc', hnum'⟩ := h2.at_ hlt
        have HX := Lib.hid hx
        have HY := Lib.hid hy
        have HN := Lib.hid hnum
        have HN' := Lib.hid hnum'
        have hk0 : (0 : Int) ≤ (k : Int) := by omega
        have hkn : (k : Int) < (n : Int) := by omega
        clear hx hy hnum hnum' h1 h2
        by_cases hxy : xs = ys
        · have hs : sameB xs ys = true := sameB_t hxy
          have HXY := Lib.hid hxy
          clear hxy
          go_wp2_with fail
          go_quiet ((go_at_call 22; exact Calls.quiet_of (eqInt64S_any _ _ _ _ _ _ _ _ _ (HN.out.drewN _) (HN'.out.drewN _) (HR.out _ _ HX.out) (HR'.out _ _ HY.out))))
          go_wp2_with fail
          go_roundw
          case rel => exact ⟨k + 1, _, by omega, by go_num, by rw [HW.out, World.drewN_drewN], rows_snoc HT.out HX.out HY.out HXY.out⟩
          case measure => simp [intOf]; omega
        · have hs : sameB xs ys = false := sameB_f hxy
          have HXY := Lib.hid hxy
          clear hxy
          go_wp2_with fail
          go_quiet ((go_at_call 22; exact Calls.quiet_of (eqInt64S_any _ _ _ _ _ _ _ _ _ (HN.out.drewN _) (HN'.out.drewN _) (HR.out _ _ HX.out) (HR'.out _ _ HY.out))))
          go_wp2_with fail
          go_ret
          exact ⟨ret_bool (sameR_f (rows_stop HX.out HY.out HXY.out)).symm, _, by rw [HW.out, World.drewN_drewN]⟩
      · go_wp2
        go_ret
        have hkn : k = n := by omega
        subst hkn
        have ht := HT.out
        rw [List.take_of_length_le (Nat.le_of_eq h.1), List.take_of_length_le (Nat.le_of_eq h'.1)] at ht
        exact ⟨ret_bool (sameR_t ht).symm, _, HW.out⟩
  · have hne : ((n : Int) != (n' : Int)) = true := by rw [bne_iff_ne]; omega
    go_enter Try.func15, Try.ntmps15
    go_wp2
    go_ret
    exact ⟨ret_bool (sameR_f (by rintro rfl; exact hnn (h.1.symm.trans h'.1))).symm, 0, rfl⟩

/-- Two automata, by what they read as. -/
def sameA (s s' : Int) (xss yss : List (List Int)) : Bool := decide (s = s' ∧ xss = yss)
theorem sameA_t {s s' : Int} {xss yss : List (List Int)} (h : s = s') (h' : xss = yss) : sameA s s' xss yss = true := by simp [sameA, h, h']
theorem sameA_of {s s' : Int} {xss yss : List (List Int)} (h : s = s') : sameA s s' xss yss = sameR xss yss := by simp [sameA, sameR, h]
theorem sameA_f {s s' : Int} {xss yss : List (List Int)} (h : ¬ s = s') : sameA s s' xss yss = false := by simp [sameA, h]

set_option maxHeartbeats 1000000 in
theorem eqAutomaton_any (s s' : Int) (A A' : Option Addr) (n n' cap cap' : Nat) (xss yss : List (List Int)) (w : World) (h : RowsAt w A n xss) (h' : RowsAt w A' n' yss) (hn : n ≤ 4611686018427387904) (hn' : n' ≤ 4611686018427387904)
    (hrows : ∀ (r : Nat) (xs : List Int), xss[r]? = some xs → xs.length ≤ 4611686018427387904) (hrows' : ∀ (r : Nat) (xs : List Int), yss[r]? = some xs → xs.length ≤ 4611686018427387904) :
    Calls Try.prog 16 #[.agg #[.int .i64 s, .slice A n cap], .agg #[.int .i64 s', .slice A' n' cap']] w fun e w' => e = .returned (.bool (sameA s s' xss yss)) ∧ Below w.heap.size w w' := by
  have HR := Lib.hid hrows
  have HR' := Lib.hid hrows'
  clear hrows hrows'
  by_cases hss : s = s'
  · subst hss
    rw [sameA_of rfl]
    go_enter Try.func16, Try.ntmps16
    go_wp2_with fail
    refine (eqInt64SS_any _ _ _ _ _ _ xss yss _ (h.below (by go_grown)) (h'.below (by go_grown)) hn hn' HR.out HR'.out).mono ?_
    rintro e w2 ⟨rfl, m, rfl⟩
    rcases hs : sameR xss yss with _ | _
    · go_wp2_with fail
      go_ret
      exact ⟨ret_bool hs.symm, below_drewN' (by go_grown) _⟩
    · go_wp2_with fail
      go_ret
      exact ⟨ret_bool hs.symm, below_drewN' (by go_grown) _⟩
  · have hne : (s != s') = true := by rw [bne_iff_ne]; exact hss
    have HE := Lib.hid hss
    clear hss
    go_enter Try.func16, Try.ntmps16
    go_wp2_with fail
    go_ret
    exact ⟨ret_bool (sameA_f HE.out).symm, by go_grown⟩

/-! ### An automaton that comes in -/
theorem cells_ints : Try.prog.cellsOf 35 = 1 := by kernel_rfl
theorem cells_auto : Try.prog.cellsOf 24 = 2 := by kernel_rfl

theorem addr_plain {w : World} {a : Addr} {v : Value} (h : w.cell? (a.add 0) = some v) : ∃ b off, a = ⟨b, off, none⟩ := by
  obtain ⟨b, off, spot⟩ := a
  have hspot : spot = none := by simpa [Addr.add] using World.cell?_spot h
  subst hspot
  exact ⟨b, off, rfl⟩

theorem rows_of_trod {H : Type} {enc : TypeId × Value → H} {W : World} {base fuel : Nat} {held : Bool} {cs : List Value} {x : DataW H × List MemPlace}
    (h : DataW.trod enc Try.prog W base (fun _ => true) held fuel 22 cs = some x) : ∃ A n c xss, cs = [.slice A n c] ∧ RowsAt W A n xss ∧ n ≤ 9223372036854775807 ∧ (∀ (r : Nat) (xs : List Int), xss[r]? = some xs → xs.length ≤ 9223372036854775807) := by
  rcases open_int_rows Try.underlying22 Try.underlying35 Try.underlying2 cells_ints cells_int64 h with ⟨rfl, _⟩ | ⟨a, len, cap, A, L, C, Z, rfl, _, hl, hm, _, hr⟩
  · exact ⟨none, 0, 0, [], rfl, RowsAt.nil _ _, by omega, fun r xs hx => by simp at hx⟩
  · have hm' : cap ≤ 9223372036854775807 := hm
    refine ⟨some a, len, cap, (List.range len).map fun r => (Z r).take (L r), rfl, ⟨by simp, fun r xs hx => ?_⟩, by omega, fun r xs hx => ?_⟩
    · simp only [List.getElem?_map, Option.map_eq_some_iff] at hx
      obtain ⟨r', hr', rfl⟩ := hx
      have hrl : r < len ∧ r' = r := by
        rcases Nat.lt_or_ge r len with hlt | hge
        · rw [List.getElem?_range hlt] at hr'
          exact ⟨hlt, (Option.some.inj hr').symm⟩
        · rw [List.getElem?_eq_none (by simpa using hge)] at hr'; cases hr'
      obtain ⟨hlt, rfl⟩ := hrl
      obtain ⟨hc, hLC, hC, hZ, _, hnone, hsome⟩ := hr r' (by omega)
      obtain ⟨hc0, _⟩ := hr 0 (by omega)
      obtain ⟨b, off, rfl⟩ := addr_plain hc0
      have hlen : ((Z r').take (L r')).length = L r' := by rw [List.length_take, hZ]; omega
      refine ⟨b, off, A r', C r', rfl, ?_, ?_⟩
      · rw [hlen, ← hc, Addr.add_lit]
      · rw [hlen]
        rcases hA : A r' with _ | a'
        · have h0 : L r' = 0 := by have := hnone hA; omega
          rw [h0]
          simpa using NumsAt.nil W none
        · exact nums_of_ints (by omega) (fun i hi => (hsome a' hA).2 i (by omega))
    · simp only [List.getElem?_map, Option.map_eq_some_iff] at hx
      obtain ⟨r', hr', rfl⟩ := hx
      have hrl : r' < len := by
        rcases Nat.lt_or_ge r len with hlt | hge
        · rw [List.getElem?_range hlt] at hr'
          have := Option.some.inj hr'
          omega
        · rw [List.getElem?_eq_none (by simpa using hge)] at hr'; cases hr'
      obtain ⟨_, hLC, hC, _⟩ := hr r' (by omega)
      have hC' : C r' ≤ 9223372036854775807 := hC
      simp only [List.length_take]
      omega

end Go.Proofs.Ytcglncepmieaaaa
