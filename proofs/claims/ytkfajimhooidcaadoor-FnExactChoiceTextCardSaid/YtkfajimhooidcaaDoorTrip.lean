/-
  Lists of lists of lists of numbers, and automata with choices as the laws hold them: what they read as, what a call of its own holds, and the contracts of what the laws do with them.
-/
import Derived.Test.YtkfajimhooidcaaDoorTab
namespace Go.Proofs.YtkfajimhooidcaaDoor
open Go.RowKit Go.Deep Go.ChangeShapes Go.WideShapes

/-- The slice with the address A and the length n reads as the lists of lists xsss in the world w. -/
def TabsAt (w : World) (A : Option Addr) (n : Nat) (xsss : List (List (List Int))) : Prop :=
  xsss.length = n ∧ ∀ r xss, xsss[r]? = some xss → ∃ b off A' c', A = some ⟨b, off, none⟩ ∧ w.cell? ⟨b, off + r, none⟩ = some (.slice A' xss.length c') ∧ RowsAt w A' xss.length xss
theorem TabsAt.nil (w : World) (A : Option Addr) : TabsAt w A 0 [] := ⟨rfl, fun k x h => by simp at h⟩
theorem TabsAt.at_ {w : World} {A : Option Addr} {n : Nat} {xsss : List (List (List Int))} (h : TabsAt w A n xsss) {r : Nat} (hr : r < n) :
    ∃ xss b off A' c', xsss[r]? = some xss ∧ A = some ⟨b, off, none⟩ ∧ w.cell? ⟨b, off + r, none⟩ = some (.slice A' xss.length c') ∧ RowsAt w A' xss.length xss := by
  have hl : r < xsss.length := by rw [h.1]; exact hr
  obtain ⟨b, off, A', c', e, hc, hx⟩ := h.2 r xsss[r] (List.getElem?_eq_getElem hl)
  exact ⟨_, b, off, A', c', List.getElem?_eq_getElem hl, e, hc, hx⟩
theorem TabsAt.below {w w' : World} {A : Option Addr} {n : Nat} {xsss : List (List (List Int))} (h : TabsAt w A n xsss) (hb : Below w.heap.size w w') : TabsAt w' A n xsss :=
  ⟨h.1, fun r xs hx => by
    obtain ⟨b, off, A', c', e, hc, hn⟩ := h.2 r xs hx
    exact ⟨b, off, A', c', e, (hb.cell (cell_lt hc)).trans hc, hn.below hb⟩⟩
theorem TabsAt.drewN {w : World} {A : Option Addr} {n : Nat} {xsss : List (List (List Int))} (h : TabsAt w A n xsss) (k : Nat) : TabsAt (w.drewN k) A n xsss := h

/-- How many numbers there are; and how many numbers and lists. -/
def sizeT (xsss : List (List (List Int))) : Nat := (xsss.map sumLens).sum
def cntT (xsss : List (List (List Int))) : Nat := (xsss.map fun xss => xss.length + sumLens xss).sum
def Wide3 (B : Nat) (xsss : List (List (List Int))) : Prop := ∀ (r : Nat) (xss : List (List Int)), xsss[r]? = some xss → xss.length ≤ B ∧ ∀ (k : Nat) (xs : List Int), xss[k]? = some xs → xs.length ≤ B
theorem sizeT_snoc {xsss : List (List (List Int))} {k : Nat} {xss : List (List Int)} (hx : xsss[k]? = some xss) : sizeT (xsss.take (k + 1)) = sizeT (xsss.take k) + sumLens xss := by
  rw [take_snoc hx]; simp [sizeT]
theorem cntT_snoc {xsss : List (List (List Int))} {k : Nat} {xss : List (List Int)} (hx : xsss[k]? = some xss) : cntT (xsss.take (k + 1)) = cntT (xsss.take k) + (xss.length + sumLens xss) := by
  rw [take_snoc hx]; simp [cntT]
theorem sizeT_take (xsss : List (List (List Int))) (k : Nat) : sizeT (xsss.take k) ≤ sizeT xsss := by
  have h : sizeT xsss = sizeT (xsss.take k) + sizeT (xsss.drop k) := by
    unfold sizeT
    rw [← List.sum_append, ← List.map_append, List.take_append_drop]
  omega
theorem cntT_take (xsss : List (List (List Int))) (k : Nat) : cntT (xsss.take k) ≤ cntT xsss := by
  have h : cntT xsss = cntT (xsss.take k) + cntT (xsss.drop k) := by
    unfold cntT
    rw [← List.sum_append, ← List.map_append, List.take_append_drop]
  omega
theorem size_le_cnt : ∀ (xsss : List (List (List Int))), sizeT xsss ≤ cntT xsss
  | [] => Nat.le_refl _
  | xss :: t => by
    have := size_le_cnt t
    unfold sizeT cntT at this ⊢
    simp only [List.map_cons, List.sum_cons]
    omega
theorem len_le_cnt {xsss : List (List (List Int))} {k : Nat} {xss : List (List Int)} (hx : xsss[k]? = some xss) : xss.length + sumLens xss ≤ cntT xsss := by
  have h1 := cntT_snoc hx
  have h2 := cntT_take xsss (k + 1)
  omega

/-- What szInt64SSS answers. -/
def SizedTo3 (xsss : List (List (List Int))) (left r : Int) : Prop := r = -1 ∨ (0 ≤ r ∧ r + ((xsss.length + cntT xsss : Nat) : Int) = left)

set_option maxHeartbeats 1000000 in
theorem szInt64SSS_any (A : Option Addr) (n cap : Nat) (xsss : List (List (List Int))) (left : Int) (w : World) (h : TabsAt w A n xsss) (hn : n ≤ 9223372036854775807) (hrows : Wide3 9223372036854775807 xsss) (h0 : 0 ≤ left) (h1 : left ≤ 4611686018427387904) :
    Calls Tryd.prog 30 #[.slice A n cap, .int .i64 left] w fun e w' => ∃ r : Int, e = .returned (.int .i64 r) ∧ SizedTo3 xsss left r ∧ w = w' := by
  have HR := Lib.hid hrows
  have HL := Lib.hid h.1
  clear hrows
  by_cases hbig : left - (n : Int) < 0
  · go_enter Tryd.func30, Tryd.ntmps30
    go_wp2
    go_ret
    exact ⟨-1, rfl, .inl rfl, rfl⟩
  · go_enter Tryd.func30, Tryd.ntmps30
    go_wp2
    go_loop [1, 5] (fun lv i => ∃ (k : Nat) (q : Int), k ≤ n ∧ i = .int .i64 k ∧ lv = .int .i64 q ∧ 0 ≤ q ∧ q ≤ left ∧ q + ((n + cntT (xsss.take k) : Nat) : Int) = left) (fun _ i => n - (intOf i).toNat)
    case atStart => exact ⟨0, left - (n : Int), Nat.zero_le _, rfl, rfl, by omega, by omega, by simp [cntT]⟩
    case round =>
      obtain ⟨k, q, hk, rfl, rfl, hq0, hql, hsum⟩ := hrel
      have HS := Lib.hid hsum
      clear hsum
      by_cases hlt : k < n
      · obtain ⟨xss, b, off, A', c', hx, rfl, hc, hrow⟩ := h.at_ hlt
        have HX := Lib.hid hx
        have HW := Lib.hid (HR.out k xss hx)
        have HRW := Lib.hid hrow
        have hk0 : (0 : Int) ≤ (k : Int) := by omega
        have hkn : (k : Int) < (n : Int) := by omega
        clear hx hrow
        go_wp2_with fail
        refine (szInt64SS_any _ _ _ xss _ _ HRW.out HW.out.1 HW.out.2 hq0 (by omega)).mono ?_
        rintro e w' ⟨r, rfl, hr, rfl⟩
        have HSZ := Lib.hid hr
        by_cases hneg : r < 0
        · clear hr
          go_wp2_with fail
          go_ret
          exact ⟨-1, rfl, .inl rfl, rfl⟩
        · have hle : r ≤ q := by rcases hr with h | ⟨_, h⟩ <;> omega
          clear hr
          go_wp2_with fail
          go_round
          case rel => exact ⟨k + 1, r, by omega, by go_num, rfl, by omega, by omega, by rw [cntT_snoc HX.out]; have h1 := HS.out; rcases HSZ.out with h | ⟨_, h⟩ <;> omega⟩
          case measure => simp [intOf]; omega
      · go_wp2
        go_ret
        refine ⟨q, rfl, .inr ⟨hq0, ?_⟩, rfl⟩
        have := HS.out
        rw [show k = n from by omega, List.take_of_length_le (Nat.le_of_eq HL.out)] at this
        rw [HL.out]
        exact this

theorem szChoice_any (s : Int) (A : Option Addr) (n cap : Nat) (xsss : List (List (List Int))) (left : Int) (w : World) (h : TabsAt w A n xsss) (hn : n ≤ 9223372036854775807) (hrows : Wide3 9223372036854775807 xsss) (h0 : 0 ≤ left) (h1 : left ≤ 4611686018427387904) :
    Calls Tryd.prog 15 #[.agg #[.int .i64 s, .slice A n cap], .int .i64 left] w fun e w' => ∃ r : Int, e = .returned (.int .i64 r) ∧ SizedTo3 xsss left r ∧ Below w.heap.size w w' := by
  have HR := Lib.hid hrows
  clear hrows
  go_enter Tryd.func15, Tryd.ntmps15
  go_wp2_with fail
  refine (szInt64SSS_any _ _ _ xsss _ _ (h.below ((Below.refl _ _).alloc (Nat.le_refl _) _)) hn HR.out h0 h1).mono ?_
  rintro e w' ⟨r, rfl, hr, rfl⟩
  have HR2 := Lib.hid hr
  by_cases hneg : r < 0
  · have hr1 : r = -1 := by rcases hr with h | h <;> omega
    subst hr1
    clear hr
    go_wp2_with fail
    go_ret
    exact ⟨-1, rfl, HR2.out, (Below.refl _ _).alloc (Nat.le_refl _) _⟩
  · clear hr
    go_wp2_with fail
    go_ret
    exact ⟨r, rfl, HR2.out, (Below.refl _ _).alloc (Nat.le_refl _) _⟩

theorem sized3_n {xsss : List (List (List Int))} {r : Int} {n : Nat} (h : SizedTo3 xsss 1048576 r) (hr : ¬ r < 0) (hn : xsss.length = n) : n ≤ 1048576 := by
  rcases h with h | ⟨_, h⟩ <;> omega
theorem sized3_n' {xsss : List (List (List Int))} {left r : Int} {n : Nat} (h : SizedTo3 xsss left r) (hl : left ≤ 1048576) (hr : ¬ r < 0) (hn : xsss.length = n) : n ≤ 1048576 := by
  rcases h with h | ⟨_, h⟩ <;> omega
theorem sized3_rows' {xsss : List (List (List Int))} {left r : Int} (h : SizedTo3 xsss left r) (hl : left ≤ 1048576) (hr : ¬ r < 0) : Wide3 1048576 xsss := by
  intro k xss hx
  have h1 := len_le_cnt hx
  have h2 : cntT xsss ≤ 1048576 := by rcases h with h | ⟨_, h⟩ <;> omega
  exact ⟨by omega, fun q xs hq => by have := len_le_sum hq; omega⟩
theorem sized3_rows {xsss : List (List (List Int))} {r : Int} (h : SizedTo3 xsss 1048576 r) (hr : ¬ r < 0) : Wide3 1048576 xsss := sized3_rows' h (Int.le_refl _) hr
theorem sized3_left {xsss : List (List (List Int))} {left r : Int} (h : SizedTo3 xsss left r) (hr : ¬ r < 0) : 0 ≤ r ∧ r ≤ left := by
  rcases h with h | ⟨_, h⟩ <;> omega
theorem sized3_sum {xsss : List (List (List Int))} {left r : Int} (h : SizedTo3 xsss left r) (hl : left ≤ 1048576) (hr : ¬ r < 0) : sizeT xsss ≤ 1048576 := by
  have := size_le_cnt xsss
  rcases h with h | ⟨_, h⟩ <;> omega
theorem sized3_sum' {xsss : List (List (List Int))} {left r : Int} (h : SizedTo3 xsss left r) (hl : left ≤ 1048576) (hr : ¬ r < 0) : sizeT xsss ≤ 1048576 := sized3_sum h hl hr
theorem rows_wide3 {xsss : List (List (List Int))} (h : Wide3 1048576 xsss) : Wide3 4611686018427387904 xsss :=
  fun k xss hx => ⟨by have := (h k xss hx).1; omega, fun q xs hq => by have := (h k xss hx).2 q xs hq; omega⟩

/-! ### A call's own lists of lists of lists -/
/-- In the blocks from lo on, below hi: the values vs stand in the outer list, the r-th in the blocks from bs r up to bs (r + 1). -/
structure Tab3V (lo hi : Nat) (w : World) (v : Value) (vs : List Value) (bs : Nat → Nat) (xsss : List (List (List Int))) : Prop where
  len : vs.length = xsss.length
  out : w.ownsRow lo 76 1 v xsss.length vs
  top : ∀ g, v.ownBlock = some g → g < bs 0
  low : lo ≤ bs 0
  up : ∀ r, r < xsss.length → bs r ≤ bs (r + 1)
  last : bs xsss.length ≤ hi
  row : ∀ (r : Nat) (u : Value) (xss : List (List Int)), vs[r]? = some u → xsss[r]? = some xss → TabIn (bs r) (bs (r + 1)) w u xss
def Tab3In (lo hi : Nat) (w : World) (v : Value) (xsss : List (List (List Int))) : Prop := ∃ vs bs, Tab3V lo hi w v vs bs xsss

theorem rise_le {bs : Nat → Nat} {n : Nat} (h : ∀ r, r < n → bs r ≤ bs (r + 1)) : ∀ {b a : Nat}, a ≤ b → b ≤ n → bs a ≤ bs b
  | 0, a, h1, _ => by obtain rfl : a = 0 := by omega
                      exact Nat.le_refl _
  | b + 1, a, h1, h2 => by
    rcases Nat.lt_or_ge a (b + 1) with h3 | h3
    · exact Nat.le_trans (rise_le h (b := b) (by omega) (by omega)) (h b (by omega))
    · obtain rfl : a = b + 1 := by omega
      exact Nat.le_refl _
theorem lt_of_at3 {α : Type} {xs : List α} {k : Nat} {x : α} (h : xs[k]? = some x) : k < xs.length := by
  rcases Nat.lt_or_ge k xs.length with a | a
  · exact a
  · rw [List.getElem?_eq_none a] at h; cases h
theorem Tab3V.below {lo hi : Nat} {w w' : World} {v : Value} {vs : List Value} {bs : Nat → Nat} {xsss : List (List (List Int))} (h : Tab3V lo hi w v vs bs xsss) (hb : Below w.heap.size w w') : Tab3V lo hi w' v vs bs xsss :=
  ⟨h.len, own_below h.out hb, h.top, h.low, h.up, h.last, fun r u xs hu hx => (h.row r u xs hu hx).below hb⟩
theorem Tab3V.only {lo hi lo' hi' : Nat} {w w' : World} {v : Value} {vs : List Value} {bs : Nat → Nat} {xsss : List (List (List Int))} (h : Tab3V lo hi w v vs bs xsss) (ho : Only lo' hi' w w') (hd : hi ≤ lo' ∨ hi' ≤ lo) : Tab3V lo hi w' v vs bs xsss := by
  have h0 : bs 0 ≤ hi := Nat.le_trans (rise_le h.up (Nat.zero_le _) (Nat.le_refl _)) h.last
  refine ⟨h.len, ho.own h.out (fun g hg => by have := h.top g hg; have := (h.out.lt g hg).1; omega), h.top, h.low, h.up, h.last, fun r u xs hu hx => (h.row r u xs hu hx).only ho ?_⟩
  have hr := lt_of_at3 hx
  have h1 := rise_le h.up (Nat.zero_le r) (by omega)
  have h2 := rise_le h.up (show r + 1 ≤ xsss.length by omega) (Nat.le_refl _)
  have h3 := h.low
  have h4 := h.last
  omega
theorem Tab3V.wide {lo hi lo' hi' : Nat} {w : World} {v : Value} {vs : List Value} {bs : Nat → Nat} {xsss : List (List (List Int))} (h : Tab3V lo hi w v vs bs xsss) (h1 : lo' ≤ lo) (h2 : hi ≤ hi') : Tab3V lo' hi' w v vs bs xsss :=
  ⟨h.len, own_base h.out h1, h.top, Nat.le_trans h1 h.low, h.up, Nat.le_trans h.last h2, h.row⟩
theorem Tab3In.below {lo hi : Nat} {w w' : World} {v : Value} {xsss : List (List (List Int))} (h : Tab3In lo hi w v xsss) (hb : Below w.heap.size w w') : Tab3In lo hi w' v xsss := by
  obtain ⟨vs, bs, h⟩ := h; exact ⟨vs, bs, h.below hb⟩
theorem Tab3In.only {lo hi lo' hi' : Nat} {w w' : World} {v : Value} {xsss : List (List (List Int))} (h : Tab3In lo hi w v xsss) (ho : Only lo' hi' w w') (hd : hi ≤ lo' ∨ hi' ≤ lo) : Tab3In lo hi w' v xsss := by
  obtain ⟨vs, bs, h⟩ := h; exact ⟨vs, bs, h.only ho hd⟩
theorem Tab3In.wide {lo hi lo' hi' : Nat} {w : World} {v : Value} {xsss : List (List (List Int))} (h : Tab3In lo hi w v xsss) (h1 : lo' ≤ lo) (h2 : hi ≤ hi') : Tab3In lo' hi' w v xsss := by
  obtain ⟨vs, bs, h⟩ := h; exact ⟨vs, bs, h.wide h1 h2⟩
theorem Tab3In.form {lo hi : Nat} {w : World} {v : Value} {xsss : List (List (List Int))} (h : Tab3In lo hi w v xsss) : ∃ A c, v = .slice A xsss.length c := by
  obtain ⟨vs, bs, h⟩ := h; exact own_form h.out
theorem Tab3V.cell {lo hi : Nat} {w : World} {A : Option Addr} {n c r : Nat} {vs : List Value} {bs : Nat → Nat} {xsss : List (List (List Int))} (h : Tab3V lo hi w (.slice A n c) vs bs xsss) (hr : r < xsss.length) :
    ∃ g u, A = some ⟨g, 0, none⟩ ∧ vs[r]? = some u ∧ w.cell? ⟨g, r, none⟩ = some u := by
  have hl := h.len
  obtain ⟨u, hu⟩ : ∃ u, vs[r]? = some u := ⟨vs[r]'(by omega), List.getElem?_eq_getElem (by omega)⟩
  have ho := h.out
  rcases ho.2 with ⟨hv, h0⟩ | ⟨g, cap, cur, hv, hg, hh, hn, hcap, hsz, htake⟩
  · omega
  · simp only [Value.slice.injEq] at hv
    obtain ⟨rfl, rfl, rfl⟩ := hv
    exact ⟨g, u, rfl, hu, by rw [ho.cellAt r (by omega), hu]⟩
theorem Tab3In.rows {lo hi : Nat} {w : World} {A : Option Addr} {n c : Nat} {xsss : List (List (List Int))} (h : Tab3In lo hi w (.slice A n c) xsss) (hn : xsss.length = n) : TabsAt w A n xsss := by
  subst hn
  obtain ⟨vs, bs, h⟩ := h
  refine ⟨rfl, fun r xss hx => ?_⟩
  obtain ⟨g, u, rfl, hu, hc⟩ := h.cell (lt_of_at3 hx)
  have hi := h.row r u xss hu hx
  obtain ⟨A', c', rfl⟩ := hi.form
  exact ⟨g, 0, A', c', rfl, by rw [Nat.zero_add]; exact hc, hi.rows rfl⟩
theorem Tab3In.setLow {lo hi b o : Nat} {w : World} {v u : Value} {xsss : List (List (List Int))} (h : Tab3In lo hi w v xsss) (hb : b < lo) : Tab3In lo hi (w.setCell ⟨b, o, none⟩ u) v xsss := h.only (only_setCell w b o u) (.inr hb)
def Grid3 (w : World) (g : Nat) (xsss : List (List (List Int))) : Prop := Tab3In g w.heap.size w (.slice (some ⟨g, 0, none⟩) xsss.length xsss.length) xsss
theorem tab_of_grid3 {w : World} {g : Nat} {xsss : List (List (List Int))} (h : Grid3 w g xsss) : Tab3In g w.heap.size w (.slice (some ⟨g, 0, none⟩) xsss.length xsss.length) xsss := h
theorem Grid3.rowsN {w : World} {g n : Nat} {xsss : List (List (List Int))} (h : Grid3 w g xsss) (hl : xsss.length = n) : TabsAt w (some ⟨g, 0, none⟩) n xsss := by subst hl; exact Tab3In.rows h rfl
theorem tab3_nil (lo hi : Nat) (w : World) (h : lo ≤ hi) : Tab3In lo hi w (.slice none 0 0) [] :=
  ⟨[], fun _ => lo, rfl, World.ownsRow_nil _ _ _ _, fun g hg => by simp [Value.ownBlock] at hg, Nat.le_refl _, fun r hr => by simp at hr, h, fun r u xs hu => by simp at hu⟩

/-! ### toInt64SSS, toChoice: a copy in new blocks -/
def CopyAt3 (w : World) (n k : Nat) (xsss : List (List (List Int))) (wr : World) : Prop :=
  ∃ (vs : List Value) (bs : Nat → Nat), vs.length = k ∧ wr.ownsRow w.heap.size 76 1 (.slice (some ⟨w.heap.size, 0, none⟩) n n) n (vs ++ List.replicate (n - k) (Value.slice none 0 0)) ∧ bs 0 = w.heap.size + 1 ∧ (∀ r, r < k → bs r ≤ bs (r + 1)) ∧ bs k = wr.heap.size ∧
    (∀ (r : Nat) (u : Value) (xss : List (List Int)), vs[r]? = some u → xsss[r]? = some xss → TabIn (bs r) (bs (r + 1)) wr u xss) ∧ Below w.heap.size w wr
theorem CopyAt3.bel {w wr : World} {n k : Nat} {xsss : List (List (List Int))} (h : CopyAt3 w n k xsss wr) : Below w.heap.size w wr := by
  obtain ⟨_, _, _, _, _, _, _, _, hb⟩ := h; exact hb
theorem copyAt3_step {w wr w1 : World} {n k : Nat} {xsss : List (List (List Int))} {xss : List (List Int)} (h : CopyAt3 w n k xsss wr) (hk : k < n) (hx : xsss[k]? = some xss) (hg : Grid w1 wr.heap.size xss) (b1 : Below wr.heap.size wr w1) (z1 : w1.heap.size = wr.heap.size + 1 + xss.length) :
    CopyAt3 w n (k + 1) xsss (w1.setCell ⟨w.heap.size, k, none⟩ (.slice (some ⟨wr.heap.size, 0, none⟩) xss.length xss.length)) := by
  obtain ⟨vs, bs, hl, ho, h0, hup, hlast, hrow, hb⟩ := h
  obtain ⟨V, hV⟩ : ∃ V, V = Value.slice (some ⟨wr.heap.size, 0, none⟩) xss.length xss.length := ⟨_, rfl⟩
  have ho1 := own_below ho b1
  have hst := ho1.stored k V
  have hon := only_setCell w1 w.heap.size k V
  have hge : ∀ r, r ≤ k → w.heap.size + 1 ≤ bs r := fun r hr => by rw [← h0]; exact rise_le hup (Nat.zero_le r) hr
  rw [← hV]
  refine ⟨vs ++ [V], fun r => if r ≤ k then bs r else w1.heap.size, by simp [hl], ?_, by simp [h0], fun r hr => ?_, by rw [World.size_setCell]; exact if_neg (by omega), fun r u ys hu hy => ?_, (hb.trans (b1.mono hb.size)).setCell (Nat.le_refl _) _⟩
  · have e : (vs ++ List.replicate (n - k) (Value.slice none 0 0)).set k V = (vs ++ [V]) ++ List.replicate (n - (k + 1)) (Value.slice none 0 0) := by
      rw [show n - k = (n - (k + 1)) + 1 from by omega, List.replicate_succ, List.set_append_right _ _ (by omega), hl, Nat.sub_self, List.set_cons_zero]
      simp
    rw [← e]
    exact hst.1
  · show (if r ≤ k then bs r else w1.heap.size) ≤ (if r + 1 ≤ k then bs (r + 1) else w1.heap.size)
    rw [if_pos (by omega)]
    by_cases h1 : r + 1 ≤ k
    · rw [if_pos h1]; exact hup r (by omega)
    · obtain rfl : r = k := by omega
      rw [if_neg h1, hlast]; omega
  · show TabIn (if r ≤ k then bs r else w1.heap.size) (if r + 1 ≤ k then bs (r + 1) else w1.heap.size) _ u ys
    have hr := lt_of_at3 hu
    rw [List.length_append, hl, List.length_singleton] at hr
    rw [if_pos (by omega)]
    by_cases h1 : r < k
    · rw [if_pos (by omega)]
      rw [List.getElem?_append_left (by omega)] at hu
      exact ((hrow r u ys hu hy).below b1).only hon (.inr (hge r (by omega)))
    · obtain rfl : r = k := by omega
      rw [if_neg (by omega)]
      rw [List.getElem?_append_right (by omega), hl, Nat.sub_self] at hu
      obtain rfl : V = u := by simpa using hu
      obtain rfl : xss = ys := by rw [hx] at hy; exact Option.some.inj hy
      rw [hV]
      have ht := (tab_of_grid hg).wide (lo' := bs r) (hi' := w1.heap.size) (by omega) (by omega)
      rw [hV] at hon
      exact ht.only hon (.inr (hge r (Nat.le_refl _)))

theorem info_tabs : (Tryd.prog.info? 76).map (fun i => (i.zero, i.size, i.bytes)) = some (some (.slice none 0 0), 1, 24) := by kernel_rfl

set_option maxHeartbeats 1000000 in
theorem toInt64SSS_any (A : Option Addr) (n cap : Nat) (xsss : List (List (List Int))) (w : World) (h : TabsAt w A n xsss) (hn : n ≤ 1048576) (hrows : Wide3 1048576 xsss) :
    Calls Tryd.prog 33 #[.slice A n cap] w fun e w' => e = .returned (.slice (some ⟨w.heap.size, 0, none⟩) n n) ∧ Grid3 w' w.heap.size xsss ∧ Below w.heap.size w w' ∧ w.heap.size < w'.heap.size := by
  have HL := Lib.hid h.1
  have HN := Lib.hid hn
  have HR := Lib.hid hrows
  have hmk := run_make_row' (P := Tryd.prog) 33 76 (.slice none 0 0) 24 Tryd.underlying33 info_tabs rfl .i64 .i64 n (by omega) (by omega)
  have hn' : n ≤ 4611686018427387904 := by omega
  clear hn hrows
  go_enter Tryd.func33, Tryd.ntmps33
  go_wp2
  clear hmk
  go_loopw [4] (fun i wr => ∃ k : Nat, k ≤ n ∧ i = .int .i64 k ∧ CopyAt3 w n k xsss wr) (fun i _ => n - (intOf i).toNat)
  case atStart =>
    refine ⟨0, Nat.zero_le _, rfl, [], fun _ => w.heap.size + 1, rfl, ?_, rfl, fun r hr => absurd hr (Nat.not_lt_zero _), by simp, fun r u xs hu => by simp at hu, (Below.refl _ _).alloc (Nat.le_refl _) _⟩
    have hs : (madeCells #[Value.slice none 0 0] n).toList = [] ++ List.replicate (n - 0) (Value.slice none 0 0) := by rw [toList_madeCells_one]; simp
    rw [← hs]
    exact World.ownsRow_lit w _ n (Nat.le_refl _) (by have := HN.out; unfold maxLen; omega) (by rw [size_madeCells, Nat.mul_one])
  case round =>
    obtain ⟨k, hk, rfl, hcopy⟩ := hrel
    have HC := Lib.hid hcopy
    clear hcopy
    by_cases hlt : k < n
    · obtain ⟨xss, b, off, A', c', hx, rfl, hc, hrow⟩ := h.at_ hlt
      have HX := Lib.hid hx
      have hc' : wr.cell? ⟨b, off + k, none⟩ = some (.slice A' xss.length c') := (HC.out.bel.cell (cell_lt hc)).trans hc
      have HX2 := Lib.hid (hrow.below HC.out.bel)
      have hk0 : (0 : Int) ≤ (k : Int) := by omega
      have hkn : (k : Int) < (n : Int) := by omega
      have HLT := Lib.hid hlt
      clear hx hrow hc
      go_wp2_with fail
      refine (toInt64SS_any _ _ _ _ _ HX2.out (HR.out k xss HX.out).1 (HR.out k xss HX.out).2).mono ?_
      rintro e w1 ⟨rfl, g1, b1, z1⟩
      obtain ⟨u, hu⟩ : ∃ u, w1.cell? ⟨w.heap.size, k, none⟩ = some u := by
        obtain ⟨vs, bs, hl, ho, _⟩ := HC.out
        have ho1 := own_below ho b1
        rw [ho1.cellAt k (by omega)]
        exact ⟨_, List.getElem?_eq_getElem (by rw [ho1.1]; omega)⟩
      have hf : w1.frozen? ⟨w.heap.size, k, none⟩ = false := by
        obtain ⟨vs, bs, hl, ho, _⟩ := HC.out
        exact (own_below ho b1).frozenAt k
      have HS := Lib.hid (copyAt3_step HC.out HLT.out HX.out g1 b1 z1)
      clear g1 b1 z1
      go_wp2_with fail
      go_roundw
      case rel => exact ⟨k + 1, by omega, by go_num, HS.out⟩
      case measure => simp [intOf]; omega
    · go_wp2
      go_ret
      obtain ⟨vs, bs, hl, ho, h0, hup, hlast, hrow, hb⟩ := HC.out
      have hkn : k = n := by omega
      subst hkn
      rw [Nat.sub_self, List.replicate_zero, List.append_nil] at ho
      refine ⟨rfl, ⟨vs, bs, by rw [hl, HL.out], by rw [HL.out]; exact ho, fun g hg => ?_, by omega, by rw [HL.out]; exact hup, by rw [HL.out, hlast]; exact Nat.le_refl _, hrow⟩, hb, ?_⟩
      · simp [Value.ownBlock] at hg; omega
      · have := rise_le hup (Nat.zero_le k) (Nat.le_refl _)
        omega

set_option maxHeartbeats 1000000 in
theorem toChoice_any (s : Int) (A : Option Addr) (n cap : Nat) (xss : List (List (List Int))) (w : World) (h : TabsAt w A n xss) (hn : n ≤ 1048576) (hrows : Wide3 1048576 xss) :
    Calls Tryd.prog 17 #[.agg #[.int .i64 s, .slice A n cap]] w fun e w' => e = .returned (.agg #[.int .i64 s, .slice (some ⟨w.heap.size + 3, 0, none⟩) n n]) ∧ Grid3 w' (w.heap.size + 3) xss ∧ Below w.heap.size w w' ∧ w.heap.size + 3 < w'.heap.size := by
  have HN := Lib.hid hn
  have HR := Lib.hid hrows
  clear hn hrows
  go_enter Tryd.func17, Tryd.ntmps17
  go_wp2_with fail
  obtain ⟨W1, hW1⟩ : ∃ W1, W1 = ((w.alloc (.cells #[.int .i64 s, .slice A n cap] 35)).alloc (.cells #[.int .i64 0, .slice none 0 0] 38)).alloc (.cells #[.int .i64 s, .slice none 0 0] 38) := ⟨_, rfl⟩
  have hsz : W1.heap.size = w.heap.size + 3 := by rw [hW1]; simp
  have hb : Below w.heap.size w W1 := by rw [hW1]; go_grown
  have g20 : W1.cell? ⟨w.heap.size + 2, 0, none⟩ = some (.int .i64 s) := by rw [hW1]; go_cell
  have g21 : W1.cell? ⟨w.heap.size + 2, 1, none⟩ = some (.slice none 0 0) := by rw [hW1]; go_cell
  have g10 : W1.cell? ⟨w.heap.size + 1, 0, none⟩ = some (.int .i64 0) := by rw [hW1]; go_cell
  have g11 : W1.cell? ⟨w.heap.size + 1, 1, none⟩ = some (.slice none 0 0) := by rw [hW1]; go_cell
  have f20 : W1.frozen? ⟨w.heap.size + 2, 0, none⟩ = false := by rw [hW1]; go_cell
  have f21 : W1.frozen? ⟨w.heap.size + 2, 1, none⟩ = false := by rw [hW1]; go_cell
  have f10 : W1.frozen? ⟨w.heap.size + 1, 0, none⟩ = false := by rw [hW1]; go_cell
  have f11 : W1.frozen? ⟨w.heap.size + 1, 1, none⟩ = false := by rw [hW1]; go_cell
  rw [← hW1]
  have HB := Lib.hid hb
  have HX := Lib.hid (h.below hb)
  clear hW1 hb
  refine (toInt64SSS_any _ _ _ xss W1 HX.out HN.out HR.out).mono ?_
  rintro e w2 ⟨rfl, hg, hb2, hz2⟩
  rw [hsz] at hg hz2 hb2 ⊢
  have e20 : w2.cell? ⟨w.heap.size + 2, 0, none⟩ = some (.int .i64 s) := (hb2.cell (by simp)).trans g20
  have e21 : w2.cell? ⟨w.heap.size + 2, 1, none⟩ = some (.slice none 0 0) := (hb2.cell (by simp)).trans g21
  have e10 : w2.cell? ⟨w.heap.size + 1, 0, none⟩ = some (.int .i64 0) := (hb2.cell (by simp)).trans g10
  have e11 : w2.cell? ⟨w.heap.size + 1, 1, none⟩ = some (.slice none 0 0) := (hb2.cell (by simp)).trans g11
  have i20 : w2.frozen? ⟨w.heap.size + 2, 0, none⟩ = false := (hb2.frozen (by simp)).trans f20
  have i21 : w2.frozen? ⟨w.heap.size + 2, 1, none⟩ = false := (hb2.frozen (by simp)).trans f21
  have i10 : w2.frozen? ⟨w.heap.size + 1, 0, none⟩ = false := (hb2.frozen (by simp)).trans f10
  have i11 : w2.frozen? ⟨w.heap.size + 1, 1, none⟩ = false := (hb2.frozen (by simp)).trans f11
  have HG := Lib.hid hg
  have HZ := Lib.hid hz2
  have HB2 := Lib.hid (HB.out.trans (hb2.mono (by omega)))
  clear g20 g21 g10 g11 f20 f21 f10 f11 hg hz2 hb2 hsz
  go_wp2_with fail
  refine bodyPost_ret (v := .agg #[.int .i64 s, .slice (some ⟨w.heap.size + 3, 0, none⟩) n n]) (by simp [results, Tryd.results17, go_sem, e10, e11]) rfl ⟨rfl, ?_, ?_, ?_⟩
  · show Tab3In _ _ _ _ _
    rw [World.size_setCell, World.size_setCell, World.size_setCell]
    exact (((show Tab3In _ _ _ _ _ from HG.out).setLow (by simp)).setLow (by simp)).setLow (by simp)
  · exact ((HB2.out.setCell (by simp; omega) _).setCell (by simp) _).setCell (by simp) _
  · rw [World.size_setCell, World.size_setCell, World.size_setCell]
    exact HZ.out

/-! ### eqInt64SSS, eqChoice -/
def sameT (xsss ysss : List (List (List Int))) : Bool := decide (xsss = ysss)
theorem sameT_t {xsss ysss : List (List (List Int))} (h : xsss = ysss) : sameT xsss ysss = true := by simp [sameT, h]
theorem sameT_f {xsss ysss : List (List (List Int))} (h : ¬ xsss = ysss) : sameT xsss ysss = false := by simp [sameT, h]
theorem tabs_snoc {xss yss : List (List (List Int))} {k : Nat} {x y : List (List Int)} (h : xss.take k = yss.take k) (hx : xss[k]? = some x) (hy : yss[k]? = some y) (e : x = y) : xss.take (k + 1) = yss.take (k + 1) := by
  rw [List.take_add_one, List.take_add_one, h, hx, hy, e]
theorem tabs_stop {xss yss : List (List (List Int))} {k : Nat} {x y : List (List Int)} (hx : xss[k]? = some x) (hy : yss[k]? = some y) (hne : ¬ x = y) : ¬ xss = yss := by
  rintro rfl
  rw [hx] at hy
  exact hne (Option.some.inj hy)

set_option maxHeartbeats 1000000 in
theorem eqInt64SSS_any (A A' : Option Addr) (n n' cap cap' : Nat) (xss yss : List (List (List Int))) (w : World) (h : TabsAt w A n xss) (h' : TabsAt w A' n' yss) (hn : n ≤ 4611686018427387904) (hn' : n' ≤ 4611686018427387904)
    (hrows : Wide3 4611686018427387904 xss) (hrows' : Wide3 4611686018427387904 yss) :
    Calls Tryd.prog 37 #[.slice A n cap, .slice A' n' cap'] w fun e w' => e = .returned (.bool (sameT xss yss)) ∧ ∃ m, w' = w.drewN m := by
  have HR := Lib.hid hrows
  have HR' := Lib.hid hrows'
  clear hrows hrows'
  by_cases hnn : n = n'
  · subst hnn
    go_enter Tryd.func37, Tryd.ntmps37
    go_wp2
    go_loopw [5] (fun i wr => ∃ k m : Nat, k ≤ n ∧ i = .int .i64 k ∧ wr = w.drewN m ∧ xss.take k = yss.take k) (fun i _ => n - (intOf i).toNat)
    case atStart => exact ⟨0, 0, Nat.zero_le _, rfl, rfl, by simp⟩
    case round =>
      obtain ⟨k, m, hk, rfl, hw, htake⟩ := hrel
      have HT := Lib.hid htake
      have HW := Lib.hid hw
      have h1 : TabsAt wr A n xss := by rw [hw]; exact h.drewN m
      have h2 : TabsAt wr A' n yss := by rw [hw]; exact h'.drewN m
      clear htake hw
      by_cases hlt : k < n
      · obtain ⟨xs, b, off, A1, c1, hx, rfl, hc, hnum⟩ := h1.at_ hlt
        obtain ⟨ys, b', off', A2, c2, hy, rfl, hc', hnum'⟩ := h2.at_ hlt
        have HX := Lib.hid hx
        have HY := Lib.hid hy
        have HN := Lib.hid hnum
        have HN' := Lib.hid hnum'
        have hk0 : (0 : Int) ≤ (k : Int) := by omega
        have hkn : (k : Int) < (n : Int) := by omega
        clear hx hy hnum hnum' h1 h2
        by_cases hxy : xs = ys
        · have hs : sameR xs ys = true := sameR_t hxy
          have HXY := Lib.hid hxy
          clear hxy
          go_wp2_with fail
          go_quiet ((go_at_call 56; exact Calls.quiet_of (eqInt64SS_any _ _ _ _ _ _ _ _ _ (HN.out.drewN _) (HN'.out.drewN _) (HR.out _ _ HX.out).1 (HR'.out _ _ HY.out).1 (HR.out _ _ HX.out).2 (HR'.out _ _ HY.out).2)))
          go_wp2_with fail
          go_roundw
          case rel => exact ⟨k + 1, _, by omega, by go_num, by rw [HW.out, World.drewN_drewN], tabs_snoc HT.out HX.out HY.out HXY.out⟩
          case measure => simp [intOf]; omega
        · have hs : sameR xs ys = false := sameR_f hxy
          have HXY := Lib.hid hxy
          clear hxy
          go_wp2_with fail
          go_quiet ((go_at_call 56; exact Calls.quiet_of (eqInt64SS_any _ _ _ _ _ _ _ _ _ (HN.out.drewN _) (HN'.out.drewN _) (HR.out _ _ HX.out).1 (HR'.out _ _ HY.out).1 (HR.out _ _ HX.out).2 (HR'.out _ _ HY.out).2)))
          go_wp2_with fail
          go_ret
          exact ⟨ret_bool (sameT_f (tabs_stop HX.out HY.out HXY.out)).symm, _, by rw [HW.out, World.drewN_drewN]⟩
      · go_wp2
        go_ret
        have hkn : k = n := by omega
        subst hkn
        have ht := HT.out
        rw [List.take_of_length_le (Nat.le_of_eq h.1), List.take_of_length_le (Nat.le_of_eq h'.1)] at ht
        exact ⟨ret_bool (sameT_t ht).symm, _, HW.out⟩
  · have hne : ((n : Int) != (n' : Int)) = true := by rw [bne_iff_ne]; omega
    go_enter Tryd.func37, Tryd.ntmps37
    go_wp2
    go_ret
    exact ⟨ret_bool (sameT_f (by rintro rfl; exact hnn (h.1.symm.trans h'.1))).symm, 0, rfl⟩

/-- Two automata with choices, by what they read as. -/
def sameC (s s' : Int) (xss yss : List (List (List Int))) : Bool := decide (s = s' ∧ xss = yss)
theorem sameC_t {s s' : Int} {xss yss : List (List (List Int))} (h : s = s') (h' : xss = yss) : sameC s s' xss yss = true := by simp [sameC, h, h']
theorem sameC_of {s s' : Int} {xss yss : List (List (List Int))} (h : s = s') : sameC s s' xss yss = sameT xss yss := by simp [sameC, sameT, h]
theorem sameC_f {s s' : Int} {xss yss : List (List (List Int))} (h : ¬ s = s') : sameC s s' xss yss = false := by simp [sameC, h]

set_option maxHeartbeats 1000000 in
theorem eqChoice_any (s s' : Int) (A A' : Option Addr) (n n' cap cap' : Nat) (xss yss : List (List (List Int))) (w : World) (h : TabsAt w A n xss) (h' : TabsAt w A' n' yss) (hn : n ≤ 4611686018427387904) (hn' : n' ≤ 4611686018427387904)
    (hrows : Wide3 4611686018427387904 xss) (hrows' : Wide3 4611686018427387904 yss) :
    Calls Tryd.prog 19 #[.agg #[.int .i64 s, .slice A n cap], .agg #[.int .i64 s', .slice A' n' cap']] w fun e w' => e = .returned (.bool (sameC s s' xss yss)) ∧ Below w.heap.size w w' := by
  have HR := Lib.hid hrows
  have HR' := Lib.hid hrows'
  clear hrows hrows'
  by_cases hss : s = s'
  · subst hss
    rw [sameC_of rfl]
    go_enter Tryd.func19, Tryd.ntmps19
    go_wp2_with fail
    refine (eqInt64SSS_any _ _ _ _ _ _ xss yss _ (h.below (by go_grown)) (h'.below (by go_grown)) hn hn' HR.out HR'.out).mono ?_
    rintro e w2 ⟨rfl, m, rfl⟩
    rcases hs : sameT xss yss with _ | _
    · go_wp2_with fail
      go_ret
      exact ⟨ret_bool hs.symm, below_drewN' (by go_grown) _⟩
    · go_wp2_with fail
      go_ret
      exact ⟨ret_bool hs.symm, below_drewN' (by go_grown) _⟩
  · have hne : (s != s') = true := by rw [bne_iff_ne]; exact hss
    have HE := Lib.hid hss
    clear hss
    go_enter Tryd.func19, Tryd.ntmps19
    go_wp2_with fail
    go_ret
    exact ⟨ret_bool (sameC_f HE.out).symm, by go_grown⟩

/-! ### An automaton with choices that comes in -/
theorem cells_rows : Tryd.prog.cellsOf 76 = 1 := by kernel_rfl
theorem cells_chos : Tryd.prog.cellsOf 35 = 2 := by kernel_rfl
theorem tabs_of_trod {H : Type} {enc : TypeId × Value → H} {W : World} {base fuel : Nat} {held : Bool} {cs : List Value} {x : DataW H × List MemPlace}
    (h : DataW.trod enc Tryd.prog W base (fun _ => true) held fuel 33 cs = some x) : ∃ A n c xsss, cs = [.slice A n c] ∧ TabsAt W A n xsss ∧ n ≤ 9223372036854775807 ∧ Wide3 9223372036854775807 xsss := by
  rcases open_slice1 Tryd.underlying33 cells_rows h with ⟨rfl, _⟩ | ⟨a, len, cap, m, n, V, D, Pl, rfl, hb, hl, hm, hmm, rfl, hx⟩
  · exact ⟨none, 0, 0, [], rfl, TabsAt.nil _ _, by omega, fun r xs hx => by simp at hx⟩
  · have hm' : cap ≤ 9223372036854775807 := hm
    simp only [if_true] at hmm
    have hmm' := hmm.symm
    subst hmm'
    have each : ∀ r, r < cap → ∃ y : Option Addr × Nat × List (List Int), V r = .slice y.1 y.2.2.length y.2.1 ∧ RowsAt W y.1 y.2.2.length y.2.2 ∧ y.2.2.length ≤ 9223372036854775807 ∧ ∀ (k : Nat) (xs : List Int), y.2.2[k]? = some xs → xs.length ≤ 9223372036854775807 := by
      intro r hr
      obtain ⟨A, n, c, xss, hcs, h1, h2, h3⟩ := rows_of_trod (hx r hr).2
      have hn : xss.length = n := h1.1
      subst hn
      exact ⟨(A, c, xss), by simpa using hcs, h1, h2, h3⟩
    obtain ⟨y, hy⟩ := choose_lt each
    refine ⟨some a, len, cap, (List.range len).map fun r => (y r).2.2, rfl, ⟨by simp, fun r xss hr => ?_⟩, by omega, fun r xss hr => ?_⟩
    all_goals
      have hlt : r < len := by have := lt_of_at3 hr; simpa using this
      rw [List.getElem?_map, List.getElem?_range hlt] at hr
      obtain rfl : (y r).2.2 = xss := by simpa using hr
      obtain ⟨e1, r1, r2, r3⟩ := hy r (by omega)
    · have hc := (hx r (by omega)).1
      have hc0 := (hx 0 (by omega)).1
      obtain ⟨b, off, rfl⟩ := addr_plain hc0
      exact ⟨b, off, (y r).1, (y r).2.1, rfl, by rw [← e1, ← hc, Addr.add_lit], r1⟩
    · exact ⟨r2, r3⟩

set_option maxRecDepth 100000 in
theorem chos_of_trod {H : Type} {enc : TypeId × Value → H} {W : World} {base b0 : Nat} {held : Bool} {r : Reach} {v : Value} {d : DataW H} {p : List MemPlace} (hv : Value.okWide Tryd.prog W r b0 35 v)
    (h : DataW.Trod enc Tryd.prog W base (fun _ => true) held 35 v d p) :
    ∃ s A n c xss, v = .agg #[.int .i64 s, .slice A n c] ∧ TabsAt W A n xss ∧ n ≤ 9223372036854775807 ∧ Wide3 9223372036854775807 xss := by
  obtain ⟨v0, v1, y0, y1, m, rfl, _, _, h0, h1⟩ := Go.Joins.open_agg2 Tryd.underlying35 (by kernel_rfl) cells_chos hv h
  obtain ⟨s, e0, _, _⟩ := DataW.trod_int Tryd.underlying2 h0
  obtain ⟨A, n, c, xss, e1, hr⟩ := tabs_of_trod h1
  simp only [List.cons.injEq, and_true] at e0 e1
  subst e0 e1
  exact ⟨s, A, n, c, xss, rfl, hr⟩

/-! ### markInt64SSS, markChoice -/
theorem TabIn.marked {lo hi lo' hi' : Nat} {w w' : World} {v : Value} {xss : List (List Int)} (h : TabIn lo hi w v xss) (ho : Only lo' hi' w w') (hd : hi ≤ lo' ∨ hi' ≤ lo) : TabIn lo hi w' v xss := h.only ho hd

end Go.Proofs.YtkfajimhooidcaaDoor
