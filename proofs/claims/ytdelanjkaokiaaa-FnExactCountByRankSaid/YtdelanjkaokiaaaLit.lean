/-
  Automata with lamps as the laws hold them: the contracts of what the laws do with them.
-/
import Derived.Test.YtdelanjkaokiaaaLaw
namespace Go.Proofs.Ytdelanjkaokiaaa
open Go.RowKit Go.Deep Go.ChangeShapes Go.WideShapes

/-- What szLit tells of the table and of the lamps. -/
def SizedL (xss : List (List Int)) (m : Nat) (left r : Int) : Prop := ∃ q : Int, SizedTo xss left q ∧ ((q < 0 ∧ r = -1) ∨ (0 ≤ q ∧ r = leftOf q m))
theorem SizedL.first {xss : List (List Int)} {m : Nat} {left r : Int} (h : SizedL xss m left r) (hr : ¬ r < 0) : ∃ q : Int, SizedTo xss left q ∧ 0 ≤ q ∧ q ≤ left ∧ r = q - (m : Int) := by
  obtain ⟨q, h1, h2 | ⟨h2, h3⟩⟩ := h
  · exact absurd h2.2 (by omega)
  · refine ⟨q, h1, h2, by rcases h1 with h | ⟨_, h⟩ <;> omega, ?_⟩
    unfold leftOf at h3
    split at h3
    · exact absurd h3 (by omega)
    · exact h3
theorem sizedL_left {xss : List (List Int)} {m : Nat} {left r : Int} (h : SizedL xss m left r) (hr : ¬ r < 0) : 0 ≤ r ∧ r ≤ left := by
  obtain ⟨q, h1, h2, h3, h4⟩ := h.first hr
  omega
theorem sizedL_n {xss : List (List Int)} {m : Nat} {left r : Int} {n : Nat} (h : SizedL xss m left r) (hl : left ≤ 1048576) (hr : ¬ r < 0) (hn : xss.length = n) : n ≤ 1048576 := by
  obtain ⟨q, h1, h2, h3, h4⟩ := h.first hr
  exact sized_n' h1 hl (by omega) hn
theorem sizedL_rows {xss : List (List Int)} {m : Nat} {left r : Int} (h : SizedL xss m left r) (hl : left ≤ 1048576) (hr : ¬ r < 0) : ∀ (k : Nat) (xs : List Int), xss[k]? = some xs → xs.length ≤ 1048576 := by
  obtain ⟨q, h1, h2, h3, h4⟩ := h.first hr
  exact sized_rows' h1 hl (by omega)
theorem sizedL_m {xss : List (List Int)} {m : Nat} {left r : Int} (h : SizedL xss m left r) (hl : left ≤ 1048576) (hr : ¬ r < 0) : m ≤ 1048576 := by
  obtain ⟨q, h1, h2, h3, h4⟩ := h.first hr
  omega
theorem sizedL_sum {xss : List (List Int)} {m : Nat} {left r : Int} (h : SizedL xss m left r) (hl : left ≤ 1048576) (hr : ¬ r < 0) : sumLens xss + m ≤ 1048576 := by
  obtain ⟨q, h1, h2, h3, h4⟩ := h.first hr
  rcases h1 with h | ⟨_, h⟩ <;> omega

theorem szLit_any (s : Int) (A : Option Addr) (n cap : Nat) (xss : List (List Int)) (B : Option Addr) (m cap' : Nat) (left : Int) (w : World) (h : RowsAt w A n xss) (hn : n ≤ 9223372036854775807) (hrows : ∀ (r : Nat) (xs : List Int), xss[r]? = some xs → xs.length ≤ 9223372036854775807)
    (hm : m ≤ 9223372036854775807) (h0 : 0 ≤ left) (h1 : left ≤ 4611686018427387904) :
    Calls Try.prog 11 #[.agg #[.int .i64 s, .slice A n cap, .slice B m cap'], .int .i64 left] w fun e w' => ∃ r : Int, e = .returned (.int .i64 r) ∧ SizedL xss m left r ∧ Below w.heap.size w w' := by
  have HR := Lib.hid hrows
  clear hrows
  go_enter Try.func11, Try.ntmps11
  go_wp2_with fail
  obtain ⟨w0, hw0⟩ : ∃ w0, w0 = w.alloc (.cells #[.int .i64 s, .slice A n cap, .slice B m cap'] 27) := ⟨_, rfl⟩
  have P0 := Lib.hid (show Box w0 w.heap.size [.int .i64 s, .slice A n cap, .slice B m cap'] by rw [hw0]; exact Box.new _ _ _)
  have b0 : Below w.heap.size w w0 := by rw [hw0]; exact (Below.refl _ _).alloc (Nat.le_refl _) _
  rw [← hw0]
  clear hw0
  refine (szAutomaton_any s A n cap xss _ _ (h.below b0) hn HR.out h0 h1).mono ?_
  rintro e w' ⟨r, rfl, hr, b1⟩
  have HR2 := Lib.hid hr
  have B1 := Lib.hid (below_then b0 b1)
  have x2 := (P0.out.below b1) 2 _ rfl
  clear b0 b1
  by_cases hneg : r < 0
  · have hr1 : r = -1 := by rcases hr with h | h <;> omega
    subst hr1
    clear hr
    go_wp2_with fail
    go_ret
    exact ⟨-1, rfl, ⟨-1, HR2.out, .inl ⟨by omega, rfl⟩⟩, B1.out⟩
  · have hr0 : 0 ≤ r := by omega
    have hr1 : r ≤ left := by rcases hr with h | ⟨_, h⟩ <;> omega
    clear hr
    go_wp2_with fail
    refine (szInt64S_any B m cap' r _ hm hr0 (by omega)).mono ?_
    rintro e w' ⟨rfl, rfl⟩
    obtain ⟨q, hq⟩ : ∃ q, q = leftOf r m := ⟨_, rfl⟩
    rw [← hq]
    have HQ := Lib.hid hq
    by_cases hneg' : q < 0
    · have hr1 : q = -1 := by rw [hq]; unfold leftOf at hq ⊢; split at hq <;> (split <;> omega)
      subst hr1
      clear hq
      go_wp2_with fail
      go_ret
      exact ⟨-1, rfl, ⟨r, HR2.out, .inr ⟨hr0, HQ.out⟩⟩, B1.out⟩
    · clear hq
      go_wp2_with fail
      go_ret
      exact ⟨q, rfl, ⟨r, HR2.out, .inr ⟨hr0, HQ.out⟩⟩, B1.out⟩

/-- A list of lists and a list of a call's own, in the blocks from lo on below hi: one behind the other. -/
def LitIn (lo hi : Nat) (w : World) (v v' : Value) (xss : List (List Int)) (ys : List Int) : Prop := ∃ mi, lo ≤ mi ∧ mi ≤ hi ∧ TabIn lo mi w v xss ∧ IntsIn mi hi w v' ys
theorem LitIn.below {lo hi : Nat} {w w' : World} {v v' : Value} {xss : List (List Int)} {ys : List Int} (h : LitIn lo hi w v v' xss ys) (hb : Below w.heap.size w w') : LitIn lo hi w' v v' xss ys := by
  obtain ⟨mi, h1, h2, h3, h4⟩ := h
  exact ⟨mi, h1, h2, h3.below hb, h4.below hb⟩
theorem LitIn.only {lo hi lo' hi' : Nat} {w w' : World} {v v' : Value} {xss : List (List Int)} {ys : List Int} (h : LitIn lo hi w v v' xss ys) (ho : Only lo' hi' w w') (hd : hi ≤ lo' ∨ hi' ≤ lo) : LitIn lo hi w' v v' xss ys := by
  obtain ⟨mi, h1, h2, h3, h4⟩ := h
  exact ⟨mi, h1, h2, h3.only ho (by omega), h4.only ho (by omega)⟩
theorem LitIn.wide {lo hi lo' hi' : Nat} {w : World} {v v' : Value} {xss : List (List Int)} {ys : List Int} (h : LitIn lo hi w v v' xss ys) (h1 : lo' ≤ lo) (h2 : hi ≤ hi') : LitIn lo' hi' w v v' xss ys := by
  obtain ⟨mi, h3, h4, h5, h6⟩ := h
  exact ⟨mi, by omega, by omega, h5.wide h1 (Nat.le_refl _), h6.wide (Nat.le_refl _) h2⟩
theorem LitIn.rows {lo hi : Nat} {w : World} {A : Option Addr} {n c : Nat} {v' : Value} {xss : List (List Int)} {ys : List Int} (h : LitIn lo hi w (.slice A n c) v' xss ys) (hn : xss.length = n) : RowsAt w A n xss := by
  obtain ⟨mi, _, _, h5, _⟩ := h; exact TabIn.rows h5 hn
theorem LitIn.outs {lo hi : Nat} {w : World} {A : Option Addr} {n c : Nat} {v : Value} {xss : List (List Int)} {ys : List Int} (h : LitIn lo hi w v (.slice A n c) xss ys) (hn : ys.length = n) : NumsAt w A n ys := by
  obtain ⟨mi, _, _, _, h6⟩ := h; exact h6.nums hn
theorem LitIn.setLow {lo hi : Nat} {w : World} {v v' : Value} {xss : List (List Int)} {ys : List Int} (h : LitIn lo hi w v v' xss ys) {p : Addr} (hp : p.block < lo) (u : Value) : LitIn lo hi (w.setCell p u) v v' xss ys :=
  h.only (lo' := p.block) (hi' := p.block + 1) ⟨rfl, rfl, rfl, Nat.le_of_eq (World.size_setCell ..).symm, fun i _ hb => heap_setCell_other w p i u (by omega)⟩ (.inr (by omega))

theorem cells_lit : Try.prog.cellsOf 27 = 3 := by kernel_rfl
theorem cells_tab : Try.prog.cellsOf 22 = 1 := by kernel_rfl

set_option maxRecDepth 100000 in
theorem lit_of_trod {H : Type} {enc : TypeId × Value → H} {W : World} {base b0 : Nat} {held : Bool} {r : Reach} {v : Value} {d : DataW H} {p : List MemPlace} (hv : Value.okWide Try.prog W r b0 27 v)
    (h : DataW.Trod enc Try.prog W base (fun _ => true) held 27 v d p) :
    ∃ s A n c xss B m e ys, v = .agg #[.int .i64 s, .slice A n c, .slice B m e] ∧ RowsAt W A n xss ∧ n ≤ 9223372036854775807 ∧ (∀ (r : Nat) (xs : List Int), xss[r]? = some xs → xs.length ≤ 9223372036854775807) ∧ NumsAt W B m ys ∧ m ≤ 9223372036854775807 := by
  obtain ⟨cs, rfl, hsz⟩ := okWide_struct Try.underlying27 hv
  obtain ⟨c0, c1, c2, rfl⟩ := Go.Joins.array3 (hsz.trans cells_lit)
  obtain ⟨fuel, hf⟩ := h
  obtain ⟨y0, y1, k, hx, _, h0, h1⟩ := trod_struct2 Try.underlying27 hf
  have h0' : DataW.trod enc Try.prog W base (fun _ => true) held k 24 (([c0, c1, c2].drop 0).take (Try.prog.cellsOf 24)) = some y0 := h0
  have h1' : DataW.trod enc Try.prog W base (fun _ => true) held k 25 (([c0, c1, c2].drop 2).take (Try.prog.cellsOf 25)) = some y1 := h1
  rw [cells_auto] at h0'
  rw [cells_ints] at h1'
  obtain ⟨z0, z1, k', hx', _, g0, g1⟩ := trod_struct2 Try.underlying24 h0'
  have g0' : DataW.trod enc Try.prog W base (fun _ => true) held k' 2 (([c0, c1].drop 0).take (Try.prog.cellsOf 2)) = some z0 := g0
  have g1' : DataW.trod enc Try.prog W base (fun _ => true) held k' 22 (([c0, c1].drop 1).take (Try.prog.cellsOf 22)) = some z1 := g1
  rw [cells_int64] at g0'
  rw [cells_tab] at g1'
  obtain ⟨s, e0, _, _⟩ := DataW.trod_int Try.underlying2 g0'
  obtain ⟨A, n, c, xss, e1, hr, hn, hw⟩ := rows_of_trod g1'
  obtain ⟨B, m, e, e2⟩ := Go.Joins.slice_form Try.underlying25 h1'
  simp only [List.drop, List.take, List.cons.injEq, and_true] at e0 e1 e2
  subst e0 e1 e2
  obtain ⟨ys, hy, hm⟩ := nums_of_trod ⟨k, by simpa [Value.cells] using h1'⟩
  exact ⟨s, A, n, c, xss, B, m, e, ys, rfl, hr, hn, hw, hy, hm⟩

theorem only_setCellL (w : World) (B j : Nat) (y : Value) : Only B (B + 1) w (w.setCell ⟨B, j, none⟩ y) := ⟨rfl, rfl, rfl, Nat.le_of_eq (World.size_setCell ..).symm, fun i _ hb => heap_setCell_other w ⟨B, j, none⟩ i y (by simp; omega)⟩
theorem set2_onlyL (w : World) (B : Nat) (y0 y1 : Value) : Only B (B + 1) w ((w.setCell ⟨B, 0, none⟩ y0).setCell ⟨B, 1, none⟩ y1) := (only_setCellL w B 0 y0).trans (only_setCellL _ B 1 y1)

set_option maxHeartbeats 2000000 in
theorem toLit_any (s : Int) (A : Option Addr) (n cap : Nat) (xss : List (List Int)) (B : Option Addr) (m cap' : Nat) (ys : List Int) (w : World) (h : RowsAt w A n xss) (hn : n ≤ 1048576) (hrows : ∀ (r : Nat) (xs : List Int), xss[r]? = some xs → xs.length ≤ 1048576)
    (g : NumsAt w B m ys) (hm : m ≤ 1048576) :
    Calls Try.prog 13 #[.agg #[.int .i64 s, .slice A n cap, .slice B m cap']] w fun e w' => e = .returned (.agg #[.int .i64 s, .slice (some ⟨w.heap.size + 6, 0, none⟩) n n, .slice (some ⟨w.heap.size + 7 + n, 0, none⟩) m m]) ∧
      LitIn w.heap.size w'.heap.size w' (.slice (some ⟨w.heap.size + 6, 0, none⟩) n n) (.slice (some ⟨w.heap.size + 7 + n, 0, none⟩) m m) xss ys ∧ Below w.heap.size w w' := by
  have HN := Lib.hid hn
  have HM := Lib.hid hm
  have HR := Lib.hid hrows
  have HL := Lib.hid h.1
  have HL' := Lib.hid g.1
  clear hn hrows hm
  go_enter Try.func13, Try.ntmps13
  go_wp2_with fail
  obtain ⟨W1, hW1⟩ : ∃ W1, W1 = ((w.alloc (.cells #[.int .i64 s, .slice A n cap, .slice B m cap'] 27)).alloc (.cells #[.int .i64 0, .slice none 0 0, .slice none 0 0] 33)).alloc (.cells #[.int .i64 0, .slice none 0 0, .slice none 0 0] 33) := ⟨_, rfl⟩
  have hsz : W1.heap.size = w.heap.size + 3 := by rw [hW1]; simp
  have hb : Below w.heap.size w W1 := by rw [hW1]; go_grown
  have p0 : W1.heap[w.heap.size]? = some (.cells #[.int .i64 s, .slice A n cap, .slice B m cap'] 27 (0, 0)) := by
    rw [hW1, heap_alloc_old _ _ (by simp; omega), heap_alloc_old _ _ (by simp)]
    exact heap_alloc_new _ _
  have p1 : W1.heap[w.heap.size + 1]? = some (.cells #[.int .i64 0, .slice none 0 0, .slice none 0 0] 33 (0, 0)) := by
    rw [hW1, heap_alloc_old _ _ (by simp)]
    exact (by simpa using heap_alloc_new (w.alloc (.cells #[.int .i64 s, .slice A n cap, .slice B m cap'] 27)) (.cells #[.int .i64 0, .slice none 0 0, .slice none 0 0] 33))
  have p2 : W1.heap[w.heap.size + 2]? = some (.cells #[.int .i64 0, .slice none 0 0, .slice none 0 0] 33 (0, 0)) := by
    rw [hW1]
    exact (by simpa using heap_alloc_new ((w.alloc (.cells #[.int .i64 s, .slice A n cap, .slice B m cap'] 27)).alloc (.cells #[.int .i64 0, .slice none 0 0, .slice none 0 0] 33)) (.cells #[.int .i64 0, .slice none 0 0, .slice none 0 0] 33))
  rw [← hW1]
  have HB := Lib.hid hb
  have HX := Lib.hid (h.below hb)
  have P0 := Lib.hid p0
  have P1 := Lib.hid p1
  have P2 := Lib.hid p2
  clear hW1 hb p0 p1 p2
  refine (toAutomaton_any s A n cap xss W1 HX.out HN.out HR.out).mono ?_
  rintro e w2 ⟨rfl, hg, hb2, hz2⟩
  rw [hsz] at hg hz2 hb2 ⊢
  have q0 : w2.heap[w.heap.size]? = _ := (hb2.block _ (by omega)).trans P0.out
  have q1 : w2.heap[w.heap.size + 1]? = _ := (hb2.block _ (by omega)).trans P1.out
  have q2 : w2.heap[w.heap.size + 2]? = _ := (hb2.block _ (by omega)).trans P2.out
  have d2 : w2.cell? ⟨w.heap.size, 2, none⟩ = some (.slice B m cap') := cell_of_row _ _ 2 _ _ _ q0
  have e20 : w2.cell? ⟨w.heap.size + 2, 0, none⟩ = some (.int .i64 0) := cell_of_row _ _ 0 _ _ _ q2
  have e21 : w2.cell? ⟨w.heap.size + 2, 1, none⟩ = some (.slice none 0 0) := cell_of_row _ _ 1 _ _ _ q2
  have i20 : w2.frozen? ⟨w.heap.size + 2, 0, none⟩ = false := frozen_of_row _ _ 0 _ _ q2
  have i21 : w2.frozen? ⟨w.heap.size + 2, 1, none⟩ = false := frozen_of_row _ _ 1 _ _ q2
  have HG := Lib.hid hg
  have HB2 := Lib.hid hb2
  have HZ2 := Lib.hid hz2
  have Q0 := Lib.hid q0
  have Q1 := Lib.hid q1
  have Q2 := Lib.hid q2
  clear q0 q1 q2 hg hb2 hz2
  go_wp2_with fail
  clear d2 e20 e21 i20 i21
  obtain ⟨w3, hw3⟩ : ∃ w3, w3 = (w2.setCell ⟨w.heap.size + 2, 0, none⟩ (.int .i64 s)).setCell ⟨w.heap.size + 2, 1, none⟩ (.slice (some ⟨w.heap.size + 6, 0, none⟩) n n) := ⟨_, rfl⟩
  have o3 : Only (w.heap.size + 2) (w.heap.size + 3) w2 w3 := by rw [hw3]; exact set2_onlyL _ _ _ _
  have s0 : w3.heap[w.heap.size]? = _ := (o3.block _ (by have := HZ2.out; omega) (by omega)).trans Q0.out
  have s1 : w3.heap[w.heap.size + 1]? = _ := (o3.block _ (by have := HZ2.out; omega) (by omega)).trans Q1.out
  have s2 : w3.heap[w.heap.size + 2]? = some (.cells #[.int .i64 s, .slice (some ⟨w.heap.size + 6, 0, none⟩) n n, .slice none 0 0] 33 (0, 0)) := by
    have h1 := heap_setCell_same w2 (w.heap.size + 2) 0 _ _ (.int .i64 s) Q2.out
    have h2 := heap_setCell_same _ (w.heap.size + 2) 1 _ _ (.slice (some ⟨w.heap.size + 6, 0, none⟩) n n) h1
    rw [hw3]
    exact h2
  have hz3 : w3.heap.size = w.heap.size + 7 + n := by rw [hw3, World.size_setCell, World.size_setCell, HZ2.out]; try omega
  have b3 : Below w.heap.size w w3 := by rw [hw3]; exact ((HB.out.trans (HB2.out.mono (by omega))).setCell (by simp) _).setCell (by simp) _
  have t3 : TabIn (w.heap.size + 6) (w.heap.size + 7 + n) w3 (.slice (some ⟨w.heap.size + 6, 0, none⟩) n n) xss := by
    have ht := ((tab_of_grid HG.out).wide (lo' := w.heap.size + 6) (hi' := w.heap.size + 7 + n) (by omega) (by have := HL.out; omega))
    rw [HL.out] at ht
    exact ht.only o3 (.inr (by omega))
  rw [show w.heap.size + 3 + 3 = w.heap.size + 6 from rfl, show w.heap.size + 1 + 1 = w.heap.size + 2 from rfl, ← hw3]
  have HY3 := Lib.hid (g.below b3)
  have HB3 := Lib.hid b3
  have S0 := Lib.hid s0
  have S1 := Lib.hid s1
  have S2 := Lib.hid s2
  have HZ3 := Lib.hid hz3
  have T3 := Lib.hid t3
  clear hw3 o3 s0 s1 s2 hz3 b3 t3 HG HB2 HZ2 Q0 Q1 Q2
  refine (toInt64S_any B m cap' ys w3 HY3.out HM.out).mono ?_
  rintro e w4 ⟨rfl, o4, hb4, hz4⟩
  have hz3 := HZ3.out
  rw [hz3] at o4 hz4 hb4 ⊢
  have q0 := (hb4.block w.heap.size (by omega)).trans S0.out
  have q1 := (hb4.block (w.heap.size + 1) (by omega)).trans S1.out
  have q2 := (hb4.block (w.heap.size + 2) (by omega)).trans S2.out
  have e22 : w4.cell? ⟨w.heap.size + 2, 2, none⟩ = some (.slice none 0 0) := cell_of_row _ _ 2 _ _ _ q2
  have i22 : w4.frozen? ⟨w.heap.size + 2, 2, none⟩ = false := frozen_of_row _ _ 2 _ _ q2
  have e20 : w4.cell? ⟨w.heap.size + 2, 0, none⟩ = some (.int .i64 s) := cell_of_row _ _ 0 _ _ _ q2
  have e21 : w4.cell? ⟨w.heap.size + 2, 1, none⟩ = some (.slice (some ⟨w.heap.size + 6, 0, none⟩) n n) := cell_of_row _ _ 1 _ _ _ q2
  have e10 : w4.cell? ⟨w.heap.size + 1, 0, none⟩ = some (.int .i64 0) := cell_of_row _ _ 0 _ _ _ q1
  have e11 : w4.cell? ⟨w.heap.size + 1, 1, none⟩ = some (.slice none 0 0) := cell_of_row _ _ 1 _ _ _ q1
  have e12 : w4.cell? ⟨w.heap.size + 1, 2, none⟩ = some (.slice none 0 0) := cell_of_row _ _ 2 _ _ _ q1
  have i10 : w4.frozen? ⟨w.heap.size + 1, 0, none⟩ = false := frozen_of_row _ _ 0 _ _ q1
  have i11 : w4.frozen? ⟨w.heap.size + 1, 1, none⟩ = false := frozen_of_row _ _ 1 _ _ q1
  have i12 : w4.frozen? ⟨w.heap.size + 1, 2, none⟩ = false := frozen_of_row _ _ 2 _ _ q1
  have hl4 : LitIn (w.heap.size + 6) w4.heap.size w4 (.slice (some ⟨w.heap.size + 6, 0, none⟩) n n) (.slice (some ⟨w.heap.size + 7 + n, 0, none⟩) m m) xss ys := by
    refine ⟨w.heap.size + 7 + n, by omega, by omega, T3.out.below (by rw [hz3]; exact hb4), ?_⟩
    have hl := HL'.out
    subst hl
    exact IntsIn.of o4
  have HG1 := Lib.hid hl4
  have HB4 := Lib.hid (HB3.out.trans (hb4.mono (by omega)))
  clear q0 q1 q2 o4 hb4 hz4 hz3 hl4
  go_wp2_with fail
  refine bodyPost_ret (v := .agg #[.int .i64 s, .slice (some ⟨w.heap.size + 6, 0, none⟩) n n, .slice (some ⟨w.heap.size + 7 + n, 0, none⟩) m m]) (by simp [results, Try.results13, go_sem, e10, e11, e12]) rfl ⟨rfl, ?_, ?_⟩
  · simp only [World.size_setCell]
    exact ((((HG1.out.setLow (by simp) _).setLow (by simp) _).setLow (by simp) _).setLow (by simp) _).wide (by omega) (Nat.le_refl _)
  · exact ((((HB4.out.setCell (by simp <;> omega) _).setCell (by simp <;> omega) _).setCell (by simp <;> omega) _).setCell (by simp <;> omega) _)

set_option maxHeartbeats 1000000 in
theorem eqLit_t (s : Int) (A A' : Option Addr) (n n' cap cap' : Nat) (xss : List (List Int)) (B B' : Option Addr) (m m' d d' : Nat) (ys : List Int) (w : World) (h : RowsAt w A n xss) (h' : RowsAt w A' n' xss) (hn : n ≤ 4611686018427387904) (hn' : n' ≤ 4611686018427387904)
    (hrows : ∀ (r : Nat) (xs : List Int), xss[r]? = some xs → xs.length ≤ 4611686018427387904) (g : NumsAt w B m ys) (g' : NumsAt w B' m' ys) (hm : m ≤ 4611686018427387904) (hm' : m' ≤ 4611686018427387904) :
    Calls Try.prog 16 #[.agg #[.int .i64 s, .slice A n cap, .slice B m d], .agg #[.int .i64 s, .slice A' n' cap', .slice B' m' d']] w fun e w' => e = .returned (.bool true) ∧ Below w.heap.size w w' := by
  have HR := Lib.hid hrows
  clear hrows
  go_enter Try.func16, Try.ntmps16
  go_wp2_with fail
  obtain ⟨w0, hw0⟩ : ∃ w0, w0 = (w.alloc (.cells #[.int .i64 s, .slice A n cap, .slice B m d] 33)).alloc (.cells #[.int .i64 s, .slice A' n' cap', .slice B' m' d'] 33) := ⟨_, rfl⟩
  have b0 : Below w.heap.size w w0 := by rw [hw0]; go_grown
  have P0 := Lib.hid (show Box w0 w.heap.size [.int .i64 s, .slice A n cap, .slice B m d] by rw [hw0]; exact (Box.new _ _ _).below ((Below.refl _ _).alloc (Nat.le_refl _) _))
  have P1 := Lib.hid (show Box w0 (w.heap.size + 1) [.int .i64 s, .slice A' n' cap', .slice B' m' d'] by rw [hw0]; have := Box.new (w.alloc (.cells #[.int .i64 s, .slice A n cap, .slice B m d] 33)) #[.int .i64 s, .slice A' n' cap', .slice B' m' d'] 33; rw [World.size_alloc] at this; exact this)
  rw [← hw0]
  clear hw0
  refine (eqAutomaton_any s s _ _ _ _ _ _ xss xss _ (h.below b0) (h'.below b0) hn hn' HR.out HR.out).mono ?_
  rw [sameA_t rfl rfl]
  rintro e w2 ⟨rfl, b2⟩
  have B2 := Lib.hid (below_then b0 b2)
  have x2 := (P0.out.below b2) 2 _ rfl
  have x3 := (P1.out.below b2) 2 _ rfl
  clear b2
  go_wp2_with fail
  refine (eqInts_b _ _ _ _ _ _ ys ys _ (g.below B2.out) (g'.below B2.out) hm hm').mono ?_
  rw [sameB_t rfl]
  rintro e w3 ⟨rfl, b3⟩
  have B3 := Lib.hid (below_then B2.out b3)
  clear b3
  go_wp2_with fail
  go_ret
  exact ⟨rfl, B3.out⟩

set_option maxHeartbeats 1000000 in
theorem markLitT_any (lo hi : Nat) (s : Int) (A : Option Addr) (n c : Nat) (xss : List (List Int)) (B : Option Addr) (m d : Nat) (ys : List Int) (k0 : Int) (w : World) (h : LitIn lo hi w (.slice A n c) (.slice B m d) xss ys) (hi' : hi ≤ w.heap.size) (hl : xss.length = n) (hl' : ys.length = m) (hk0 : 0 ≤ k0) (hn : n ≤ 1048576) (hs : k0 + (sumLens xss : Int) + (m : Int) ≤ 4611686018427387904) :
    Calls Try.prog 22 #[.agg #[.int .i64 s, .slice A n c, .slice B m d], .int .i64 k0] w fun e w' => e = .returned (.int .i64 (k0 + (sumLens xss : Int) + (m : Int))) ∧ Only lo hi w w' ∧ True := by
  obtain ⟨mi, hlo, hhi, t1, t2⟩ := h
  have HL := Lib.hid hl
  have HL' := Lib.hid hl'
  have HN := Lib.hid hn
  have HS := Lib.hid hs
  have T1 := Lib.hid t1
  have T2 := Lib.hid t2
  clear hl hl' hn hs t1 t2
  go_enter Try.func22, Try.ntmps22
  go_wp2_with fail
  obtain ⟨w0, hw0⟩ : ∃ w0, w0 = w.alloc (.cells #[.int .i64 s, .slice A n c, .slice B m d] 33) := ⟨_, rfl⟩
  rw [← hw0]
  have b0 : Below w.heap.size w w0 := by rw [hw0]; exact (Below.refl _ _).alloc (Nat.le_refl _) _
  have P0 := Lib.hid (show Box w0 w.heap.size [.int .i64 s, .slice A n c, .slice B m d] by rw [hw0]; exact Box.new _ _ _)
  have T1 := Lib.hid (T1.out.below b0)
  have T2 := Lib.hid (T2.out.below b0)
  have HB := Lib.hid b0
  clear b0 hw0
  refine (markAutomatonT_any lo mi s A n c xss k0 _ T1.out HL.out hk0 HN.out (by have := HS.out; omega)).mono ?_
  rintro e w1 ⟨rfl, o1, t1⟩
  have x3 : w1.cell? ⟨w.heap.size, 2, none⟩ = some (.slice B m d) := (P0.out.only o1 (by omega)) 2 _ rfl
  have T2 := Lib.hid (T2.out.only o1 (.inr (Nat.le_refl _)))
  have HO := Lib.hid ((Only.of_below HB.out _ _).trans (only_wide' o1 (Nat.le_refl _) hhi))
  have hp : (0 : Int) ≤ k0 + (sumLens xss : Int) := by omega
  clear o1 t1
  go_wp2_with fail
  refine (markInts_in mi hi m d B ys (k0 + (sumLens xss : Int)) _ T2.out HL'.out hp HS.out).mono ?_
  rintro e w2 ⟨rfl, o2, t2, z2⟩
  have HO2 := Lib.hid (HO.out.trans (only_wide' o2 hlo (Nat.le_refl _)))
  clear o2 t2 z2
  go_wp2_with fail
  go_ret
  exact ⟨rfl, HO2.out, trivial⟩

end Go.Proofs.Ytdelanjkaokiaaa
