/-
  Machines as the laws hold them: the contracts of what the laws do with them.
-/
import Derived.Test.YtogbglbmkkbhcaaDoorLaw
namespace Go.Proofs.YtogbglbmkkbhcaaDoor
open Go.RowKit Go.Deep Go.ChangeShapes Go.WideShapes

/-- What szMachine tells of both tables. -/
def Sized2 (xss yss : List (List Int)) (left r : Int) : Prop := ∃ q : Int, SizedTo xss left q ∧ ((q < 0 ∧ r = -1) ∨ (0 ≤ q ∧ SizedTo yss q r))
theorem Sized2.first {xss yss : List (List Int)} {left r : Int} (h : Sized2 xss yss left r) (hr : ¬ r < 0) : ∃ q : Int, SizedTo xss left q ∧ 0 ≤ q ∧ q ≤ left ∧ SizedTo yss q r := by
  obtain ⟨q, h1, h2 | ⟨h2, h3⟩⟩ := h
  · exact absurd h2.2 (by omega)
  · exact ⟨q, h1, h2, by rcases h1 with h | ⟨_, h⟩ <;> omega, h3⟩
theorem sized2_left {xss yss : List (List Int)} {left r : Int} (h : Sized2 xss yss left r) (hr : ¬ r < 0) : 0 ≤ r ∧ r ≤ left := by
  obtain ⟨q, h1, h2, h3, h4⟩ := h.first hr
  have := sized_left h4 hr
  omega
theorem sized2_n {xss yss : List (List Int)} {left r : Int} {n : Nat} (h : Sized2 xss yss left r) (hl : left ≤ 1048576) (hr : ¬ r < 0) (hn : xss.length = n) : n ≤ 1048576 := by
  obtain ⟨q, h1, h2, h3, h4⟩ := h.first hr
  exact sized_n' h1 hl (by omega) hn
theorem sized2_rows {xss yss : List (List Int)} {left r : Int} (h : Sized2 xss yss left r) (hl : left ≤ 1048576) (hr : ¬ r < 0) : ∀ (k : Nat) (xs : List Int), xss[k]? = some xs → xs.length ≤ 1048576 := by
  obtain ⟨q, h1, h2, h3, h4⟩ := h.first hr
  exact sized_rows' h1 hl (by omega)
theorem sized2_m {xss yss : List (List Int)} {left r : Int} {n : Nat} (h : Sized2 xss yss left r) (hl : left ≤ 1048576) (hr : ¬ r < 0) (hn : yss.length = n) : n ≤ 1048576 := by
  obtain ⟨q, h1, h2, h3, h4⟩ := h.first hr
  exact sized_n' h4 (by omega) hr hn
theorem sized2_outs {xss yss : List (List Int)} {left r : Int} (h : Sized2 xss yss left r) (hl : left ≤ 1048576) (hr : ¬ r < 0) : ∀ (k : Nat) (xs : List Int), yss[k]? = some xs → xs.length ≤ 1048576 := by
  obtain ⟨q, h1, h2, h3, h4⟩ := h.first hr
  exact sized_rows' h4 (by omega) hr
theorem sized2_sum {xss yss : List (List Int)} {left r : Int} (h : Sized2 xss yss left r) (hl : left ≤ 1048576) (hr : ¬ r < 0) : sumLens xss + sumLens yss ≤ 1048576 := by
  obtain ⟨q, h1, h2, h3, h4⟩ := h.first hr
  rcases h1 with h | ⟨_, h⟩
  · omega
  · rcases h4 with h' | ⟨_, h'⟩ <;> omega

theorem szMachine_any (s q : Int) (A : Option Addr) (n cap : Nat) (xss : List (List Int)) (B : Option Addr) (m cap' : Nat) (yss : List (List Int)) (left : Int) (w : World) (h : RowsAt w A n xss) (hn : n ≤ 9223372036854775807) (hrows : ∀ (r : Nat) (xs : List Int), xss[r]? = some xs → xs.length ≤ 9223372036854775807)
    (g : RowsAt w B m yss) (hm : m ≤ 9223372036854775807) (hrows' : ∀ (r : Nat) (xs : List Int), yss[r]? = some xs → xs.length ≤ 9223372036854775807) (h0 : 0 ≤ left) (h1 : left ≤ 4611686018427387904) :
    Calls Tryd.prog 28 #[.agg #[.int .i64 s, .int .i64 q, .slice A n cap, .slice B m cap'], .int .i64 left] w fun e w' => ∃ r : Int, e = .returned (.int .i64 r) ∧ Sized2 xss yss left r ∧ Below w.heap.size w w' := by
  have HR := Lib.hid hrows
  have HR' := Lib.hid hrows'
  clear hrows hrows'
  go_enter Tryd.func28, Tryd.ntmps28
  go_wp2_with fail
  refine (szInt64SS_any _ _ _ xss _ _ (h.below ((Below.refl _ _).alloc (Nat.le_refl _) _)) hn HR.out h0 h1).mono ?_
  rintro e w' ⟨r, rfl, hr, rfl⟩
  have HR2 := Lib.hid hr
  by_cases hneg : r < 0
  · have hr1 : r = -1 := by rcases hr with h | h <;> omega
    subst hr1
    clear hr
    go_wp2_with fail
    go_ret
    exact ⟨-1, rfl, ⟨-1, HR2.out, .inl ⟨by omega, rfl⟩⟩, (Below.refl _ _).alloc (Nat.le_refl _) _⟩
  · have hr0 : 0 ≤ r := by omega
    have hr1 : r ≤ left := by rcases hr with h | ⟨_, h⟩ <;> omega
    clear hr
    go_wp2_with fail
    refine (szInt64SS_any _ _ _ yss _ _ (g.below ((Below.refl _ _).alloc (Nat.le_refl _) _)) hm HR'.out hr0 (by omega)).mono ?_
    rintro e w' ⟨r', rfl, hr', rfl⟩
    have HR3 := Lib.hid hr'
    by_cases hneg' : r' < 0
    · have hr1 : r' = -1 := by rcases hr' with h | h <;> omega
      subst hr1
      clear hr'
      go_wp2_with fail
      go_ret
      exact ⟨-1, rfl, ⟨r, HR2.out, .inr ⟨hr0, HR3.out⟩⟩, (Below.refl _ _).alloc (Nat.le_refl _) _⟩
    · clear hr'
      go_wp2_with fail
      go_ret
      exact ⟨r', rfl, ⟨r, HR2.out, .inr ⟨hr0, HR3.out⟩⟩, (Below.refl _ _).alloc (Nat.le_refl _) _⟩

/-- The blocks of a list of lists. -/
def OwnsB (v : Value) (vs : List Value) (g : Nat) : Prop := v.ownBlock = some g ∨ ∃ (r : Nat) (u : Value), vs[r]? = some u ∧ u.ownBlock = some g
theorem TabV.own_lt {lo hi : Nat} {w : World} {v : Value} {vs : List Value} {xss : List (List Int)} (h : TabV lo hi w v vs xss) {g : Nat} (hg : OwnsB v vs g) : lo ≤ g ∧ g < hi ∧ g < w.heap.size := by
  rcases hg with hg | ⟨r, u, hu, hg⟩
  · exact ⟨(h.out.lt g hg).1, h.top g hg, (h.out.lt g hg).2⟩
  · have hl := h.len
    have hr : r < vs.length := by
      rcases Nat.lt_or_ge r vs.length with h | h
      · exact h
      · rw [List.getElem?_eq_none h] at hu; cases hu
    have hi := h.row r u _ hu (List.getElem?_eq_getElem (by omega))
    exact ⟨(hi.1.lt g hg).1, hi.2 g hg, (hi.1.lt g hg).2⟩
/-- Of what was there, the blocks that P names alone may have turned. -/
structure OnlyP (P : Nat → Prop) (w w' : World) : Prop where
  os : w'.os = w.os
  tape : w'.tape = w.tape
  output : w'.output = w.output
  size : w.heap.size ≤ w'.heap.size
  block : ∀ k, k < w.heap.size → ¬ P k → w'.heap[k]? = w.heap[k]?
theorem OnlyP.refl (P : Nat → Prop) (w : World) : OnlyP P w w := ⟨rfl, rfl, rfl, Nat.le_refl _, fun _ _ _ => rfl⟩
theorem OnlyP.trans {P : Nat → Prop} {a b c : World} (h : OnlyP P a b) (k : OnlyP P b c) : OnlyP P a c :=
  ⟨k.os.trans h.os, k.tape.trans h.tape, k.output.trans h.output, Nat.le_trans h.size k.size, fun i hi hb => (k.block i (Nat.lt_of_lt_of_le hi h.size) hb).trans (h.block i hi hb)⟩
theorem OnlyP.only {P : Nat → Prop} {a b : World} {lo hi : Nat} (h : OnlyP P a b) (hp : ∀ k, P k → lo ≤ k ∧ k < hi) : Only lo hi a b :=
  ⟨h.os, h.tape, h.output, h.size, fun i hi hb => h.block i hi (fun hP => by have := hp i hP; omega)⟩
theorem OnlyP.own {P : Nat → Prop} {w w' : World} (k : OnlyP P w w') {base : Nat} {e : TypeId} {v : Value} {n : Nat} {cs : List Value} (h : w.ownsRow base e 1 v n cs) (hb : ∀ g, v.ownBlock = some g → ¬ P g) : w'.ownsRow base e 1 v n cs := by
  obtain ⟨h1, h2⟩ := h
  refine ⟨h1, ?_⟩
  rcases h2 with h2 | ⟨g, cap, cur, rfl, hg, hh, rest⟩
  · exact .inl h2
  · have hlt : g < w.heap.size := by
      rcases Nat.lt_or_ge g w.heap.size with hlt | hge
      · exact hlt
      · rw [Array.getElem?_eq_none hge] at hh; cases hh
    exact .inr ⟨g, cap, cur, rfl, hg, (k.block g hlt (hb g rfl)).trans hh, rest⟩
theorem TabV.onlyP {P : Nat → Prop} {lo hi : Nat} {w w' : World} {v : Value} {vs : List Value} {xss : List (List Int)} (h : TabV lo hi w v vs xss) (k : OnlyP P w w') (hd : ∀ g, OwnsB v vs g → ¬ P g) : TabV lo hi w' v vs xss :=
  ⟨h.len, k.own h.out (fun g hg => hd g (.inl hg)), h.top, fun r u xs hu hx => ⟨k.own (h.row r u xs hu hx).1 (fun g hg => hd g (.inr ⟨r, u, hu, hg⟩)), (h.row r u xs hu hx).2⟩, h.apart, h.outer⟩

/-- Two lists of lists of a call's own, in the blocks from lo on below hi, that share no block. -/
def MachIn (lo hi : Nat) (w : World) (v v' : Value) (xss yss : List (List Int)) : Prop := lo ≤ hi ∧ ∃ vs vs', TabV lo hi w v vs xss ∧ TabV lo hi w v' vs' yss ∧ ∀ g, OwnsB v vs g → ¬ OwnsB v' vs' g
theorem MachIn.below {lo hi : Nat} {w w' : World} {v v' : Value} {xss yss : List (List Int)} (h : MachIn lo hi w v v' xss yss) (hb : Below w.heap.size w w') : MachIn lo hi w' v v' xss yss := by
  obtain ⟨h0, vs, vs', h1, h2, h3⟩ := h
  exact ⟨h0, vs, vs', h1.below hb, h2.below hb, h3⟩
theorem MachIn.only {lo hi lo' hi' : Nat} {w w' : World} {v v' : Value} {xss yss : List (List Int)} (h : MachIn lo hi w v v' xss yss) (ho : Only lo' hi' w w') (hd : hi ≤ lo' ∨ hi' ≤ lo) : MachIn lo hi w' v v' xss yss := by
  obtain ⟨h0, vs, vs', h1, h2, h3⟩ := h
  exact ⟨h0, vs, vs', h1.only ho hd, h2.only ho hd, h3⟩
theorem MachIn.wide {lo hi lo' hi' : Nat} {w : World} {v v' : Value} {xss yss : List (List Int)} (h : MachIn lo hi w v v' xss yss) (h1 : lo' ≤ lo) (h2 : hi ≤ hi') : MachIn lo' hi' w v v' xss yss := by
  obtain ⟨h0, vs, vs', h3, h4, h5⟩ := h
  exact ⟨by omega, vs, vs', h3.wide h1 h2, h4.wide h1 h2, h5⟩
theorem MachIn.of_tabs {lo mi hi : Nat} {w : World} {v v' : Value} {xss yss : List (List Int)} (h1 : lo ≤ mi) (h2 : mi ≤ hi) (t : TabIn lo mi w v xss) (t' : TabIn mi hi w v' yss) : MachIn lo hi w v v' xss yss := by
  obtain ⟨vs, t⟩ := t
  obtain ⟨vs', t'⟩ := t'
  exact ⟨by omega, vs, vs', t.wide (Nat.le_refl _) h2, t'.wide h1 (Nat.le_refl _), fun g hg hg' => by have := (t.own_lt hg).2.1; have := (t'.own_lt hg').1; omega⟩
theorem MachIn.rows {lo hi : Nat} {w : World} {A : Option Addr} {n c : Nat} {v' : Value} {xss yss : List (List Int)} (h : MachIn lo hi w (.slice A n c) v' xss yss) (hn : xss.length = n) : RowsAt w A n xss := by
  obtain ⟨_, vs, _, h5, _⟩ := h; exact TabIn.rows ⟨vs, h5⟩ hn
theorem MachIn.outs {lo hi : Nat} {w : World} {A : Option Addr} {n c : Nat} {v : Value} {xss yss : List (List Int)} (h : MachIn lo hi w v (.slice A n c) xss yss) (hn : yss.length = n) : RowsAt w A n yss := by
  obtain ⟨_, _, vs', _, h6, _⟩ := h; exact TabIn.rows ⟨vs', h6⟩ hn
theorem MachIn.form {lo hi : Nat} {w : World} {v v' : Value} {xss yss : List (List Int)} (h : MachIn lo hi w v v' xss yss) : (∃ A c, v = .slice A xss.length c) ∧ ∃ A c, v' = .slice A yss.length c := by
  obtain ⟨_, vs, vs', h5, h6, _⟩ := h; exact ⟨TabIn.form ⟨vs, h5⟩, TabIn.form ⟨vs', h6⟩⟩
theorem MachIn.setLow {lo hi : Nat} {w : World} {v v' : Value} {xss yss : List (List Int)} (h : MachIn lo hi w v v' xss yss) {p : Addr} (hp : p.block < lo) (u : Value) : MachIn lo hi (w.setCell p u) v v' xss yss :=
  h.only (lo' := p.block) (hi' := p.block + 1) ⟨rfl, rfl, rfl, Nat.le_of_eq (World.size_setCell ..).symm, fun i _ hb => heap_setCell_other w p i u (by omega)⟩ (.inr (by omega))
theorem mach_of_grids {w : World} {g n m : Nat} {xss yss : List (List Int)} (hn : xss.length = n) (hm : yss.length = m) (h : Grid w g xss) (h' : Grid w (g + 1 + n) yss) {lo hi : Nat} (h1 : lo ≤ g) (h2 : g + 2 + n + m ≤ hi) :
    MachIn lo hi w (.slice (some ⟨g, 0, none⟩) n n) (.slice (some ⟨g + 1 + n, 0, none⟩) m m) xss yss := by
  subst hn hm
  exact MachIn.of_tabs (mi := g + 1 + xss.length) (by omega) (by omega) ((tab_of_grid h).wide h1 (Nat.le_refl _)) ((tab_of_grid h').wide (Nat.le_refl _) (by omega))

set_option maxHeartbeats 2000000 in
theorem toMachine_any (s q : Int) (A : Option Addr) (n cap : Nat) (xss : List (List Int)) (B : Option Addr) (m cap' : Nat) (yss : List (List Int)) (w : World) (h : RowsAt w A n xss) (hn : n ≤ 1048576) (hrows : ∀ (r : Nat) (xs : List Int), xss[r]? = some xs → xs.length ≤ 1048576)
    (g : RowsAt w B m yss) (hm : m ≤ 1048576) (hrows' : ∀ (r : Nat) (xs : List Int), yss[r]? = some xs → xs.length ≤ 1048576) :
    Calls Tryd.prog 30 #[.agg #[.int .i64 s, .int .i64 q, .slice A n cap, .slice B m cap']] w fun e w' => e = .returned (.agg #[.int .i64 s, .int .i64 q, .slice (some ⟨w.heap.size + 3, 0, none⟩) n n, .slice (some ⟨w.heap.size + 4 + n, 0, none⟩) m m]) ∧
      MachIn w.heap.size w'.heap.size w' (.slice (some ⟨w.heap.size + 3, 0, none⟩) n n) (.slice (some ⟨w.heap.size + 4 + n, 0, none⟩) m m) xss yss ∧ Below w.heap.size w w' := by
  have HN := Lib.hid hn
  have HM := Lib.hid hm
  have HR := Lib.hid hrows
  have HR' := Lib.hid hrows'
  have HL := Lib.hid h.1
  have HL' := Lib.hid g.1
  clear hn hrows hm hrows'
  go_enter Tryd.func30, Tryd.ntmps30
  go_wp2_with fail
  obtain ⟨W1, hW1⟩ : ∃ W1, W1 = ((w.alloc (.cells #[.int .i64 s, .int .i64 q, .slice A n cap, .slice B m cap'] 56)).alloc (.cells #[.int .i64 0, .int .i64 0, .slice none 0 0, .slice none 0 0] 59)).alloc (.cells #[.int .i64 s, .int .i64 q, .slice none 0 0, .slice none 0 0] 59) := ⟨_, rfl⟩
  have hsz : W1.heap.size = w.heap.size + 3 := by rw [hW1]; simp
  have hb : Below w.heap.size w W1 := by rw [hW1]; go_grown
  have p0 : W1.heap[w.heap.size]? = some (.cells #[.int .i64 s, .int .i64 q, .slice A n cap, .slice B m cap'] 56 (0, 0)) := by
    rw [hW1, heap_alloc_old _ _ (by simp; omega), heap_alloc_old _ _ (by simp)]
    exact heap_alloc_new _ _
  have p1 : W1.heap[w.heap.size + 1]? = some (.cells #[.int .i64 0, .int .i64 0, .slice none 0 0, .slice none 0 0] 59 (0, 0)) := by
    rw [hW1, heap_alloc_old _ _ (by simp)]
    exact (by simpa using heap_alloc_new (w.alloc (.cells #[.int .i64 s, .int .i64 q, .slice A n cap, .slice B m cap'] 56)) (.cells #[.int .i64 0, .int .i64 0, .slice none 0 0, .slice none 0 0] 59))
  have p2 : W1.heap[w.heap.size + 2]? = some (.cells #[.int .i64 s, .int .i64 q, .slice none 0 0, .slice none 0 0] 59 (0, 0)) := by
    rw [hW1]
    exact (by simpa using heap_alloc_new ((w.alloc (.cells #[.int .i64 s, .int .i64 q, .slice A n cap, .slice B m cap'] 56)).alloc (.cells #[.int .i64 0, .int .i64 0, .slice none 0 0, .slice none 0 0] 59)) (.cells #[.int .i64 s, .int .i64 q, .slice none 0 0, .slice none 0 0] 59))
  rw [← hW1]
  have HB := Lib.hid hb
  have HX := Lib.hid (h.below hb)
  have HY := Lib.hid (g.below hb)
  have P0 := Lib.hid p0
  have P1 := Lib.hid p1
  have P2 := Lib.hid p2
  clear hW1 hb p0 p1 p2
  refine (toInt64SS_any _ _ _ xss W1 HX.out HN.out HR.out).mono ?_
  rintro e w2 ⟨rfl, hg, hb2, hz2⟩
  rw [hsz] at hg hz2 hb2 ⊢
  have q0 : w2.heap[w.heap.size]? = _ := (hb2.block _ (by omega)).trans P0.out
  have q1 : w2.heap[w.heap.size + 1]? = _ := (hb2.block _ (by omega)).trans P1.out
  have q2 : w2.heap[w.heap.size + 2]? = _ := (hb2.block _ (by omega)).trans P2.out
  have d3 : w2.cell? ⟨w.heap.size, 3, none⟩ = some (.slice B m cap') := cell_of_row _ _ 3 _ _ _ q0
  have e22 : w2.cell? ⟨w.heap.size + 2, 2, none⟩ = some (.slice none 0 0) := cell_of_row _ _ 2 _ _ _ q2
  have i22 : w2.frozen? ⟨w.heap.size + 2, 2, none⟩ = false := frozen_of_row _ _ 2 _ _ q2
  have hbb : Below (w.heap.size + 3) W1 w2 := hb2
  have HG := Lib.hid (hg.setLow (p := ⟨w.heap.size + 2, 2, none⟩) (by simp) (.slice (some ⟨w.heap.size + 3, 0, none⟩) n n))
  have b3 : Below w.heap.size w (w2.setCell ⟨w.heap.size + 2, 2, none⟩ (.slice (some ⟨w.heap.size + 3, 0, none⟩) n n)) := (HB.out.trans (hb2.mono (by omega))).setCell (by simp) _
  have s0 := heap_setCell_other w2 ⟨w.heap.size + 2, 2, none⟩ w.heap.size (.slice (some ⟨w.heap.size + 3, 0, none⟩) n n) (by simp)
  have s1 := heap_setCell_other w2 ⟨w.heap.size + 2, 2, none⟩ (w.heap.size + 1) (.slice (some ⟨w.heap.size + 3, 0, none⟩) n n) (by simp)
  have s2 := heap_setCell_same w2 (w.heap.size + 2) 2 _ _ (.slice (some ⟨w.heap.size + 3, 0, none⟩) n n) q2
  rw [q0] at s0
  rw [q1] at s1
  have hz3 : (w2.setCell ⟨w.heap.size + 2, 2, none⟩ (.slice (some ⟨w.heap.size + 3, 0, none⟩) n n)).heap.size = w.heap.size + 4 + n := by rw [World.size_setCell, hz2]
  have HY2 := Lib.hid (g.below b3)
  have HB3 := Lib.hid b3
  have S0 := Lib.hid s0
  have S1 := Lib.hid s1
  have S2 := Lib.hid s2
  have HZ3 := Lib.hid hz3
  clear q0 q1 q2 hbb hb2 hz2 s0 s1 s2 hz3 b3 hg
  go_wp2_with fail
  clear d3 e22 i22
  obtain ⟨w3, hw3⟩ : ∃ w3, w3 = w2.setCell ⟨w.heap.size + 2, 2, none⟩ (.slice (some ⟨w.heap.size + 3, 0, none⟩) n n) := ⟨_, rfl⟩
  rw [← hw3] at HG HY2 HB3 S0 S1 S2 HZ3 ⊢
  clear hw3
  refine (toInt64SS_any _ _ _ yss w3 HY2.out HM.out HR'.out).mono ?_
  rintro e w4 ⟨rfl, hg4, hb4, hz4⟩
  have hz3 := HZ3.out
  rw [hz3] at hg4 hz4 hb4 ⊢
  have q0 := (hb4.block w.heap.size (by omega)).trans S0.out
  have q1 := (hb4.block (w.heap.size + 1) (by omega)).trans S1.out
  have q2 := (hb4.block (w.heap.size + 2) (by omega)).trans S2.out
  have e23 : w4.cell? ⟨w.heap.size + 2, 3, none⟩ = some (.slice none 0 0) := cell_of_row _ _ 3 _ _ _ q2
  have i23 : w4.frozen? ⟨w.heap.size + 2, 3, none⟩ = false := frozen_of_row _ _ 3 _ _ q2
  have e20 : w4.cell? ⟨w.heap.size + 2, 0, none⟩ = some (.int .i64 s) := cell_of_row _ _ 0 _ _ _ q2
  have e21 : w4.cell? ⟨w.heap.size + 2, 1, none⟩ = some (.int .i64 q) := cell_of_row _ _ 1 _ _ _ q2
  have e22 : w4.cell? ⟨w.heap.size + 2, 2, none⟩ = some (.slice (some ⟨w.heap.size + 3, 0, none⟩) n n) := cell_of_row _ _ 2 _ _ _ q2
  have e10 : w4.cell? ⟨w.heap.size + 1, 0, none⟩ = some (.int .i64 0) := cell_of_row _ _ 0 _ _ _ q1
  have e11 : w4.cell? ⟨w.heap.size + 1, 1, none⟩ = some (.int .i64 0) := cell_of_row _ _ 1 _ _ _ q1
  have e12 : w4.cell? ⟨w.heap.size + 1, 2, none⟩ = some (.slice none 0 0) := cell_of_row _ _ 2 _ _ _ q1
  have e13 : w4.cell? ⟨w.heap.size + 1, 3, none⟩ = some (.slice none 0 0) := cell_of_row _ _ 3 _ _ _ q1
  have i10 : w4.frozen? ⟨w.heap.size + 1, 0, none⟩ = false := frozen_of_row _ _ 0 _ _ q1
  have i11 : w4.frozen? ⟨w.heap.size + 1, 1, none⟩ = false := frozen_of_row _ _ 1 _ _ q1
  have i12 : w4.frozen? ⟨w.heap.size + 1, 2, none⟩ = false := frozen_of_row _ _ 2 _ _ q1
  have i13 : w4.frozen? ⟨w.heap.size + 1, 3, none⟩ = false := frozen_of_row _ _ 3 _ _ q1
  have HG1 := Lib.hid (mach_of_grids HL.out HL'.out (HG.out.below (hb4.mono (by omega))) (show Grid w4 (w.heap.size + 3 + 1 + n) yss from hg4) (lo := w.heap.size + 3) (hi := w4.heap.size) (by omega) (by omega))
  have HB4 := Lib.hid (HB3.out.trans (hb4.mono (by omega)))
  clear q0 q1 q2 hg4 hb4 hz4 hz3 HG
  go_wp2_with fail
  refine bodyPost_ret (v := .agg #[.int .i64 s, .int .i64 q, .slice (some ⟨w.heap.size + 3, 0, none⟩) n n, .slice (some ⟨w.heap.size + 4 + n, 0, none⟩) m m]) (by simp [results, Tryd.results30, go_sem, e10, e11, e12, e13]) rfl ⟨rfl, ?_, ?_⟩
  · simp only [World.size_setCell]
    exact (((((HG1.out.setLow (by simp) _).setLow (by simp) _).setLow (by simp) _).setLow (by simp) _).setLow (by simp) _).wide (by omega) (Nat.le_refl _)
  · exact (((((HB4.out.setCell (by simp <;> omega) _).setCell (by simp <;> omega) _).setCell (by simp <;> omega) _).setCell (by simp <;> omega) _).setCell (by simp <;> omega) _)

set_option maxHeartbeats 1000000 in
theorem eqMachine_t (s q : Int) (A A' : Option Addr) (n n' cap cap' : Nat) (xss : List (List Int)) (B B' : Option Addr) (m m' d d' : Nat) (yss : List (List Int)) (w : World) (h : RowsAt w A n xss) (h' : RowsAt w A' n' xss) (hn : n ≤ 4611686018427387904) (hn' : n' ≤ 4611686018427387904)
    (hrows : ∀ (r : Nat) (xs : List Int), xss[r]? = some xs → xs.length ≤ 4611686018427387904) (g : RowsAt w B m yss) (g' : RowsAt w B' m' yss) (hm : m ≤ 4611686018427387904) (hm' : m' ≤ 4611686018427387904) (houts : ∀ (r : Nat) (xs : List Int), yss[r]? = some xs → xs.length ≤ 4611686018427387904) :
    Calls Tryd.prog 32 #[.agg #[.int .i64 s, .int .i64 q, .slice A n cap, .slice B m d], .agg #[.int .i64 s, .int .i64 q, .slice A' n' cap', .slice B' m' d']] w fun e w' => e = .returned (.bool true) ∧ Below w.heap.size w w' := by
  have HR := Lib.hid hrows
  have HO := Lib.hid houts
  clear hrows houts
  go_enter Tryd.func32, Tryd.ntmps32
  go_wp2_with fail
  obtain ⟨w0, hw0⟩ : ∃ w0, w0 = (w.alloc (.cells #[.int .i64 s, .int .i64 q, .slice A n cap, .slice B m d] 59)).alloc (.cells #[.int .i64 s, .int .i64 q, .slice A' n' cap', .slice B' m' d'] 59) := ⟨_, rfl⟩
  have b0 : Below w.heap.size w w0 := by rw [hw0]; go_grown
  have x2 : w0.cell? ⟨w.heap.size, 3, none⟩ = some (.slice B m d) := by rw [hw0]; go_cell
  have x3 : w0.cell? ⟨w.heap.size + 1, 3, none⟩ = some (.slice B' m' d') := by rw [hw0]; go_cell
  rw [← hw0]
  clear hw0
  refine (eqInt64SS_any _ _ _ _ _ _ xss xss _ (h.below b0) (h'.below b0) hn hn' HR.out HR.out).mono ?_
  rw [sameR_t rfl]
  rintro e w2 ⟨rfl, k, rfl⟩
  have b2 : Below w.heap.size w (w0.drewN k) := below_drewN' b0 _
  go_wp2_with fail
  refine (eqInt64SS_any _ _ _ _ _ _ yss yss _ (g.below b2) (g'.below b2) hm hm' HO.out HO.out).mono ?_
  rw [sameR_t rfl]
  rintro e w3 ⟨rfl, k', rfl⟩
  go_wp2_with fail
  go_ret
  exact ⟨rfl, by rw [← World.drewN_drewN]; exact below_drewN' b2 _⟩

theorem cells_mach : Tryd.prog.cellsOf 56 = 4 := by kernel_rfl

set_option maxRecDepth 100000 in
theorem mach_of_trod {H : Type} {enc : TypeId × Value → H} {W : World} {base b0 : Nat} {held : Bool} {r : Reach} {v : Value} {d : DataW H} {p : List MemPlace} (hv : Value.okWide Tryd.prog W r b0 56 v)
    (h : DataW.Trod enc Tryd.prog W base (fun _ => true) held 56 v d p) :
    ∃ s q A n c xss B m e yss, v = .agg #[.int .i64 s, .int .i64 q, .slice A n c, .slice B m e] ∧ RowsAt W A n xss ∧ n ≤ 9223372036854775807 ∧ (∀ (r : Nat) (xs : List Int), xss[r]? = some xs → xs.length ≤ 9223372036854775807) ∧
      RowsAt W B m yss ∧ m ≤ 9223372036854775807 ∧ (∀ (r : Nat) (xs : List Int), yss[r]? = some xs → xs.length ≤ 9223372036854775807) := by
  obtain ⟨v0, v1, v2, v3, y0, y1, y2, y3, k, rfl, _, _, h0, h1, h2, h3⟩ := Go.Joins.open_agg4 Tryd.underlying56 (by kernel_rfl) cells_mach hv h
  obtain ⟨s, e0, _, _⟩ := DataW.trod_int Tryd.underlying2 h0
  obtain ⟨q, e1, _, _⟩ := DataW.trod_int Tryd.underlying2 h1
  obtain ⟨A, n, c, xss, e2, hr, hn, hw⟩ := rows_of_trod h2
  obtain ⟨B, m, c', yss, e3, hr', hm, hw'⟩ := rows_of_trod h3
  simp only [List.cons.injEq, and_true] at e0 e1 e2 e3
  subst e0 e1 e2 e3
  exact ⟨s, q, A, n, c, xss, B, m, c', yss, rfl, hr, hn, hw, hr', hm, hw'⟩

end Go.Proofs.YtogbglbmkkbhcaaDoor
