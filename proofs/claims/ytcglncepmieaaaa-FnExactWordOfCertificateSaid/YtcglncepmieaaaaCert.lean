/-
  Certificates as the laws hold them: the contracts of what the laws do with them.
-/
import Derived.Test.YtcglncepmieaaaaLaw
namespace Go.Proofs.Ytcglncepmieaaaa
open Go.RowKit Go.Deep Go.ChangeShapes Go.WideShapes

/-- What szCertificate tells of both tables. -/
def Sized2 (xss yss : List (List Int)) (left r : Int) : Prop := ∃ q : Int, SizedTo xss left q ∧ ((q < 0 ∧ r = -1) ∨ (0 ≤ q ∧ SizedTo yss q r))
theorem Sized2.first {xss yss : List (List Int)} {left r : Int} (h : Sized2 xss yss left r) (hr : ¬ r < 0) : ∃ q : Int, SizedTo xss left q ∧ 0 ≤ q ∧ q ≤ left ∧ SizedTo yss q r := by
  obtain ⟨q, h1, h2 | ⟨h2, h3⟩⟩ := h
  · exact absurd h2.2 (by omega)
  · exact ⟨q, h1, h2, by rcases h1 with h | ⟨_, h⟩ <;> omega, h3⟩
theorem sized2_left {xss yss : List (List Int)} {left r : Int} (h : Sized2 xss yss left r) (hr : ¬ r < 0) : 0 ≤ r ∧ r ≤ left := by
  obtain ⟨q, h1, h2, h3, h4⟩ := h.first hr
  have := sized_left h4 hr
  omega
theorem sized2_n {xss yss : List (List Int)} {left r : Int} {n : Nat} (h : Sized2 xss yss left r) (hl : left ≤ 1048576) (hr : ¬ r < 0) (hn : xss.length = n) : n ≤ 1048576 := by
  obtain ⟨q, h1, h2, h3, h4⟩ := h.first hr
  exact sized_n' h1 hl (by omega) hn
theorem sized2_rows {xss yss : List (List Int)} {left r : Int} (h : Sized2 xss yss left r) (hl : left ≤ 1048576) (hr : ¬ r < 0) : ∀ (k : Nat) (xs : List Int), xss[k]? = some xs → xs.length ≤ 1048576 := by
  obtain ⟨q, h1, h2, h3, h4⟩ := h.first hr
  exact sized_rows' h1 hl (by omega)
theorem sized2_m {xss yss : List (List Int)} {left r : Int} {n : Nat} (h : Sized2 xss yss left r) (hl : left ≤ 1048576) (hr : ¬ r < 0) (hn : yss.length = n) : n ≤ 1048576 := by
  obtain ⟨q, h1, h2, h3, h4⟩ := h.first hr
  exact sized_n' h4 (by omega) hr hn
theorem sized2_outs {xss yss : List (List Int)} {left r : Int} (h : Sized2 xss yss left r) (hl : left ≤ 1048576) (hr : ¬ r < 0) : ∀ (k : Nat) (xs : List Int), yss[k]? = some xs → xs.length ≤ 1048576 := by
  obtain ⟨q, h1, h2, h3, h4⟩ := h.first hr
  exact sized_rows' h4 (by omega) hr
theorem sized2_sum {xss yss : List (List Int)} {left r : Int} (h : Sized2 xss yss left r) (hl : left ≤ 1048576) (hr : ¬ r < 0) : sumLens xss + sumLens yss ≤ 1048576 := by
  obtain ⟨q, h1, h2, h3, h4⟩ := h.first hr
  rcases h1 with h | ⟨_, h⟩
  · omega
  · rcases h4 with h' | ⟨_, h'⟩ <;> omega

theorem szCertificate_any (s : Int) (A : Option Addr) (n cap : Nat) (xss : List (List Int)) (B : Option Addr) (m cap' : Nat) (yss : List (List Int)) (left : Int) (w : World) (h : RowsAt w A n xss) (hn : n ≤ 9223372036854775807) (hrows : ∀ (r : Nat) (xs : List Int), xss[r]? = some xs → xs.length ≤ 9223372036854775807)
    (g : RowsAt w B m yss) (hm : m ≤ 9223372036854775807) (hrows' : ∀ (r : Nat) (xs : List Int), yss[r]? = some xs → xs.length ≤ 9223372036854775807) (h0 : 0 ≤ left) (h1 : left ≤ 4611686018427387904) :
    Calls Try.prog 34 #[.agg #[.int .i64 s, .slice A n cap, .slice B m cap'], .int .i64 left] w fun e w' => ∃ r : Int, e = .returned (.int .i64 r) ∧ Sized2 xss yss left r ∧ Below w.heap.size w w' := by
  have HR := Lib.hid hrows
  have HR' := Lib.hid hrows'
  clear hrows hrows'
  go_enter Try.func34, Try.ntmps34
  go_wp2_with fail
  refine (szInt64SS_any _ _ _ xss _ _ (h.below ((Below.refl _ _).alloc (Nat.le_refl _) _)) hn HR.out h0 h1).mono ?_
  rintro e w' ⟨r, rfl, hr, rfl⟩
  have HR2 := Lib.hid hr
  by_cases hneg : r < 0
  · have hr1 : r = -1 := by rcases hr with h | h <;> omega
    subst hr1
    clear hr
    go_wp2_with fail
    go_ret
    exact ⟨-1, rfl, ⟨-1, HR2.out, .inl ⟨by omega, rfl⟩⟩, (Below.refl _ _).alloc (Nat.le_refl _) _⟩
  · have hr0 : 0 ≤ r := by omega
    have hr1 : r ≤ left := by rcases hr with h | ⟨_, h⟩ <;> omega
    clear hr
    go_wp2_with fail
    refine (szInt64SS_any _ _ _ yss _ _ (g.below ((Below.refl _ _).alloc (Nat.le_refl _) _)) hm HR'.out hr0 (by omega)).mono ?_
    rintro e w' ⟨r', rfl, hr', rfl⟩
    have HR3 := Lib.hid hr'
    by_cases hneg' : r' < 0
    · have hr1 : r' = -1 := by rcases hr' with h | h <;> omega
      subst hr1
      clear hr'
      go_wp2_with fail
      go_ret
      exact ⟨-1, rfl, ⟨r, HR2.out, .inr ⟨hr0, HR3.out⟩⟩, (Below.refl _ _).alloc (Nat.le_refl _) _⟩
    · clear hr'
      go_wp2_with fail
      go_ret
      exact ⟨r', rfl, ⟨r, HR2.out, .inr ⟨hr0, HR3.out⟩⟩, (Below.refl _ _).alloc (Nat.le_refl _) _⟩

/-- The blocks of a list of lists. -/
def OwnsB (v : Value) (vs : List Value) (g : Nat) : Prop := v.ownBlock = some g ∨ ∃ (r : Nat) (u : Value), vs[r]? = some u ∧ u.ownBlock = some g
theorem TabV.own_lt {lo hi : Nat} {w : World} {v : Value} {vs : List Value} {xss : List (List Int)} (h : TabV lo hi w v vs xss) {g : Nat} (hg : OwnsB v vs g) : lo ≤ g ∧ g < hi ∧ g < w.heap.size := by
  rcases hg with hg | ⟨r, u, hu, hg⟩
  · exact ⟨(h.out.lt g hg).1, h.top g hg, (h.out.lt g hg).2⟩
  · have hl := h.len
    have hr : r < vs.length := by
      rcases Nat.lt_or_ge r vs.length with h | h
      · exact h
      · rw [List.getElem?_eq_none h] at hu; cases hu
    have hi := h.row r u _ hu (List.getElem?_eq_getElem (by omega))
    exact ⟨(hi.1.lt g hg).1, hi.2 g hg, (hi.1.lt g hg).2⟩
/-- Of what was there, the blocks that P names alone may have turned. -/
structure OnlyP (P : Nat → Prop) (w w' : World) : Prop where
  os : w'.os = w.os
  tape : w'.tape = w.tape
  output : w'.output = w.output
  size : w.heap.size ≤ w'.heap.size
  block : ∀ k, k < w.heap.size → ¬ P k → w'.heap[k]? = w.heap[k]?
theorem OnlyP.refl (P : Nat → Prop) (w : World) : OnlyP P w w := ⟨rfl, rfl, rfl, Nat.le_refl _, fun _ _ _ => rfl⟩
theorem OnlyP.trans {P : Nat → Prop} {a b c : World} (h : OnlyP P a b) (k : OnlyP P b c) : OnlyP P a c :=
  ⟨k.os.trans h.os, k.tape.trans h.tape, k.output.trans h.output, Nat.le_trans h.size k.size, fun i hi hb => (k.block i (Nat.lt_of_lt_of_le hi h.size) hb).trans (h.block i hi hb)⟩
theorem OnlyP.only {P : Nat → Prop} {a b : World} {lo hi : Nat} (h : OnlyP P a b) (hp : ∀ k, P k → lo ≤ k ∧ k < hi) : Only lo hi a b :=
  ⟨h.os, h.tape, h.output, h.size, fun i hi hb => h.block i hi (fun hP => by have := hp i hP; omega)⟩
theorem OnlyP.own {P : Nat → Prop} {w w' : World} (k : OnlyP P w w') {base : Nat} {e : TypeId} {v : Value} {n : Nat} {cs : List Value} (h : w.ownsRow base e 1 v n cs) (hb : ∀ g, v.ownBlock = some g → ¬ P g) : w'.ownsRow base e 1 v n cs := by
  obtain ⟨h1, h2⟩ := h
  refine ⟨h1, ?_⟩
  rcases h2 with h2 | ⟨g, cap, cur, rfl, hg, hh, rest⟩
  · exact .inl h2
  · have hlt : g < w.heap.size := by
      rcases Nat.lt_or_ge g w.heap.size with hlt | hge
      · exact hlt
      · rw [Array.getElem?_eq_none hge] at hh; cases hh
    exact .inr ⟨g, cap, cur, rfl, hg, (k.block g hlt (hb g rfl)).trans hh, rest⟩
theorem TabV.onlyP {P : Nat → Prop} {lo hi : Nat} {w w' : World} {v : Value} {vs : List Value} {xss : List (List Int)} (h : TabV lo hi w v vs xss) (k : OnlyP P w w') (hd : ∀ g, OwnsB v vs g → ¬ P g) : TabV lo hi w' v vs xss :=
  ⟨h.len, k.own h.out (fun g hg => hd g (.inl hg)), h.top, fun r u xs hu hx => ⟨k.own (h.row r u xs hu hx).1 (fun g hg => hd g (.inr ⟨r, u, hu, hg⟩)), (h.row r u xs hu hx).2⟩, h.apart, h.outer⟩

set_option maxHeartbeats 1000000 in
/-- Marking a list of lists turns its own blocks alone. -/
theorem markTabV_in (lo hi n c : Nat) (A : Option Addr) (vs : List Value) (xss : List (List Int)) (k0 : Int) (w : World) (h : TabV lo hi w (.slice A n c) vs xss) (hl : xss.length = n) (hk0 : 0 ≤ k0) (hn : n ≤ 1048576) (hs : k0 + (sumLens xss : Int) ≤ 4611686018427387904) :
    Calls Try.prog 18 #[.slice A n c, .int .i64 k0] w fun e w' => e = .returned (.int .i64 (k0 + (sumLens xss : Int))) ∧ OnlyP (OwnsB (.slice A n c) vs) w w' ∧ TabV lo hi w' (.slice A n c) vs (marksT k0 xss) ∧ w'.heap.size = w.heap.size := by
  have HL := Lib.hid hl
  have HN := Lib.hid hn
  have hn' : n ≤ 4611686018427387904 := by omega
  have HS := Lib.hid hs
  have HT := Lib.hid h
  clear hl hn hs h
  go_enter Try.func18, Try.ntmps18
  go_wp2_with fail
  go_loopw [1, 5] (fun kv i wr => ∃ j : Nat, j ≤ n ∧ i = .int .i64 j ∧ kv = .int .i64 (k0 + (sumLens (xss.take j) : Int)) ∧ OnlyP (OwnsB (.slice A n c) vs) w wr ∧ TabV lo hi wr (.slice A n c) vs (marksTo j k0 xss) ∧ wr.heap.size = w.heap.size) (fun _ i _ => n - (intOf i).toNat)
  case atStart => exact ⟨0, Nat.zero_le _, rfl, by simp [sumLens], OnlyP.refl _ _, by rw [marksTo_0]; exact HT.out, rfl⟩
  case round =>
    obtain ⟨j, hj, rfl, rfl, hon, htab, hsz⟩ := hrel
    have HO := Lib.hid hon
    have HB := Lib.hid htab
    have HZ := Lib.hid hsz
    clear hon hsz htab
    by_cases hlt : j < n
    · obtain ⟨g, u, rfl, hu, hc⟩ := HB.out.cell (r := j) (by rw [marksTo_len, HL.out]; exact hlt)
      obtain ⟨xs, hx⟩ : ∃ xs, xss[j]? = some xs := ⟨xss[j]'(by rw [HL.out]; exact hlt), List.getElem?_eq_getElem (by rw [HL.out]; exact hlt)⟩
      have hrow := HB.out.row j u xs hu (marksTo_at hx)
      obtain ⟨A', c', rfl⟩ := hrow.form
      have HX := Lib.hid hx
      have HU := Lib.hid hu
      have HR := Lib.hid hrow
      have hj0 : (0 : Int) ≤ (j : Int) := by omega
      have hjn : (j : Int) < (n : Int) := by omega
      have hsum := sumLens_snoc hx
      have hsum2 := sumLens_take xss (j + 1)
      have hs := HS.out
      have hb1 : 0 ≤ k0 + (sumLens (xss.take j) : Int) := by omega
      have hb2 : k0 + (sumLens (xss.take j) : Int) + (xs.length : Int) ≤ 4611686018427387904 := by omega
      have HQ := Lib.hid hsum
      clear hx hu hrow hsum hsum2 hs
      go_wp2_with fail
      refine (markInt64S_any lo A' xs.length c' _ _ wr HR.out.1 hb1 hb2).mono ?_
      rintro e w1 ⟨rfl, o1, g1, z1⟩
      have hi1 : IntsIn lo hi w1 (.slice A' xs.length c') (marks (k0 + (sumLens (xss.take j) : Int)) xs.length) := ⟨by rw [marks_length]; exact o1, HR.out.2⟩
      have HB1 := Lib.hid (HB.out.set HU.out (marksTo_at HX.out) g1 hi1)
      have HO1 := Lib.hid (HO.out.trans (show OnlyP (OwnsB (.slice (some ⟨g, 0, none⟩) n c) vs) wr w1 from ⟨g1.os, g1.tape, g1.output, g1.size, fun k hk hb => g1.block k hk (fun e => hb (.inr ⟨j, _, HU.out, e.symm⟩))⟩))
      have HZ1 := Lib.hid (z1.trans HZ.out)
      clear o1 g1 z1 hi1
      go_wp2_with fail
      go_roundw
      case rel => exact ⟨j + 1, by omega, by go_num, by rw [HQ.out]; go_num, HO1.out, by rw [← marksTo_step HX.out]; exact HB1.out, HZ1.out⟩
      case measure => simp [intOf]; omega
    · go_wp2
      go_ret
      have hjn : j = n := by omega
      subst hjn
      exact ⟨ret_int (by rw [List.take_of_length_le (Nat.le_of_eq HL.out)]), HO.out, by rw [← marksTo_all HL.out]; exact HB.out, HZ.out⟩

/-- Two lists of lists of a call's own, in the blocks from lo on below hi, that share no block. -/
def MachIn (lo hi : Nat) (w : World) (v v' : Value) (xss yss : List (List Int)) : Prop := lo ≤ hi ∧ ∃ vs vs', TabV lo hi w v vs xss ∧ TabV lo hi w v' vs' yss ∧ ∀ g, OwnsB v vs g → ¬ OwnsB v' vs' g
theorem MachIn.below {lo hi : Nat} {w w' : World} {v v' : Value} {xss yss : List (List Int)} (h : MachIn lo hi w v v' xss yss) (hb : Below w.heap.size w w') : MachIn lo hi w' v v' xss yss := by
  obtain ⟨h0, vs, vs', h1, h2, h3⟩ := h
  exact ⟨h0, vs, vs', h1.below hb, h2.below hb, h3⟩
theorem MachIn.only {lo hi lo' hi' : Nat} {w w' : World} {v v' : Value} {xss yss : List (List Int)} (h : MachIn lo hi w v v' xss yss) (ho : Only lo' hi' w w') (hd : hi ≤ lo' ∨ hi' ≤ lo) : MachIn lo hi w' v v' xss yss := by
  obtain ⟨h0, vs, vs', h1, h2, h3⟩ := h
  exact ⟨h0, vs, vs', h1.only ho hd, h2.only ho hd, h3⟩
theorem MachIn.wide {lo hi lo' hi' : Nat} {w : World} {v v' : Value} {xss yss : List (List Int)} (h : MachIn lo hi w v v' xss yss) (h1 : lo' ≤ lo) (h2 : hi ≤ hi') : MachIn lo' hi' w v v' xss yss := by
  obtain ⟨h0, vs, vs', h3, h4, h5⟩ := h
  exact ⟨by omega, vs, vs', h3.wide h1 h2, h4.wide h1 h2, h5⟩
theorem MachIn.of_tabs {lo mi hi : Nat} {w : World} {v v' : Value} {xss yss : List (List Int)} (h1 : lo ≤ mi) (h2 : mi ≤ hi) (t : TabIn lo mi w v xss) (t' : TabIn mi hi w v' yss) : MachIn lo hi w v v' xss yss := by
  obtain ⟨vs, t⟩ := t
  obtain ⟨vs', t'⟩ := t'
  exact ⟨by omega, vs, vs', t.wide (Nat.le_refl _) h2, t'.wide h1 (Nat.le_refl _), fun g hg hg' => by have := (t.own_lt hg).2.1; have := (t'.own_lt hg').1; omega⟩
theorem MachIn.rows {lo hi : Nat} {w : World} {A : Option Addr} {n c : Nat} {v' : Value} {xss yss : List (List Int)} (h : MachIn lo hi w (.slice A n c) v' xss yss) (hn : xss.length = n) : RowsAt w A n xss := by
  obtain ⟨_, vs, _, h5, _⟩ := h; exact TabIn.rows ⟨vs, h5⟩ hn
theorem MachIn.outs {lo hi : Nat} {w : World} {A : Option Addr} {n c : Nat} {v : Value} {xss yss : List (List Int)} (h : MachIn lo hi w v (.slice A n c) xss yss) (hn : yss.length = n) : RowsAt w A n yss := by
  obtain ⟨_, _, vs', _, h6, _⟩ := h; exact TabIn.rows ⟨vs', h6⟩ hn
theorem MachIn.form {lo hi : Nat} {w : World} {v v' : Value} {xss yss : List (List Int)} (h : MachIn lo hi w v v' xss yss) : (∃ A c, v = .slice A xss.length c) ∧ ∃ A c, v' = .slice A yss.length c := by
  obtain ⟨_, vs, vs', h5, h6, _⟩ := h; exact ⟨TabIn.form ⟨vs, h5⟩, TabIn.form ⟨vs', h6⟩⟩
theorem MachIn.setLow {lo hi : Nat} {w : World} {v v' : Value} {xss yss : List (List Int)} (h : MachIn lo hi w v v' xss yss) {p : Addr} (hp : p.block < lo) (u : Value) : MachIn lo hi (w.setCell p u) v v' xss yss :=
  h.only (lo' := p.block) (hi' := p.block + 1) ⟨rfl, rfl, rfl, Nat.le_of_eq (World.size_setCell ..).symm, fun i _ hb => heap_setCell_other w p i u (by omega)⟩ (.inr (by omega))
theorem mach_of_grids {w : World} {g n m : Nat} {xss yss : List (List Int)} (hn : xss.length = n) (hm : yss.length = m) (h : Grid w g xss) (h' : Grid w (g + 1 + n) yss) {lo hi : Nat} (h1 : lo ≤ g) (h2 : g + 2 + n + m ≤ hi) :
    MachIn lo hi w (.slice (some ⟨g, 0, none⟩) n n) (.slice (some ⟨g + 1 + n, 0, none⟩) m m) xss yss := by
  subst hn hm
  exact MachIn.of_tabs (mi := g + 1 + xss.length) (by omega) (by omega) ((tab_of_grid h).wide h1 (Nat.le_refl _)) ((tab_of_grid h').wide (Nat.le_refl _) (by omega))

set_option maxHeartbeats 2000000 in
theorem toCertificate_any (s : Int) (A : Option Addr) (n cap : Nat) (xss : List (List Int)) (B : Option Addr) (m cap' : Nat) (yss : List (List Int)) (w : World) (h : RowsAt w A n xss) (hn : n ≤ 1048576) (hrows : ∀ (r : Nat) (xs : List Int), xss[r]? = some xs → xs.length ≤ 1048576)
    (g : RowsAt w B m yss) (hm : m ≤ 1048576) (hrows' : ∀ (r : Nat) (xs : List Int), yss[r]? = some xs → xs.length ≤ 1048576) :
    Calls Try.prog 36 #[.agg #[.int .i64 s, .slice A n cap, .slice B m cap']] w fun e w' => e = .returned (.agg #[.int .i64 s, .slice (some ⟨w.heap.size + 3, 0, none⟩) n n, .slice (some ⟨w.heap.size + 4 + n, 0, none⟩) m m]) ∧
      MachIn w.heap.size w'.heap.size w' (.slice (some ⟨w.heap.size + 3, 0, none⟩) n n) (.slice (some ⟨w.heap.size + 4 + n, 0, none⟩) m m) xss yss ∧ Below w.heap.size w w' := by
  have HN := Lib.hid hn
  have HM := Lib.hid hm
  have HR := Lib.hid hrows
  have HR' := Lib.hid hrows'
  have HL := Lib.hid h.1
  have HL' := Lib.hid g.1
  clear hn hrows hm hrows'
  go_enter Try.func36, Try.ntmps36
  go_wp2_with fail
  obtain ⟨W1, hW1⟩ : ∃ W1, W1 = ((w.alloc (.cells #[.int .i64 s, .slice A n cap, .slice B m cap'] 46)).alloc (.cells #[.int .i64 0, .slice none 0 0, .slice none 0 0] 41)).alloc (.cells #[.int .i64 s, .slice none 0 0, .slice none 0 0] 41) := ⟨_, rfl⟩
  have hsz : W1.heap.size = w.heap.size + 3 := by rw [hW1]; simp
  have hb : Below w.heap.size w W1 := by rw [hW1]; go_grown
  have p0 : W1.heap[w.heap.size]? = some (.cells #[.int .i64 s, .slice A n cap, .slice B m cap'] 46 (0, 0)) := by
    rw [hW1, heap_alloc_old _ _ (by simp; omega), heap_alloc_old _ _ (by simp)]
    exact heap_alloc_new _ _
  have p1 : W1.heap[w.heap.size + 1]? = some (.cells #[.int .i64 0, .slice none 0 0, .slice none 0 0] 41 (0, 0)) := by
    rw [hW1, heap_alloc_old _ _ (by simp)]
    exact (by simpa using heap_alloc_new (w.alloc (.cells #[.int .i64 s, .slice A n cap, .slice B m cap'] 46)) (.cells #[.int .i64 0, .slice none 0 0, .slice none 0 0] 41))
  have p2 : W1.heap[w.heap.size + 2]? = some (.cells #[.int .i64 s, .slice none 0 0, .slice none 0 0] 41 (0, 0)) := by
    rw [hW1]
    exact (by simpa using heap_alloc_new ((w.alloc (.cells #[.int .i64 s, .slice A n cap, .slice B m cap'] 46)).alloc (.cells #[.int .i64 0, .slice none 0 0, .slice none 0 0] 41)) (.cells #[.int .i64 s, .slice none 0 0, .slice none 0 0] 41))
  rw [← hW1]
  have HB := Lib.hid hb
  have HX := Lib.hid (h.below hb)
  have HY := Lib.hid (g.below hb)
  have P0 := Lib.hid p0
  have P1 := Lib.hid p1
  have P2 := Lib.hid p2
  clear hW1 hb p0 p1 p2
  refine (toInt64SS_any _ _ _ xss W1 HX.out HN.out HR.out).mono ?_
  rintro e w2 ⟨rfl, hg, hb2, hz2⟩
  rw [hsz] at hg hz2 hb2 ⊢
  have q0 : w2.heap[w.heap.size]? = _ := (hb2.block _ (by omega)).trans P0.out
  have q1 : w2.heap[w.heap.size + 1]? = _ := (hb2.block _ (by omega)).trans P1.out
  have q2 : w2.heap[w.heap.size + 2]? = _ := (hb2.block _ (by omega)).trans P2.out
  have d3 : w2.cell? ⟨w.heap.size, 2, none⟩ = some (.slice B m cap') := cell_of_row _ _ 2 _ _ _ q0
  have e22 : w2.cell? ⟨w.heap.size + 2, 1, none⟩ = some (.slice none 0 0) := cell_of_row _ _ 1 _ _ _ q2
  have i22 : w2.frozen? ⟨w.heap.size + 2, 1, none⟩ = false := frozen_of_row _ _ 1 _ _ q2
  have hbb : Below (w.heap.size + 3) W1 w2 := hb2
  have HG := Lib.hid (hg.setLow (p := ⟨w.heap.size + 2, 1, none⟩) (by simp) (.slice (some ⟨w.heap.size + 3, 0, none⟩) n n))
  have b3 : Below w.heap.size w (w2.setCell ⟨w.heap.size + 2, 1, none⟩ (.slice (some ⟨w.heap.size + 3, 0, none⟩) n n)) := (HB.out.trans (hb2.mono (by omega))).setCell (by simp) _
  have s0 := heap_setCell_other w2 ⟨w.heap.size + 2, 1, none⟩ w.heap.size (.slice (some ⟨w.heap.size + 3, 0, none⟩) n n) (by simp)
  have s1 := heap_setCell_other w2 ⟨w.heap.size + 2, 1, none⟩ (w.heap.size + 1) (.slice (some ⟨w.heap.size + 3, 0, none⟩) n n) (by simp)
  have s2 := heap_setCell_same w2 (w.heap.size + 2) 1 _ _ (.slice (some ⟨w.heap.size + 3, 0, none⟩) n n) q2
  rw [q0] at s0
  rw [q1] at s1
  have hz3 : (w2.setCell ⟨w.heap.size + 2, 1, none⟩ (.slice (some ⟨w.heap.size + 3, 0, none⟩) n n)).heap.size = w.heap.size + 4 + n := by rw [World.size_setCell, hz2]
  have HY2 := Lib.hid (g.below b3)
  have HB3 := Lib.hid b3
  have S0 := Lib.hid s0
  have S1 := Lib.hid s1
  have S2 := Lib.hid s2
  have HZ3 := Lib.hid hz3
  clear q0 q1 q2 hbb hb2 hz2 s0 s1 s2 hz3 b3 hg
  go_wp2_with fail
  clear d3 e22 i22
  obtain ⟨w3, hw3⟩ : ∃ w3, w3 = w2.setCell ⟨w.heap.size + 2, 1, none⟩ (.slice (some ⟨w.heap.size + 3, 0, none⟩) n n) := ⟨_, rfl⟩
  rw [← hw3] at HG HY2 HB3 S0 S1 S2 HZ3 ⊢
  clear hw3
  refine (toInt64SS_any _ _ _ yss w3 HY2.out HM.out HR'.out).mono ?_
  rintro e w4 ⟨rfl, hg4, hb4, hz4⟩
  have hz3 := HZ3.out
  rw [hz3] at hg4 hz4 hb4 ⊢
  have q0 := (hb4.block w.heap.size (by omega)).trans S0.out
  have q1 := (hb4.block (w.heap.size + 1) (by omega)).trans S1.out
  have q2 := (hb4.block (w.heap.size + 2) (by omega)).trans S2.out
  have e23 : w4.cell? ⟨w.heap.size + 2, 2, none⟩ = some (.slice none 0 0) := cell_of_row _ _ 2 _ _ _ q2
  have i23 : w4.frozen? ⟨w.heap.size + 2, 2, none⟩ = false := frozen_of_row _ _ 2 _ _ q2
  have e20 : w4.cell? ⟨w.heap.size + 2, 0, none⟩ = some (.int .i64 s) := cell_of_row _ _ 0 _ _ _ q2
  have e22 : w4.cell? ⟨w.heap.size + 2, 1, none⟩ = some (.slice (some ⟨w.heap.size + 3, 0, none⟩) n n) := cell_of_row _ _ 1 _ _ _ q2
  have e10 : w4.cell? ⟨w.heap.size + 1, 0, none⟩ = some (.int .i64 0) := cell_of_row _ _ 0 _ _ _ q1
  have e12 : w4.cell? ⟨w.heap.size + 1, 1, none⟩ = some (.slice none 0 0) := cell_of_row _ _ 1 _ _ _ q1
  have e13 : w4.cell? ⟨w.heap.size + 1, 2, none⟩ = some (.slice none 0 0) := cell_of_row _ _ 2 _ _ _ q1
  have i10 : w4.frozen? ⟨w.heap.size + 1, 0, none⟩ = false := frozen_of_row _ _ 0 _ _ q1
  have i12 : w4.frozen? ⟨w.heap.size + 1, 1, none⟩ = false := frozen_of_row _ _ 1 _ _ q1
  have i13 : w4.frozen? ⟨w.heap.size + 1, 2, none⟩ = false := frozen_of_row _ _ 2 _ _ q1
  have HG1 := Lib.hid (mach_of_grids HL.out HL'.out (HG.out.below (hb4.mono (by omega))) (show Grid w4 (w.heap.size + 3 + 1 + n) yss from hg4) (lo := w.heap.size + 3) (hi := w4.heap.size) (by omega) (by omega))
  have HB4 := Lib.hid (HB3.out.trans (hb4.mono (by omega)))
  clear q0 q1 q2 hg4 hb4 hz4 hz3 HG
  go_wp2_with fail
  refine bodyPost_ret (v := .agg #[.int .i64 s, .slice (some ⟨w.heap.size + 3, 0, none⟩) n n, .slice (some ⟨w.heap.size + 4 + n, 0, none⟩) m m]) (by simp [results, Try.results36, go_sem, e10, e12, e13]) rfl ⟨rfl, ?_, ?_⟩
  · simp only [World.size_setCell]
    exact ((((HG1.out.setLow (by simp) _).setLow (by simp) _).setLow (by simp) _).setLow (by simp) _).wide (by omega) (Nat.le_refl _)
  · exact ((((HB4.out.setCell (by simp <;> omega) _).setCell (by simp <;> omega) _).setCell (by simp <;> omega) _).setCell (by simp <;> omega) _)

set_option maxHeartbeats 1000000 in
theorem eqCertificate_t (s : Int) (A A' : Option Addr) (n n' cap cap' : Nat) (xss : List (List Int)) (B B' : Option Addr) (m m' d d' : Nat) (yss : List (List Int)) (w : World) (h : RowsAt w A n xss) (h' : RowsAt w A' n' xss) (hn : n ≤ 4611686018427387904) (hn' : n' ≤ 4611686018427387904)
    (hrows : ∀ (r : Nat) (xs : List Int), xss[r]? = some xs → xs.length ≤ 4611686018427387904) (g : RowsAt w B m yss) (g' : RowsAt w B' m' yss) (hm : m ≤ 4611686018427387904) (hm' : m' ≤ 4611686018427387904) (houts : ∀ (r : Nat) (xs : List Int), yss[r]? = some xs → xs.length ≤ 4611686018427387904) :
    Calls Try.prog 31 #[.agg #[.int .i64 s, .slice A n cap, .slice B m d], .agg #[.int .i64 s, .slice A' n' cap', .slice B' m' d']] w fun e w' => e = .returned (.bool true) ∧ Below w.heap.size w w' := by
  have HR := Lib.hid hrows
  have HO := Lib.hid houts
  clear hrows houts
  go_enter Try.func31, Try.ntmps31
  go_wp2_with fail
  obtain ⟨w0, hw0⟩ : ∃ w0, w0 = (w.alloc (.cells #[.int .i64 s, .slice A n cap, .slice B m d] 41)).alloc (.cells #[.int .i64 s, .slice A' n' cap', .slice B' m' d'] 41) := ⟨_, rfl⟩
  have b0 : Below w.heap.size w w0 := by rw [hw0]; go_grown
  have x2 : w0.cell? ⟨w.heap.size, 2, none⟩ = some (.slice B m d) := by rw [hw0]; go_cell
  have x3 : w0.cell? ⟨w.heap.size + 1, 2, none⟩ = some (.slice B' m' d') := by rw [hw0]; go_cell
  rw [← hw0]
  clear hw0
  refine (eqInt64SS_any _ _ _ _ _ _ xss xss _ (h.below b0) (h'.below b0) hn hn' HR.out HR.out).mono ?_
  rw [sameR_t rfl]
  rintro e w2 ⟨rfl, k, rfl⟩
  have b2 : Below w.heap.size w (w0.drewN k) := below_drewN' b0 _
  go_wp2_with fail
  refine (eqInt64SS_any _ _ _ _ _ _ yss yss _ (g.below b2) (g'.below b2) hm hm' HO.out HO.out).mono ?_
  rw [sameR_t rfl]
  rintro e w3 ⟨rfl, k', rfl⟩
  go_wp2_with fail
  go_ret
  exact ⟨rfl, by rw [← World.drewN_drewN]; exact below_drewN' b2 _⟩

theorem cells_cert : Try.prog.cellsOf 46 = 3 := by kernel_rfl

set_option maxRecDepth 100000 in
theorem cert_of_trod {H : Type} {enc : TypeId × Value → H} {W : World} {base b0 : Nat} {held : Bool} {r : Reach} {v : Value} {d : DataW H} {p : List MemPlace} (hv : Value.okWide Try.prog W r b0 46 v)
    (h : DataW.Trod enc Try.prog W base (fun _ => true) held 46 v d p) :
    ∃ s A n c xss B m e yss, v = .agg #[.int .i64 s, .slice A n c, .slice B m e] ∧ RowsAt W A n xss ∧ n ≤ 9223372036854775807 ∧ (∀ (r : Nat) (xs : List Int), xss[r]? = some xs → xs.length ≤ 9223372036854775807) ∧
      RowsAt W B m yss ∧ m ≤ 9223372036854775807 ∧ (∀ (r : Nat) (xs : List Int), yss[r]? = some xs → xs.length ≤ 9223372036854775807) := by
  obtain ⟨v0, v2, v3, y0, y2, y3, k, rfl, _, _, h0, h2, h3⟩ := Go.Joins.open_agg3 Try.underlying46 (by kernel_rfl) cells_cert hv h
  obtain ⟨s, e0, _, _⟩ := DataW.trod_int Try.underlying2 h0
  obtain ⟨A, n, c, xss, e2, hr, hn, hw⟩ := rows_of_trod h2
  obtain ⟨B, m, c', yss, e3, hr', hm, hw'⟩ := rows_of_trod h3
  simp only [List.cons.injEq, and_true] at e0 e2 e3
  subst e0 e2 e3
  exact ⟨s, A, n, c, xss, B, m, c', yss, rfl, hr, hn, hw, hr', hm, hw'⟩

set_option maxHeartbeats 1000000 in
theorem markCertificateT_any (lo hi : Nat) (s : Int) (A : Option Addr) (n c : Nat) (xss : List (List Int)) (B : Option Addr) (m d : Nat) (yss : List (List Int)) (k0 : Int) (w : World) (h : MachIn lo hi w (.slice A n c) (.slice B m d) xss yss) (hi' : hi ≤ w.heap.size) (hl : xss.length = n) (hl' : yss.length = m) (hk0 : 0 ≤ k0) (hn : n ≤ 1048576) (hm : m ≤ 1048576) (hs : k0 + (sumLens xss : Int) + (sumLens yss : Int) ≤ 4611686018427387904) :
    Calls Try.prog 32 #[.agg #[.int .i64 s, .slice A n c, .slice B m d], .int .i64 k0] w fun e w' => e = .returned (.int .i64 (k0 + (sumLens xss : Int) + (sumLens yss : Int))) ∧ Only lo hi w w' ∧ MachIn lo hi w' (.slice A n c) (.slice B m d) (marksT k0 xss) (marksT (k0 + (sumLens xss : Int)) yss) := by
  obtain ⟨hlh, vs, vs2, t1, t2, hap⟩ := h
  have HAP := Lib.hid hap
  clear hap
  have HL := Lib.hid hl
  have HL' := Lib.hid hl'
  have HN := Lib.hid hn
  have HM := Lib.hid hm
  have HS := Lib.hid hs
  have T1 := Lib.hid t1
  have T2 := Lib.hid t2
  clear hl hl' hn hm hs t1 t2
  go_enter Try.func32, Try.ntmps32
  go_wp2_with fail
  obtain ⟨w0, hw0⟩ : ∃ w0, w0 = w.alloc (.cells #[.int .i64 s, .slice A n c, .slice B m d] 41) := ⟨_, rfl⟩
  rw [← hw0]
  have b0 : Below w.heap.size w w0 := by rw [hw0]; exact (Below.refl _ _).alloc (Nat.le_refl _) _
  have P0 := Lib.hid (show Box w0 w.heap.size [.int .i64 s, .slice A n c, .slice B m d] by rw [hw0]; exact Box.new _ _ _)
  have T1 := Lib.hid (T1.out.below b0)
  have T2 := Lib.hid (T2.out.below b0)
  have HB := Lib.hid b0
  have x3 := P0.out 2 _ rfl
  clear b0 hw0
  refine (markTabV_in lo hi n c A vs xss k0 _ T1.out HL.out hk0 HN.out (by have := HS.out; omega)).mono ?_
  rintro e w1 ⟨rfl, q1, t1, z1⟩
  have o1 : Only lo hi w0 w1 := q1.only (fun k hk => by have := T1.out.own_lt hk; omega)
  have x3 : w1.cell? ⟨w.heap.size, 2, none⟩ = some (.slice B m d) := (P0.out.only o1 (by omega)) 2 _ rfl
  have T2 := Lib.hid (T2.out.onlyP q1 (fun g hg hg' => HAP.out g hg' hg))
  have T1 := Lib.hid t1
  have HO := Lib.hid ((Only.of_below HB.out _ _).trans o1)
  have hp : (0 : Int) ≤ k0 + (sumLens xss : Int) := by omega
  clear o1 q1 t1 z1
  go_wp2_with fail
  refine (markTabV_in lo hi m d B vs2 yss (k0 + (sumLens xss : Int)) _ T2.out HL'.out hp HM.out HS.out).mono ?_
  rintro e w2 ⟨rfl, q2, t2, z2⟩
  have o2 : Only lo hi w1 w2 := q2.only (fun k hk => by have := T2.out.own_lt hk; omega)
  have T1 := Lib.hid (T1.out.onlyP q2 (fun g hg hg' => HAP.out g hg hg'))
  have T2 := Lib.hid t2
  have HO2 := Lib.hid (HO.out.trans o2)
  clear o2 q2 t2 z2
  go_wp2_with fail
  go_ret
  exact ⟨rfl, HO2.out, hlh, vs, vs2, T1.out, T2.out, HAP.out⟩

set_option maxHeartbeats 1000000 in
theorem heldCertificateT_any (s : Int) (A : Option Addr) (n c : Nat) (xss : List (List Int)) (B : Option Addr) (m d : Nat) (yss : List (List Int)) (k0 : Int) (w : World) (h : RowsAt w A n (marksT k0 xss)) (g : RowsAt w B m (marksT (k0 + (sumLens xss : Int)) yss)) (hl : xss.length = n) (hl' : yss.length = m) (hk0 : 0 ≤ k0) (hn : n ≤ 1048576) (hm : m ≤ 1048576) (hs : k0 + (sumLens xss : Int) + (sumLens yss : Int) ≤ 4611686018427387904) :
    Calls Try.prog 33 #[.agg #[.int .i64 s, .slice A n c, .slice B m d], .int .i64 k0] w fun e w' => e = .returned (.int .i64 (k0 + (sumLens xss : Int) + (sumLens yss : Int))) ∧ Below w.heap.size w w' := by
  have HL := Lib.hid hl
  have HL' := Lib.hid hl'
  have HN := Lib.hid hn
  have HM := Lib.hid hm
  have HS := Lib.hid hs
  have HT := Lib.hid h
  have HT' := Lib.hid g
  have hp : (0 : Int) ≤ k0 + (sumLens xss : Int) := by omega
  have hp' : (0 : Int) ≤ k0 + (sumLens xss : Int) + (sumLens yss : Int) := by omega
  clear hl hl' hn hm hs h g
  go_enter Try.func33, Try.ntmps33
  go_wp2_with fail
  refine (heldTab_any n c A xss k0 _ (HT.out.below (by go_grown)) HL.out hk0 HN.out (by have := HS.out; omega)).mono ?_
  rintro e w1 ⟨rfl, b1⟩
  obtain ⟨w0, hw0⟩ : ∃ w0, w0 = w.alloc (.cells #[.int .i64 s, .slice A n c, .slice B m d] 41) := ⟨_, rfl⟩
  have P0 := Box.new w #[.int .i64 s, .slice A n c, .slice B m d] 41
  rw [← hw0] at b1 P0
  have x3 := (P0.below b1) 2 _ rfl
  have HB := Lib.hid (below_then (show Below w.heap.size w w0 by rw [hw0]; exact (Below.refl _ _).alloc (Nat.le_refl _) _) b1)
  clear b1 hw0 P0
  go_wp2_with fail
  refine (heldTab_any m d B yss (k0 + (sumLens xss : Int)) _ (HT'.out.below HB.out) HL'.out hp HM.out HS.out).mono ?_
  rintro e w2 ⟨rfl, b2⟩
  have HB2 := Lib.hid (below_then HB.out b2)
  clear b2
  go_wp2_with fail
  go_ret
  exact ⟨rfl, HB2.out⟩

end Go.Proofs.Ytcglncepmieaaaa
