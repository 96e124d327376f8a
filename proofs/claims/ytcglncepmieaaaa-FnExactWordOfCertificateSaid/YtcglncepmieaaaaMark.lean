/-
  What marking an automaton writes: its own rows alone.
-/
import Derived.Test.YtcglncepmieaaaaWords
namespace Go.Proofs.Ytcglncepmieaaaa
open Go.RowKit Go.Deep Go.ChangeShapes Go.WideShapes

/-- Of what was there, the blocks from lo up to, not including, hi alone may have turned. -/
structure Only (lo hi : Nat) (w w' : World) : Prop where
  os : w'.os = w.os
  tape : w'.tape = w.tape
  output : w'.output = w.output
  size : w.heap.size ≤ w'.heap.size
  block : ∀ k, k < w.heap.size → (k < lo ∨ hi ≤ k) → w'.heap[k]? = w.heap[k]?
theorem Only.refl (lo hi : Nat) (w : World) : Only lo hi w w := ⟨rfl, rfl, rfl, Nat.le_refl _, fun _ _ _ => rfl⟩
theorem Only.trans {lo hi : Nat} {a b c : World} (h : Only lo hi a b) (k : Only lo hi b c) : Only lo hi a c :=
  ⟨k.os.trans h.os, k.tape.trans h.tape, k.output.trans h.output, Nat.le_trans h.size k.size, fun i hi hb => (k.block i (Nat.lt_of_lt_of_le hi h.size) hb).trans (h.block i hi hb)⟩
theorem Only.wide {lo hi lo' hi' : Nat} {a b : World} (h : Only lo hi a b) (h1 : lo' ≤ lo) (h2 : hi ≤ hi') : Only lo' hi' a b :=
  ⟨h.os, h.tape, h.output, h.size, fun i hi hb => h.block i hi (by omega)⟩
theorem Only.of_grown {a b : World} {g : Nat} (h : a.grownBy b (some g)) : Only g (g + 1) a b := ⟨h.os, h.tape, h.output, h.size, fun i hi hb => h.block i hi (by simp; omega)⟩
theorem Only.of_below {a b : World} (h : Below a.heap.size a b) (lo hi : Nat) : Only lo hi a b := ⟨h.os, h.tape, h.output, h.size, fun i hi _ => h.block i hi⟩
theorem Only.below {B lo hi : Nat} {a w w' : World} (h : Below B a w) (k : Only lo hi w w') (hB : B ≤ lo) (hs : B ≤ w.heap.size) : Below B a w' :=
  h.trans ⟨k.os, k.tape, k.output, k.size, fun i hi => k.block i (by omega) (.inl (by omega))⟩
theorem Only.cell {lo hi : Nat} {w w' : World} (h : Only lo hi w w') {p : Addr} (hp : p.block < w.heap.size) (hb : p.block < lo ∨ hi ≤ p.block) : w'.cell? p = w.cell? p := World.cell?_of_block (w := w) (h.block p.block hp hb)
theorem Only.own {lo hi : Nat} {w w' : World} (k : Only lo hi w w') {base : Nat} {e : TypeId} {v : Value} {n : Nat} {cs : List Value} (h : w.ownsRow base e 1 v n cs) (hb : ∀ g, v.ownBlock = some g → g < lo ∨ hi ≤ g) : w'.ownsRow base e 1 v n cs := by
  obtain ⟨h1, h2⟩ := h
  refine ⟨h1, ?_⟩
  rcases h2 with h2 | ⟨g, cap, cur, rfl, hg, hh, rest⟩
  · exact .inl h2
  · have hlt : g < w.heap.size := by
      rcases Nat.lt_or_ge g w.heap.size with hlt | hge
      · exact hlt
      · rw [Array.getElem?_eq_none hge] at hh; cases hh
    exact .inr ⟨g, cap, cur, rfl, hg, (k.block g hlt (hb g rfl)).trans hh, rest⟩
theorem NumsAt.only {lo hi : Nat} {w w' : World} (k : Only lo hi w w') {A : Option Addr} {n : Nat} {xs : List Int} (h : NumsAt w A n xs) (hb : ∀ b off, A = some ⟨b, off, none⟩ → b < lo ∨ hi ≤ b) : NumsAt w' A n xs :=
  ⟨h.1, fun i x hx => by
    obtain ⟨b, off, e, hc⟩ := h.2 i x hx
    exact ⟨b, off, e, (k.cell (cell_lt hc) (hb b off e)).trans hc⟩⟩

theorem row_block (g r : Nat) (xs : List Int) : (rowVal g r xs).ownBlock = some (g + 1 + r) := rfl

set_option maxHeartbeats 1000000 in
theorem markInt64SS_any (g n c : Nat) (xss : List (List Int)) (k0 : Int) (w : World) (h : Grid w g xss) (hl : xss.length = n) (hk0 : 0 ≤ k0) (hn : n ≤ 1048576) (hs : k0 + (sumLens xss : Int) ≤ 4611686018427387904) :
    Calls Try.prog 18 #[.slice (some ⟨g, 0, none⟩) n c, .int .i64 k0] w fun e w' => e = .returned (.int .i64 (k0 + (sumLens xss : Int))) ∧ Only (g + 1) (g + 1 + n) w w' ∧ w'.heap.size = w.heap.size := by
  have HL := Lib.hid hl
  have HN := Lib.hid hn
  have hn' : n ≤ 4611686018427387904 := by omega
  have HS := Lib.hid hs
  have R := h.rows
  rw [hl] at R
  clear hl hn hs
  go_enter Try.func18, Try.ntmps18
  go_wp2_with fail
  go_loopw [1, 5] (fun kv i wr => ∃ j : Nat, j ≤ n ∧ i = .int .i64 j ∧ kv = .int .i64 (k0 + (sumLens (xss.take j) : Int)) ∧ Only (g + 1) (g + 1 + j) w wr ∧ wr.heap.size = w.heap.size) (fun _ i _ => n - (intOf i).toNat)
  case atStart => exact ⟨0, Nat.zero_le _, rfl, by simp [sumLens], Only.refl _ _ _, rfl⟩
  case round =>
    obtain ⟨j, hj, rfl, rfl, hon, hsz⟩ := hrel
    have HO := Lib.hid hon
    have HZ := Lib.hid hsz
    clear hon hsz
    by_cases hlt : j < n
    · obtain ⟨xs, b, off, A', c', hx, hA, hc, hnum⟩ := R.at_ hlt
      simp only [Option.some.injEq, Addr.mk.injEq, and_true] at hA
      obtain ⟨rfl, rfl⟩ := hA
      have hcell : w.cell? ⟨g, 0 + j, none⟩ = some (rowVal g j xs) := by
        have hlj : j < xss.length := by rw [HL.out]; exact hlt
        rw [Nat.zero_add, h.1.cellAt j (by omega), List.getElem?_mapIdx, hx]
        rfl
      have hc' : wr.cell? ⟨g, j, none⟩ = some (.slice (some ⟨g + 1 + j, 0, none⟩) xs.length xs.length) := by
        rw [← Nat.zero_add j]
        exact (HO.out.cell (cell_lt hcell) (.inl (by simp))).trans (by rw [Nat.zero_add] at hcell ⊢; exact hcell)
      have hrow := HO.out.own (h.2 j xs hx) (fun q hq => .inr (by rw [row_block] at hq; have := Option.some.inj hq; omega))
      have HX := Lib.hid hx
      have HR := Lib.hid hrow
      have hj0 : (0 : Int) ≤ (j : Int) := by omega
      have hjn : (j : Int) < (n : Int) := by omega
      have hsum := sumLens_snoc hx
      have hsum2 := sumLens_take xss (j + 1)
      have hs := HS.out
      have hb1 : 0 ≤ k0 + (sumLens (xss.take j) : Int) := by omega
      have hb2 : k0 + (sumLens (xss.take j) : Int) + (xs.length : Int) ≤ 4611686018427387904 := by omega
      have HQ := Lib.hid hsum
      clear hx hc hnum hcell hrow hsum hsum2 hs
      go_wp2_with fail
      refine (markInt64S_any g (some ⟨g + 1 + j, 0, none⟩) xs.length xs.length _ _ wr HR.out hb1 hb2).mono ?_
      rintro e w1 ⟨rfl, o1, g1, z1⟩
      have HO1 := Lib.hid ((HO.out.wide (Nat.le_refl _) (by omega)).trans ((Only.of_grown (g := g + 1 + j) g1).wide (lo' := g + 1) (hi' := g + 1 + (j + 1)) (by omega) (by omega)))
      have HZ1 := Lib.hid (z1.trans HZ.out)
      clear o1 g1 z1
      go_wp2_with fail
      go_roundw
      case rel => exact ⟨j + 1, by omega, by go_num, by rw [HQ.out]; go_num, HO1.out, HZ1.out⟩
      case measure => simp [intOf]; omega
    · go_wp2
      go_ret
      have hjn : j = n := by omega
      subst hjn
      exact ⟨ret_int (by rw [List.take_of_length_le (Nat.le_of_eq HL.out)]), HO.out, HZ.out⟩

theorem markAutomaton_any (s : Int) (g n c : Nat) (xss : List (List Int)) (k0 : Int) (w : World) (h : Grid w g xss) (hl : xss.length = n) (hk0 : 0 ≤ k0) (hn : n ≤ 1048576) (hs : k0 + (sumLens xss : Int) ≤ 4611686018427387904) :
    Calls Try.prog 17 #[.agg #[.int .i64 s, .slice (some ⟨g, 0, none⟩) n c], .int .i64 k0] w fun e w' => e = .returned (.int .i64 (k0 + (sumLens xss : Int))) ∧ Only (g + 1) (g + 1 + n) w w' := by
  have HL := Lib.hid hl
  have HN := Lib.hid hn
  have HS := Lib.hid hs
  clear hl hn hs
  go_enter Try.func17, Try.ntmps17
  go_wp2_with fail
  refine (markInt64SS_any g n c xss k0 _ (h.below (by go_grown)) HL.out hk0 HN.out HS.out).mono ?_
  rintro e w1 ⟨rfl, o1, z1⟩
  have HO := Lib.hid ((Only.of_below ((Below.refl _ w).alloc (Nat.le_refl _) _) _ _).trans o1)
  clear o1 z1
  go_wp2_with fail
  go_ret
  exact ⟨rfl, HO.out⟩

end Go.Proofs.Ytcglncepmieaaaa
