/-
  Partial automata as the laws hold them: the contracts of what the laws do with them.
-/
import Derived.Test.YtogbglbmkkbhcaaDoorLaw
namespace Go.Proofs.YtogbglbmkkbhcaaDoor
open Go.RowKit Go.Deep Go.ChangeShapes Go.WideShapes

theorem szPartial_any (s : Int) (A : Option Addr) (n cap : Nat) (xss : List (List Int)) (left : Int) (w : World) (h : RowsAt w A n xss) (hn : n ≤ 9223372036854775807) (hrows : ∀ (r : Nat) (xs : List Int), xss[r]? = some xs → xs.length ≤ 9223372036854775807) (h0 : 0 ≤ left) (h1 : left ≤ 4611686018427387904) :
    Calls Tryd.prog 13 #[.agg #[.int .i64 s, .slice A n cap], .int .i64 left] w fun e w' => ∃ r : Int, e = .returned (.int .i64 r) ∧ SizedTo xss left r ∧ Below w.heap.size w w' := by
  have HR := Lib.hid hrows
  clear hrows
  go_enter Tryd.func13, Tryd.ntmps13
  go_wp2_with fail
  refine (szInt64SS_any _ _ _ xss _ _ (h.below ((Below.refl _ _).alloc (Nat.le_refl _) _)) hn HR.out h0 h1).mono ?_
  rintro e w' ⟨r, rfl, hr, rfl⟩
  have HR2 := Lib.hid hr
  by_cases hneg : r < 0
  · have hr1 : r = -1 := by rcases hr with h | h <;> omega
    subst hr1
    clear hr
    go_wp2_with fail
    go_ret
    exact ⟨-1, rfl, HR2.out, (Below.refl _ _).alloc (Nat.le_refl _) _⟩
  · clear hr
    go_wp2_with fail
    go_ret
    exact ⟨r, rfl, HR2.out, (Below.refl _ _).alloc (Nat.le_refl _) _⟩

set_option maxHeartbeats 1000000 in
theorem toPartial_any (s : Int) (A : Option Addr) (n cap : Nat) (xss : List (List Int)) (w : World) (h : RowsAt w A n xss) (hn : n ≤ 1048576) (hrows : ∀ (r : Nat) (xs : List Int), xss[r]? = some xs → xs.length ≤ 1048576) :
    Calls Tryd.prog 15 #[.agg #[.int .i64 s, .slice A n cap]] w fun e w' => e = .returned (.agg #[.int .i64 s, .slice (some ⟨w.heap.size + 3, 0, none⟩) n n]) ∧ Grid w' (w.heap.size + 3) xss ∧ Below w.heap.size w w' ∧ w'.heap.size = w.heap.size + 4 + n := by
  have HN := Lib.hid hn
  have HR := Lib.hid hrows
  clear hn hrows
  go_enter Tryd.func15, Tryd.ntmps15
  go_wp2_with fail
  obtain ⟨W1, hW1⟩ : ∃ W1, W1 = ((w.alloc (.cells #[.int .i64 s, .slice A n cap] 31)).alloc (.cells #[.int .i64 0, .slice none 0 0] 34)).alloc (.cells #[.int .i64 s, .slice none 0 0] 34) := ⟨_, rfl⟩
  have hsz : W1.heap.size = w.heap.size + 3 := by rw [hW1]; simp
  have hb : Below w.heap.size w W1 := by rw [hW1]; go_grown
  have g20 : W1.cell? ⟨w.heap.size + 2, 0, none⟩ = some (.int .i64 s) := by rw [hW1]; go_cell
  have g21 : W1.cell? ⟨w.heap.size + 2, 1, none⟩ = some (.slice none 0 0) := by rw [hW1]; go_cell
  have g10 : W1.cell? ⟨w.heap.size + 1, 0, none⟩ = some (.int .i64 0) := by rw [hW1]; go_cell
  have g11 : W1.cell? ⟨w.heap.size + 1, 1, none⟩ = some (.slice none 0 0) := by rw [hW1]; go_cell
  have f20 : W1.frozen? ⟨w.heap.size + 2, 0, none⟩ = false := by rw [hW1]; go_cell
  have f21 : W1.frozen? ⟨w.heap.size + 2, 1, none⟩ = false := by rw [hW1]; go_cell
  have f10 : W1.frozen? ⟨w.heap.size + 1, 0, none⟩ = false := by rw [hW1]; go_cell
  have f11 : W1.frozen? ⟨w.heap.size + 1, 1, none⟩ = false := by rw [hW1]; go_cell
  rw [← hW1]
  have HB := Lib.hid hb
  have HX := Lib.hid (h.below hb)
  clear hW1 hb
  refine (toInt64SS_any _ _ _ xss W1 HX.out HN.out HR.out).mono ?_
  rintro e w2 ⟨rfl, hg, hb2, hz2⟩
  rw [hsz] at hg hz2 hb2 ⊢
  have e20 : w2.cell? ⟨w.heap.size + 2, 0, none⟩ = some (.int .i64 s) := (hb2.cell (by simp)).trans g20
  have e21 : w2.cell? ⟨w.heap.size + 2, 1, none⟩ = some (.slice none 0 0) := (hb2.cell (by simp)).trans g21
  have e10 : w2.cell? ⟨w.heap.size + 1, 0, none⟩ = some (.int .i64 0) := (hb2.cell (by simp)).trans g10
  have e11 : w2.cell? ⟨w.heap.size + 1, 1, none⟩ = some (.slice none 0 0) := (hb2.cell (by simp)).trans g11
  have i20 : w2.frozen? ⟨w.heap.size + 2, 0, none⟩ = false := (hb2.frozen (by simp)).trans f20
  have i21 : w2.frozen? ⟨w.heap.size + 2, 1, none⟩ = false := (hb2.frozen (by simp)).trans f21
  have i10 : w2.frozen? ⟨w.heap.size + 1, 0, none⟩ = false := (hb2.frozen (by simp)).trans f10
  have i11 : w2.frozen? ⟨w.heap.size + 1, 1, none⟩ = false := (hb2.frozen (by simp)).trans f11
  have HG := Lib.hid hg
  have HZ := Lib.hid hz2
  have HB2 := Lib.hid (HB.out.trans (hb2.mono (by omega)))
  clear g20 g21 g10 g11 f20 f21 f10 f11 hg hz2 hb2 hsz
  go_wp2_with fail
  refine bodyPost_ret (v := .agg #[.int .i64 s, .slice (some ⟨w.heap.size + 3, 0, none⟩) n n]) (by simp [results, Tryd.results15, go_sem, e10, e11]) rfl ⟨rfl, ?_, ?_, ?_⟩
  · exact ((HG.out.setLow (by simp) _).setLow (by simp) _).setLow (by simp) _
  · exact ((HB2.out.setCell (by simp; omega) _).setCell (by simp) _).setCell (by simp) _
  · rw [World.size_setCell, World.size_setCell, World.size_setCell, HZ.out]

set_option maxHeartbeats 1000000 in
theorem eqPartial_any (s s' : Int) (A A' : Option Addr) (n n' cap cap' : Nat) (xss yss : List (List Int)) (w : World) (h : RowsAt w A n xss) (h' : RowsAt w A' n' yss) (hn : n ≤ 4611686018427387904) (hn' : n' ≤ 4611686018427387904)
    (hrows : ∀ (r : Nat) (xs : List Int), xss[r]? = some xs → xs.length ≤ 4611686018427387904) (hrows' : ∀ (r : Nat) (xs : List Int), yss[r]? = some xs → xs.length ≤ 4611686018427387904) :
    Calls Tryd.prog 17 #[.agg #[.int .i64 s, .slice A n cap], .agg #[.int .i64 s', .slice A' n' cap']] w fun e w' => e = .returned (.bool (sameA s s' xss yss)) ∧ Below w.heap.size w w' := by
  have HR := Lib.hid hrows
  have HR' := Lib.hid hrows'
  clear hrows hrows'
  by_cases hss : s = s'
  · subst hss
    rw [sameA_of rfl]
    go_enter Tryd.func17, Tryd.ntmps17
    go_wp2_with fail
    refine (eqInt64SS_any _ _ _ _ _ _ xss yss _ (h.below (by go_grown)) (h'.below (by go_grown)) hn hn' HR.out HR'.out).mono ?_
    rintro e w2 ⟨rfl, m, rfl⟩
    rcases hs : sameR xss yss with _ | _
    · go_wp2_with fail
      go_ret
      exact ⟨ret_bool hs.symm, below_drewN' (by go_grown) _⟩
    · go_wp2_with fail
      go_ret
      exact ⟨ret_bool hs.symm, below_drewN' (by go_grown) _⟩
  · have hne : (s != s') = true := by rw [bne_iff_ne]; exact hss
    have HE := Lib.hid hss
    clear hss
    go_enter Tryd.func17, Tryd.ntmps17
    go_wp2_with fail
    go_ret
    exact ⟨ret_bool (sameA_f HE.out).symm, by go_grown⟩

theorem cells_part : Tryd.prog.cellsOf 31 = 2 := by kernel_rfl

set_option maxRecDepth 100000 in
theorem part_of_trod {H : Type} {enc : TypeId × Value → H} {W : World} {base b0 : Nat} {held : Bool} {r : Reach} {v : Value} {d : DataW H} {p : List MemPlace} (hv : Value.okWide Tryd.prog W r b0 31 v)
    (h : DataW.Trod enc Tryd.prog W base (fun _ => true) held 31 v d p) :
    ∃ s A n c xss, v = .agg #[.int .i64 s, .slice A n c] ∧ RowsAt W A n xss ∧ n ≤ 9223372036854775807 ∧ (∀ (r : Nat) (xs : List Int), xss[r]? = some xs → xs.length ≤ 9223372036854775807) := by
  obtain ⟨v0, v1, y0, y1, m, rfl, _, _, h0, h1⟩ := Go.Joins.open_agg2 Tryd.underlying31 (by kernel_rfl) cells_part hv h
  obtain ⟨s, e0, _, _⟩ := DataW.trod_int Tryd.underlying2 h0
  obtain ⟨A, n, c, xss, e1, hr⟩ := rows_of_trod h1
  simp only [List.cons.injEq, and_true] at e0 e1
  subst e0 e1
  exact ⟨s, A, n, c, xss, rfl, hr⟩

end Go.Proofs.YtogbglbmkkbhcaaDoor
