/-
  The place of a number in a list; the automaton of some states: the contracts of l01Place, slices.Index and selectStates.
-/
import Derived.Test.YtkhhemlfahdbnaaBuild
import Derived.Test.YtkhhemlfahdbnaaPlace
import Derived.Test.YtkhhemlfahdbnaaKeeps
namespace Go.Proofs.Ytkhhemlfahdbnaa
open Go.RowKit Go.Deep Go.ChangeShapes Go.WideShapes

/-- Where a letter leads from the state at a place of a list: its place. -/
def selF (xss : List (List Int)) (L : List Int) (x q : Nat) : Int := placeOf L ((nx xss x (L.getD q 0).toNat : Nat) : Int) 0

set_option maxRecDepth 100000 in
set_option maxHeartbeats 1000000 in
theorem selLead_any (bl ba : Nat) (A AL : Option Addr) (n m cap nl cl x q : Nat) (xss : List (List Int)) (L : List Int) (W : World) (hg : Good n m xss) (hR : RowsAt W A m xss) (hL : NumsAt W AL nl L) (hin : ∀ y ∈ L, 0 ≤ y ∧ y < (n : Int)) (hnl : nl ≤ 10)
    (c0 : W.cell? ⟨bl, 0, none⟩ = some (.slice AL nl cl)) (c1 : W.cell? ⟨ba, 1, none⟩ = some (.slice A m cap)) (hx : x < m) (hq : q < nl) :
    Calls Try.prog 84 #[.int .i64 (x : Int), .int .i64 (q : Int), .pointer (some ⟨bl, 0, none⟩), .pointer (some ⟨ba, 0, none⟩)] W fun e w' => e = .returned (.int .i64 (selF xss L x q)) ∧ Below W.heap.size W w' := by
  obtain ⟨y, b3, off3, hy, rfl, hcy⟩ := hL.at_ hq
  have hyn := hin y (List.mem_of_getElem? hy)
  obtain ⟨t, rfl⟩ : ∃ t : Nat, y = (t : Int) := ⟨y.toNat, by omega⟩
  have htn : t < n := by omega
  obtain ⟨b, off1, b2, off2, cr, rfl, hcr, hcells⟩ := row_base hg hR hx
  have hct := hcells t htn
  have e : selF xss L x q = placeOf L ((nx xss x t : Nat) : Int) 0 := by unfold selF; rw [List.getD_eq_getElem?_getD, hy]; rfl
  have HE := Lib.hid e
  have HNL := Lib.hid hL
  have i1 : (0 : Int) ≤ (x : Int) := by omega
  have i2 : (x : Int) < (m : Int) := by omega
  have i3 : (0 : Int) ≤ (q : Int) := by omega
  have i4 : (q : Int) < (nl : Int) := by omega
  have i5 : (0 : Int) ≤ (t : Int) := by omega
  have i6 : (t : Int) < (n : Int) := by omega
  clear e hy hcells hin hR hL hyn hg
  go_enter Try.func84, Try.ntmps84
  go_wp2_with fail
  go_quiet ((go_at_call 66; exact Calls.quiet_of (slIndex_q _ _ _ _ _ _ (HNL.out.drewN _) (by omega))))
  go_wp2_with fail
  go_ret
  exact ⟨ret_int HE.out.symm, below_drewN' (Below.refl _ _) _⟩

theorem box2_set {w : World} {B : Nat} {x0 x1 : Value} {T : TypeId} (h : w.heap[B]? = some (.cells #[x0, x1] T (0, 0))) (y0 y1 : Value) :
    (w.setCell ⟨B, 0, none⟩ y0).cell? ⟨B, 0, none⟩ = some y0 ∧ ((w.setCell ⟨B, 0, none⟩ y0).setCell ⟨B, 1, none⟩ y1).cell? ⟨B, 1, none⟩ = some y1 := by
  have g0 : (w.setCell ⟨B, 0, none⟩ y0).heap[B]? = some (.cells #[y0, x1] T (0, 0)) := by rw [heap_setCell_same w B 0 _ _ _ h]; rfl
  have g1 : ((w.setCell ⟨B, 0, none⟩ y0).setCell ⟨B, 1, none⟩ y1).heap[B]? = some (.cells #[y0, y1] T (0, 0)) := by rw [heap_setCell_same _ B 1 _ _ _ g0]; rfl
  exact ⟨cell_of_row _ B 0 _ _ _ g0, cell_of_row _ B 1 _ _ _ g1⟩
theorem box2_cells {w : World} {B : Nat} {x0 x1 : Value} {T : TypeId} (h : w.heap[B]? = some (.cells #[x0, x1] T (0, 0))) :
    w.cell? ⟨B, 0, none⟩ = some x0 ∧ w.cell? ⟨B, 1, none⟩ = some x1 ∧ w.frozen? ⟨B, 0, none⟩ = false ∧ w.frozen? ⟨B, 1, none⟩ = false :=
  ⟨cell_of_row _ B 0 _ _ _ h, cell_of_row _ B 1 _ _ _ h, frozen_of_row _ B 0 _ _ h, frozen_of_row _ B 1 _ _ h⟩
theorem set2_only (w : World) (B : Nat) (y0 y1 : Value) : Only B (B + 1) w ((w.setCell ⟨B, 0, none⟩ y0).setCell ⟨B, 1, none⟩ y1) := (only_setCell w B 0 y0).trans (only_setCell _ B 1 y1)
theorem set2_size (w : World) (B : Nat) (y0 y1 : Value) : ((w.setCell ⟨B, 0, none⟩ y0).setCell ⟨B, 1, none⟩ y1).heap.size = w.heap.size := by rw [World.size_setCell, World.size_setCell]

set_option maxRecDepth 100000 in
set_option maxHeartbeats 1000000 in
theorem selectStates_any (A AL : Option Addr) (n m cap nl cl : Nat) (xss : List (List Int)) (L : List Int) (w : World) (hg : Good n m xss) (hR : RowsAt w A m xss) (hL : NumsAt w AL nl L) (hin : ∀ y ∈ L, 0 ≤ y ∧ y < (n : Int)) (hnl : nl ≤ 10) :
    Calls Try.prog 56 #[.agg #[.int .i64 (n : Int), .slice A m cap], .slice AL nl cl] w fun e w' => ∃ v, e = .returned (.agg #[.int .i64 (nl : Int), v]) ∧ TabIn w.heap.size w'.heap.size w' v (rowsF nl (selF xss L) m) ∧ Below w.heap.size w w' := by
  have hmf : ∀ (fn : Fn) (first cap : Array Value) (w : World), (Instr.makeFunc fn first cap).run Try.prog w = .ok (.func fn first cap) w := fun _ _ _ _ => rfl
  have hm3 : m ≤ 3 := hg.m3
  obtain ⟨W3, hW3⟩ : ∃ W3, W3 = ((w.alloc (.cells #[.int .i64 (n : Int), .slice A m cap] 41)).alloc (.cells #[.slice AL nl cl] 32)).alloc (.cells #[.int .i64 0, .slice none 0 0] 41) := ⟨_, rfl⟩
  have B3 : Below w.heap.size w W3 := by rw [hW3]; go_grown
  have x0 : W3.cell? ⟨w.heap.size, 1, none⟩ = some (.slice A m cap) := by rw [hW3]; go_cell
  have x1 : W3.cell? ⟨w.heap.size + 1, 0, none⟩ = some (.slice AL nl cl) := by rw [hW3]; go_cell
  have x2 : W3.heap[w.heap.size + 2]? = some (.cells #[.int .i64 0, .slice none 0 0] 41 (0, 0)) := by
    have := heap_alloc_new ((w.alloc (.cells #[.int .i64 (n : Int), .slice A m cap] 41)).alloc (.cells #[.slice AL nl cl] 32)) (.cells #[.int .i64 0, .slice none 0 0] 41)
    rw [World.size_alloc, World.size_alloc, ← hW3] at this
    exact this
  have HG := Lib.hid hg
  have HIN := Lib.hid hin
  have HB3 := Lib.hid B3
  have X0 := Lib.hid x0
  have X1 := Lib.hid x1
  have X2 := Lib.hid x2
  have HW3 := Lib.hid hW3
  clear hg hin B3 x0 x1 x2 hW3
  go_enter Try.func56, Try.ntmps56
  go_wp2_with fail
  rw [← HW3.out]
  refine (buildAutomaton_any 84 #[.pointer (some ⟨w.heap.size + 1, 0, none⟩), .pointer (some ⟨w.heap.size, 0, none⟩)] nl m (selF xss L) W3 hnl hm3 (fun _ _ => rfl) (fun x q hx hq W' hb => ?_)).mono ?_
  · have b' := below_then HB3.out hb
    exact selLead_any (w.heap.size + 1) w.heap.size A AL n m cap nl cl x q xss L W' HG.out (hR.below b') (hL.below b') HIN.out hnl ((hb.cell (cell_lt X1.out)).trans X1.out) ((hb.cell (cell_lt X0.out)).trans X0.out) hx hq
  · rintro e w1 ⟨v, rfl, t1, b1⟩
    obtain ⟨A1, c1, rfl⟩ := t1.form
    have hx2 := (b1.block _ (block_lt X2.out)).trans X2.out
    obtain ⟨e0, e1, e2, e3⟩ := box2_cells hx2
    obtain ⟨g2, g3⟩ := box2_set hx2 (.int .i64 (nl : Int)) (.slice A1 (rowsF nl (selF xss L) m).length c1)
    have HT := Lib.hid t1
    have HB := Lib.hid (below_then HB3.out b1)
    have hl := Lib.hid (block_lt X2.out)
    have hl0 := Lib.hid HB3.out.size
    clear t1 b1 hx2
    go_wp2_with fail
    refine bodyPost_ret (v := .agg #[.int .i64 (nl : Int), .slice A1 (rowsF nl (selF xss L) m).length c1]) (by simp [results, Try.results56, go_sem, g2, g3]) rfl ?_
    refine ⟨_, rfl, ?_, (HB.out.setCell (by simp; omega) _).setCell (by simp; omega) _⟩
    rw [set2_size]
    exact (HT.out.only (set2_only _ _ _ _) (.inr hl.out)).wide hl0.out (Nat.le_refl _)

end Go.Proofs.Ytkhhemlfahdbnaa
