/-
  The completion by a trap: a row that grows inside a table of a call's own; the contracts of closeGaps and of the program's TrapCompletion.
-/
import Derived.Test.YtikimfncpemmkaaGapV
import Derived.Test.YtikimfncpemmkaaBuild
import Derived.Deep.DeepCutAuto
import Derived.Deep.RegionLaw
import Derived.Deep.AppendLies
namespace Go.Proofs.Ytikimfncpemmkaa
open Go.RowKit Go.Deep Go.ChangeShapes Go.WideShapes

theorem own_typeT {w : World} {base z k n : Nat} {t t' : TypeId} {u : Value} {cs : List Value} {c : Array Value} (h : w.ownsRow base t k u n cs) (hz : w.heap[z]? = some (.cells c t' (0, 0))) (ht : t ≠ t') : u.ownBlock ≠ some z := by
  intro e
  rcases h.2 with ⟨rfl, _⟩ | ⟨g, cap, cur, rfl, hg, hh, _⟩
  · simp [Value.ownBlock] at e
  · simp [Value.ownBlock] at e
    subst e
    rw [hh] at hz
    simp at hz
    exact ht hz.2
theorem get_set_ne {α : Type} {xs : List α} {k r : Nat} {x y : α} (h : (xs.set k x)[r]? = some y) (hr : k ≠ r) : xs[r]? = some y := by
  rw [List.getElem?_set, if_neg hr] at h; exact h
theorem get_set_eq {α : Type} {xs : List α} {k : Nat} {x y : α} (h : (xs.set k x)[k]? = some y) : y = x := by
  rw [List.getElem?_set, if_pos rfl] at h
  split at h
  · exact (Option.some.inj h).symm
  · cases h

theorem lt_of_at4 {α : Type} {xs : List α} {k : Nat} {x : α} (h : xs[k]? = some x) : k < xs.length := by
  rcases Nat.lt_or_ge k xs.length with a | a
  · exact a
  · rw [List.getElem?_eq_none a] at h; cases h

/-- A row that has grown in place or in a new block, and is stored in the outer list again. -/
theorem TabV.regrow {lo g m c k g5 : Nat} {w wA w5 : World} {vs : List Value} {yss : List (List Int)} {u u' : Value} {zs : List Int} (h : TabV lo w.heap.size w (.slice (some ⟨g, 0, none⟩) m c) vs yss) (hm : yss.length = m) (hk : k < m) (hu : vs[k]? = some u)
    (hA : Below w.heap.size w wA) (hg : wA.grownBy w5 u.ownBlock) (h5 : w5.ownsRow lo 2 1 u' zs.length (zs.map (Value.int .i64))) (hb5 : u'.ownBlock = some g5) (hat : u.ownBlock = some g5 ∨ g5 = wA.heap.size) :
    TabV lo (w5.setCell ⟨g, k, none⟩ u').heap.size (w5.setCell ⟨g, k, none⟩ u') (.slice (some ⟨g, 0, none⟩) m c) (vs.set k u') (yss.set k zs) := by
  subst hm
  have hs := only_setCell w5 g k u'
  have hgw : g < w.heap.size := h.top g rfl
  have hA' := hA.size
  have h5s := hg.size
  have hout := h.outer k u
  have hg5 : g ≠ g5 := by
    rcases hat with e | e
    · exact fun x => hout g5 hu e (by rw [← x]; rfl)
    · omega
  have hlt5 : g5 < w5.heap.size := (h5.lt g5 hb5).2
  refine ⟨by rw [List.length_set, List.length_set]; exact h.len, ?_, fun q hq => ?_, fun r x ys hx hy => ?_, fun r r' x x' q hx hx' e e' => ?_, fun r x q hx e hv => ?_⟩
  · rw [List.length_set]
    have ho := (own_below h.out hA).kept hg (by
      rcases hb : u.ownBlock with _ | q
      · exact .inr (by simp [Value.ownBlock])
      · exact .inr (fun e => hout q hu hb e))
    exact (ho.stored k u').1
  · have : q = g := by simpa [Value.ownBlock] using hq.symm
    rw [World.size_setCell]; omega
  · by_cases hr : k = r
    · subst hr
      obtain rfl := get_set_eq hx
      obtain rfl := get_set_eq hy
      exact ⟨hs.own h5 (fun q hq => by rw [hb5] at hq; have := Option.some.inj hq; omega), fun q hq => by rw [World.size_setCell]; rw [hb5] at hq; have := Option.some.inj hq; omega⟩
    · have hx := get_set_ne hx hr
      have hy := get_set_ne hy hr
      obtain ⟨i1, i2⟩ := h.row r x ys hx hy
      refine ⟨hs.own ((own_below i1 hA).kept hg ?_) (fun q hq => ?_), fun q hq => by rw [World.size_setCell]; have := i2 q hq; omega⟩
      · rcases hb : x.ownBlock with _ | q
        · exact .inl rfl
        · exact .inr (fun e => hr (h.apart k r u x q hu hx e.symm hb))
      · have hne : q ≠ g := fun x' => h.outer r x q hx hq (by rw [x']; rfl)
        omega
  · -- two rows in one block are one row
    have key : ∀ (r : Nat) (x : Value), k ≠ r → vs[r]? = some x → x.ownBlock = some g5 → False := fun r x hr hx e => by
      rcases hat with e2 | e2
      · exact hr (h.apart k r u x g5 hu hx e2 e)
      · have hl := h.len
        have hlt := lt_of_at4 hx
        have hi := (h.row r x yss[r] hx (List.getElem?_eq_getElem (by omega))).2 g5 e
        omega
    by_cases hr : k = r <;> by_cases hr' : k = r'
    · omega
    · subst hr
      obtain rfl := get_set_eq hx
      rw [hb5] at e
      obtain rfl := Option.some.inj e
      exact (key r' x' hr' (get_set_ne hx' hr') e').elim
    · subst hr'
      obtain rfl := get_set_eq hx'
      rw [hb5] at e'
      obtain rfl := Option.some.inj e'
      exact (key r x hr (get_set_ne hx hr) e).elim
    · exact h.apart r r' x x' q (get_set_ne hx hr) (get_set_ne hx' hr') e e'
  · by_cases hr : k = r
    · subst hr
      obtain rfl := get_set_eq hx
      rw [hb5] at e
      have h1 := Option.some.inj e
      have h2 : g = q := by simpa [Value.ownBlock] using hv
      omega
    · exact h.outer r x q (get_set_ne hx hr) e hv

/-- Where a letter leads from a state when gaps lead to one state. -/
def closeF (xss : List (List Int)) (goal : Int) (x q : Nat) : Int := if (xss.getD x []).getD q 0 = -1 then goal else (xss.getD x []).getD q 0

set_option maxRecDepth 100000 in
theorem closeLead_any (bp bg : Nat) (A : Option Addr) (n m cap x q : Nat) (goal : Int) (xss : List (List Int)) (W : World) (hg : GoodP n m xss) (hR : RowsAt W A m xss) (c1 : W.cell? ⟨bp, 1, none⟩ = some (.slice A m cap)) (c0 : W.cell? ⟨bg, 0, none⟩ = some (.int .i64 goal)) (hx : x < m) (hq : q < n) :
    Calls Try.prog 120 #[.int .i64 (x : Int), .int .i64 (q : Int), .pointer (some ⟨bp, 0, none⟩), .pointer (some ⟨bg, 0, none⟩)] W fun e w' => e = .returned (.int .i64 (closeF xss goal x q)) ∧ Below W.heap.size W w' := by
  obtain ⟨row, b4, off4, A5, c5, hr, hA, hcr, hnum⟩ := hR.at_ hx
  subst hA
  have hgd : xss.getD x [] = row := by rw [List.getD_eq_getElem?_getD, hr]; rfl
  obtain ⟨hlen, hrow⟩ := hg.at_ hx
  rw [hgd] at hlen hrow
  rw [hlen] at hcr hnum
  obtain ⟨y, b3, off3, hy, hA5, hcy⟩ := hnum.at_ hq
  subst hA5
  have hyd : row.getD q 0 = y := by rw [List.getD_eq_getElem?_getD, hy]; rfl
  have i1 : (0 : Int) ≤ (x : Int) := by omega
  have i2 : (x : Int) < (m : Int) := by omega
  have i3 : (0 : Int) ≤ (q : Int) := by omega
  have i4 : (q : Int) < (n : Int) := by omega
  by_cases h0 : y = -1
  · have HE := Lib.hid (show closeF xss goal x q = goal by unfold closeF; rw [hgd, hyd, if_pos h0])
    have hne : (y != -1) = false := by simp [h0]
    clear hr hgd hlen hrow hnum hy hyd h0 hg hR
    go_enter Try.func120, Try.ntmps120
    go_wp2_with fail
    go_ret
    exact ⟨ret_int HE.out.symm, Below.refl _ _⟩
  · have HE := Lib.hid (show closeF xss goal x q = y by unfold closeF; rw [hgd, hyd, if_neg h0])
    have hne : (y != -1) = true := by simp [h0]
    clear hr hgd hlen hrow hnum hy hyd h0 hg hR
    go_enter Try.func120, Try.ntmps120
    go_wp2_with fail
    go_ret
    exact ⟨ret_int HE.out.symm, Below.refl _ _⟩

theorem box2_setT {w : World} {B : Nat} {x0 x1 : Value} {T : TypeId} (h : w.heap[B]? = some (.cells #[x0, x1] T (0, 0))) (y0 y1 : Value) :
    (w.setCell ⟨B, 0, none⟩ y0).cell? ⟨B, 0, none⟩ = some y0 ∧ ((w.setCell ⟨B, 0, none⟩ y0).setCell ⟨B, 1, none⟩ y1).cell? ⟨B, 1, none⟩ = some y1 := by
  have g0 : (w.setCell ⟨B, 0, none⟩ y0).heap[B]? = some (.cells #[y0, x1] T (0, 0)) := by rw [heap_setCell_same w B 0 _ _ _ h]; rfl
  have g1 : ((w.setCell ⟨B, 0, none⟩ y0).setCell ⟨B, 1, none⟩ y1).heap[B]? = some (.cells #[y0, y1] T (0, 0)) := by rw [heap_setCell_same _ B 1 _ _ _ g0]; rfl
  exact ⟨cell_of_row _ B 0 _ _ _ g0, cell_of_row _ B 1 _ _ _ g1⟩
theorem box2_cellsT {w : World} {B : Nat} {x0 x1 : Value} {T : TypeId} (h : w.heap[B]? = some (.cells #[x0, x1] T (0, 0))) :
    w.cell? ⟨B, 0, none⟩ = some x0 ∧ w.cell? ⟨B, 1, none⟩ = some x1 ∧ w.frozen? ⟨B, 0, none⟩ = false ∧ w.frozen? ⟨B, 1, none⟩ = false :=
  ⟨cell_of_row _ B 0 _ _ _ h, cell_of_row _ B 1 _ _ _ h, frozen_of_row _ B 0 _ _ h, frozen_of_row _ B 1 _ _ h⟩
theorem set2_onlyT (w : World) (B : Nat) (y0 y1 : Value) : Only B (B + 1) w ((w.setCell ⟨B, 0, none⟩ y0).setCell ⟨B, 1, none⟩ y1) := (only_setCell w B 0 y0).trans (only_setCell _ B 1 y1)
theorem set2_sizeT (w : World) (B : Nat) (y0 y1 : Value) : ((w.setCell ⟨B, 0, none⟩ y0).setCell ⟨B, 1, none⟩ y1).heap.size = w.heap.size := by rw [World.size_setCell, World.size_setCell]

set_option maxRecDepth 100000 in
set_option maxHeartbeats 1000000 in
theorem closeGaps_any (A : Option Addr) (n m cap : Nat) (goal : Int) (xss : List (List Int)) (w : World) (hg : GoodP n m xss) (hR : RowsAt w A m xss) :
    Calls Try.prog 91 #[.agg #[.int .i64 (n : Int), .slice A m cap], .int .i64 goal] w fun e w' => ∃ v, e = .returned (.agg #[.int .i64 (n : Int), v]) ∧ TabIn w.heap.size w'.heap.size w' v (rowsF n (closeF xss goal) m) ∧ Below w.heap.size w w' := by
  have hmf : ∀ (fn : Fn) (first cap : Array Value) (w : World), (Instr.makeFunc fn first cap).run Try.prog w = .ok (.func fn first cap) w := fun _ _ _ _ => rfl
  have hm3 : m ≤ 3 := hg.m3
  have hn10 : n ≤ 10 := hg.n10
  obtain ⟨W3, hW3⟩ : ∃ W3, W3 = ((w.alloc (.cells #[.int .i64 (n : Int), .slice A m cap] 27)).alloc (.cells #[.int .i64 goal] 2)).alloc (.cells #[.int .i64 0, .slice none 0 0] 39) := ⟨_, rfl⟩
  have B3 : Below w.heap.size w W3 := by rw [hW3]; go_grown
  have x0 : W3.cell? ⟨w.heap.size, 1, none⟩ = some (.slice A m cap) := by rw [hW3]; go_cell
  have x1 : W3.cell? ⟨w.heap.size + 1, 0, none⟩ = some (.int .i64 goal) := by rw [hW3]; go_cell
  have x2 : W3.heap[w.heap.size + 2]? = some (.cells #[.int .i64 0, .slice none 0 0] 39 (0, 0)) := by
    have := heap_alloc_new ((w.alloc (.cells #[.int .i64 (n : Int), .slice A m cap] 27)).alloc (.cells #[.int .i64 goal] 2)) (.cells #[.int .i64 0, .slice none 0 0] 39)
    rw [World.size_alloc, World.size_alloc, ← hW3] at this
    exact this
  have HG := Lib.hid hg
  have HB3 := Lib.hid B3
  have X0 := Lib.hid x0
  have X1 := Lib.hid x1
  have X2 := Lib.hid x2
  have HW3 := Lib.hid hW3
  clear hg B3 x0 x1 x2 hW3
  go_enter Try.func91, Try.ntmps91
  go_wp2_with fail
  rw [← HW3.out]
  refine (buildAutomaton_any 120 #[.pointer (some ⟨w.heap.size, 0, none⟩), .pointer (some ⟨w.heap.size + 1, 0, none⟩)] n m (closeF xss goal) W3 hn10 hm3 (fun _ _ => rfl) (fun x q hx hq W' hb => ?_)).mono ?_
  · have b' := below_then HB3.out hb
    exact closeLead_any w.heap.size (w.heap.size + 1) A n m cap x q goal xss W' HG.out (hR.below b') ((hb.cell (cell_lt X0.out)).trans X0.out) ((hb.cell (cell_lt X1.out)).trans X1.out) hx hq
  · rintro e w1 ⟨v, rfl, t1, b1⟩
    obtain ⟨A1, c1, rfl⟩ := t1.form
    have hx2 := (b1.block _ (block_lt X2.out)).trans X2.out
    obtain ⟨e0, e1, e2, e3⟩ := box2_cellsT hx2
    obtain ⟨g2, g3⟩ := box2_setT hx2 (.int .i64 (n : Int)) (.slice A1 (rowsF n (closeF xss goal) m).length c1)
    have HT := Lib.hid t1
    have HB := Lib.hid (below_then HB3.out b1)
    have hl := Lib.hid (block_lt X2.out)
    have hl0 := Lib.hid HB3.out.size
    clear t1 b1 hx2
    go_wp2_with fail
    refine bodyPost_ret (v := .agg #[.int .i64 (n : Int), .slice A1 (rowsF n (closeF xss goal) m).length c1]) (by simp [results, Try.results91, go_sem, g2, g3]) rfl ?_
    refine ⟨_, rfl, ?_, (HB.out.setCell (by simp; omega) _).setCell (by simp; omega) _⟩
    rw [set2_sizeT]
    exact (HT.out.only (set2_onlyT _ _ _ _) (.inr hl.out)).wide hl0.out (Nat.le_refl _)

end Go.Proofs.Ytikimfncpemmkaa
