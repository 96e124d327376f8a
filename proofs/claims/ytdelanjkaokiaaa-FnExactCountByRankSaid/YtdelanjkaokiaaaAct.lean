/-
  Actions as arrays of ten numbers: the contracts of identity, then, wordAction, list and slices.Clone, and of the program's ActionOf.
-/
import Derived.Test.YtdelanjkaokiaaaTo
import Derived.Deep.MidRow
import Derived.Laws.AppendOwnNone
namespace Go.Proofs.Ytdelanjkaokiaaa
open Go.RowKit Go.Deep Go.ChangeShapes Go.WideShapes

def arr (act : List Int) : Array Value := (act.map (Value.int .i64)).toArray
def idA : List Int := [0, 1, 2, 3, 4, 5, 6, 7, 8, 9]

set_option maxHeartbeats 2000000 in
set_option maxRecDepth 100000 in
theorem identity_any (w : World) : Calls Try.prog 77 #[] w fun e w' => e = .returned (.agg (arr idA)) ∧ Below w.heap.size w w' := by
  go_enter Try.func77, Try.ntmps77
  go_wp2_with fail
  go_rounds 12
  exact bodyPost_ret (v := .agg (arr idA)) (by simp [results, Try.results77, go_sem, arr, idA]) rfl ⟨rfl, by go_grown⟩

/-- An action that goes on with a letter, k places done. -/
def thenK (row act : List Int) (k : Nat) : List Int := (act.take k).map (fun q => row.getD q.toNat 0) ++ act.drop k
theorem thenK_len (row act : List Int) (k : Nat) : (thenK row act k).length = act.length := by simp [thenK]; omega
theorem thenK_0 (row act : List Int) : thenK row act 0 = act := by simp [thenK]
theorem thenK_at {row act : List Int} {k : Nat} : (thenK row act k)[k]? = act[k]? := by
  unfold thenK
  rcases Nat.lt_or_ge k act.length with h | h
  · rw [List.getElem?_append_right (by simp; omega)]
    simp [Nat.min_eq_left (Nat.le_of_lt h)]
  · rw [List.getElem?_eq_none h, List.getElem?_eq_none (by simp; omega)]
theorem thenK_step {row act : List Int} {k : Nat} {q : Int} (hq : act[k]? = some q) : (thenK row act k).set k (row.getD q.toNat 0) = thenK row act (k + 1) := by
  have hk : k < act.length := by
    rcases Nat.lt_or_ge k act.length with h | h
    · exact h
    · rw [List.getElem?_eq_none h] at hq; cases hq
  have hl : ((act.take k).map (fun q => row.getD q.toNat 0)).length = k := by rw [List.length_map, List.length_take]; omega
  unfold thenK
  rw [take_snoc hq, List.map_append, List.set_append_right _ _ (by rw [hl]; exact Nat.le_refl _), hl, Nat.sub_self, List.drop_eq_getElem_cons hk, List.set_cons_zero]
  simp
theorem arr_set (l : List Int) (k : Nat) (v : Int) : (arr l).setIfInBounds k (.int .i64 v) = arr (l.set k v) := by
  unfold arr
  rw [List.setIfInBounds_toArray, List.map_set]
theorem arr_size (l : List Int) : (arr l).size = l.length := by simp [arr]
theorem arr_at (l : List Int) (k : Nat) : (arr l)[k]? = l[k]?.map (Value.int .i64) := by simp [arr]
theorem arr_one (l : List Int) : (arr l).all (·.oneCell') = true := all_oneCell_toArray (ints_oneCell .i64 l)
theorem size_act : (Try.prog.info? 113).map (·.size) = some 10 := by kernel_rfl

set_option linter.unusedVariables false in
/-- A whole array stored: the block holds just it. -/
theorem setCells_shape (b : Nat) {t : TypeId} : ∀ (vs : List Value) (o : Nat) (w : World) (cs : Array Value), w.heap[b]? = some (.cells cs t (0, 0)) → ∃ cs', (w.setCells b o vs).heap[b]? = some (.cells cs' t (0, 0)) ∧ cs'.size = cs.size
  | [], _, _, cs, h => ⟨cs, h, rfl⟩
  | v :: vs, o, w, cs, h => by
    obtain ⟨cs', h1, h2⟩ := setCells_shape b vs (o + 1) (w.setCell ⟨b, o, none⟩ v) (cs.setIfInBounds o v) (heap_setCell_same w b o cs t v h)
    exact ⟨cs', h1, by rw [h2, Array.size_setIfInBounds]⟩
theorem there_of {w : World} {b : Nat} {t : TypeId} {cs : Array Value} {n : Nat} (h : w.heap[b]? = some (.cells cs t (0, 0))) (hn : n ≤ cs.size) : w.there b 0 n := fun j hj => by
  rw [Nat.zero_add, cell_of_row w b j cs t _ h]
  exact ⟨by rw [Array.getElem?_eq_getElem (by omega)]; rfl, frozen_of_row w b j cs t h⟩
theorem setCells_whole {w : World} {b : Nat} {t : TypeId} {cs : Array Value} {vs : List Value} (h : w.heap[b]? = some (.cells cs t (0, 0))) (hl : vs.length = cs.size) : (w.setCells b 0 vs).heap[b]? = some (.cells vs.toArray t (0, 0)) := by
  obtain ⟨cs', h1, h2⟩ := setCells_shape b vs 0 w cs h
  have e : cs' = vs.toArray := by
    apply Array.ext (by simp [h2, hl])
    intro j hj _
    have hjv : j < vs.length := by omega
    have hr := World.rangeAt_setCells_same w b 0 vs (there_of h (by omega)) j vs[j] (List.getElem?_eq_getElem hjv)
    rw [Nat.zero_add, cell_of_row _ b j cs' t _ h1, Array.getElem?_eq_getElem hj] at hr
    simpa using Option.some.inj hr
  rw [h1, e]
set_option linter.unusedVariables false in
theorem setCells_other (b : Nat) : ∀ (vs : List Value) (o : Nat) (w : World) (k : Nat), k ≠ b → (w.setCells b o vs).heap[k]? = w.heap[k]?
  | [], _, _, _, _ => rfl
  | v :: vs, o, w, k, h => (setCells_other b vs (o + 1) (w.setCell ⟨b, o, none⟩ v) k h).trans (heap_setCell_other w ⟨b, o, none⟩ k v h)
set_option linter.unusedVariables false in
theorem setCells_below {B b : Nat} (hb : B ≤ b) {a : World} : ∀ (vs : List Value) (o : Nat) (w : World), Below B a w → Below B a (w.setCells b o vs)
  | [], _, _, h => h
  | v :: vs, o, w, h => setCells_below hb vs (o + 1) _ (h.setCell hb v)
set_option linter.unusedVariables false in
theorem size_setCells' (b : Nat) : ∀ (vs : List Value) (o : Nat) (w : World), (w.setCells b o vs).heap.size = w.heap.size
  | [], _, _ => rfl
  | v :: vs, o, w => (size_setCells' b vs (o + 1) _).trans (World.size_setCell ..)

def ThenAt (w : World) (row act : List Int) (k : Nat) (wr : World) : Prop :=
  wr.heap[w.heap.size]? = some (.cells (arr (thenK row act k)) 113 (0, 0)) ∧ wr.heap[w.heap.size + 1]? = some (.cells (arr [0, 0, 0, 0, 0, 0, 0, 0, 0, 0]) 113 (0, 0)) ∧ Below w.heap.size w wr
theorem thenAt_step {w wr : World} {row act : List Int} {k : Nat} {q : Int} (h : ThenAt w row act k wr) (hq : act[k]? = some q) : ThenAt w row act (k + 1) (wr.setCell ⟨w.heap.size, k, none⟩ (.int .i64 (row.getD q.toNat 0))) := by
  obtain ⟨h1, h2, h3⟩ := h
  refine ⟨?_, ?_, h3.setCell (Nat.le_refl _) _⟩
  · rw [heap_setCell_same wr w.heap.size k _ _ _ h1, arr_set, thenK_step hq]
  · rw [heap_setCell_other wr ⟨w.heap.size, k, none⟩ (w.heap.size + 1) _ (by simp)]
    exact h2

/-- The action of a word as the program has it: ten places. -/
def actK (n : Nat) (xss : List (List Int)) (ws : List Int) : List Int := ws.foldl (fun act x => thenK (xss.getD x.toNat []) act n) idA
theorem actK_nil (n : Nat) (xss : List (List Int)) : actK n xss [] = idA := rfl
theorem actK_snoc {n : Nat} {xss : List (List Int)} {ws : List Int} {k : Nat} {x : Int} (hx : ws[k]? = some x) : actK n xss (ws.take (k + 1)) = thenK (xss.getD x.toNat []) (actK n xss (ws.take k)) n := by
  rw [take_snoc hx]; simp [actK, List.foldl_append]
theorem idA_at {k : Nat} (h : k < 10) : idA[k]? = some (k : Int) := by
  rcases (show k = 0 ∨ k = 1 ∨ k = 2 ∨ k = 3 ∨ k = 4 ∨ k = 5 ∨ k = 6 ∨ k = 7 ∨ k = 8 ∨ k = 9 by omega) with rfl | rfl | rfl | rfl | rfl | rfl | rfl | rfl | rfl | rfl <;> rfl
theorem actK_is {n m : Nat} {xss : List (List Int)} (hg : Good n m xss) (ws : List Int) (hw : ∀ x ∈ ws, 0 ≤ x ∧ x < (m : Int)) :
    ∀ k, k ≤ ws.length → (actK n xss (ws.take k)).length = 10 ∧ ∀ q, q < n → (actK n xss (ws.take k))[q]? = some ((toS xss (ws.take k) q : Nat) : Int)
  | 0, _ => ⟨rfl, fun q hq => by rw [List.take_zero, actK_nil, idA_at (by have := hg.n10; omega)]; rfl⟩
  | k + 1, hk => by
    obtain ⟨h1, h2⟩ := actK_is hg ws hw k (by omega)
    obtain ⟨x, hx⟩ : ∃ x, ws[k]? = some x := ⟨_, List.getElem?_eq_getElem (by omega)⟩
    have hxm := hw x (List.mem_of_getElem? hx)
    obtain ⟨row, hrow, hrl⟩ := hg.row (show x.toNat < m by omega)
    rw [actK_snoc hx]
    refine ⟨by rw [thenK_len, h1], fun q hq => ?_⟩
    have hq' := h2 q hq
    rw [toS_snoc hx]
    obtain ⟨hn1, _⟩ := hg.next hrow (hg.to (ws.take k) q (fun y hy => hw y (List.mem_of_mem_take hy)) hq)
    have hrd : xss.getD x.toNat [] = row := by simp [List.getD, hrow]
    unfold thenK
    rw [List.getElem?_append_left (by rw [List.length_map, List.length_take, h1]; have := hg.n10; omega), List.getElem?_map, List.getElem?_take, if_pos hq, hq', hrd]
    simp [List.getD, hn1]

theorem ten {l : List Int} (h : l.length = 10) : ∃ a0 a1 a2 a3 a4 a5 a6 a7 a8 a9, l = [a0, a1, a2, a3, a4, a5, a6, a7, a8, a9] := by
  match l, h with
  | [a0, a1, a2, a3, a4, a5, a6, a7, a8, a9], _ => exact ⟨a0, a1, a2, a3, a4, a5, a6, a7, a8, a9, rfl⟩

/-- What the blocks of wordAction hold: the automaton's box, the result, the action so far. -/
structure ActAt (w : World) (G : Nat) (s : Int) (A : Option Addr) (m cap : Nat) (act : List Int) (wr : World) : Prop where
  box : wr.heap[w.heap.size]? = some (.cells #[.int .i64 s, .slice A m cap] 31 (0, 0))
  res : wr.heap[w.heap.size + 1]? = some (.cells (arr [0, 0, 0, 0, 0, 0, 0, 0, 0, 0]) 113 (0, 0))
  cur : wr.heap[G]? = some (.cells (arr act) 113 (0, 0))
  bel : Below w.heap.size w wr
theorem block_lt {w : World} {g : Nat} {o : Obj} (h : w.heap[g]? = some o) : g < w.heap.size := by
  rcases Nat.lt_or_ge g w.heap.size with hlt | hge
  · exact hlt
  · rw [Array.getElem?_eq_none hge] at h; cases h
theorem ActAt.below {w wr w' : World} {G : Nat} {s : Int} {A : Option Addr} {m cap : Nat} {act : List Int} (h : ActAt w G s A m cap act wr) (hb : Below wr.heap.size wr w') : ActAt w G s A m cap act w' :=
  ⟨(hb.block _ (block_lt h.box)).trans h.box, (hb.block _ (block_lt h.res)).trans h.res, (hb.block _ (block_lt h.cur)).trans h.cur, below_then h.bel hb⟩

theorem actAt_set {w w2 : World} {G : Nat} {s : Int} {A : Option Addr} {m cap : Nat} {act act' : List Int} {z0 z1 z2 z3 z4 z5 z6 z7 z8 z9 : Int} (h : ActAt w G s A m cap act w2) (hG : w.heap.size + 1 < G) (hl : act.length = 10) (ha : arr act' = #[.int .i64 z0, .int .i64 z1, .int .i64 z2, .int .i64 z3, .int .i64 z4, .int .i64 z5, .int .i64 z6, .int .i64 z7, .int .i64 z8, .int .i64 z9]) :
    ActAt w G s A m cap act' (w2.setCells G 0 [.int .i64 z0, .int .i64 z1, .int .i64 z2, .int .i64 z3, .int .i64 z4, .int .i64 z5, .int .i64 z6, .int .i64 z7, .int .i64 z8, .int .i64 z9]) := by
  refine ⟨?_, ?_, ?_, setCells_below (by omega) _ _ _ h.bel⟩
  · rw [setCells_other _ _ _ _ _ (by omega)]; exact h.box
  · rw [setCells_other _ _ _ _ _ (by omega)]; exact h.res
  · rw [ha]; exact setCells_whole h.cur (by rw [arr_size, hl]; rfl)

end Go.Proofs.Ytdelanjkaokiaaa
