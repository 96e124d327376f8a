/-
  Actions as arrays of ten numbers: the contracts of identity, then, wordAction, list and slices.Clone, and of the program's ActionOf.
-/
import Derived.Test.YtcglncepmieaaaaTo
import Derived.Deep.MidRow
import Derived.Laws.AppendOwnNone
namespace Go.Proofs.Ytcglncepmieaaaa
open Go.RowKit Go.Deep Go.ChangeShapes Go.WideShapes

def arr (act : List Int) : Array Value := (act.map (Value.int .i64)).toArray
def idA : List Int := [0, 1, 2, 3, 4, 5, 6, 7, 8, 9]

set_option maxHeartbeats 2000000 in
set_option maxRecDepth 100000 in
theorem identity_any (w : World) : Calls Try.prog 67 #[] w fun e w' => e = .returned (.agg (arr idA)) ∧ Below w.heap.size w w' := by
  go_enter Try.func67, Try.ntmps67
  go_wp2_with fail
  go_rounds 12
  exact bodyPost_ret (v := .agg (arr idA)) (by simp [results, Try.results67, go_sem, arr, idA]) rfl ⟨rfl, by go_grown⟩

/-- An action that goes on with a letter, k places done. -/
def thenK (row act : List Int) (k : Nat) : List Int := (act.take k).map (fun q => row.getD q.toNat 0) ++ act.drop k
theorem thenK_len (row act : List Int) (k : Nat) : (thenK row act k).length = act.length := by simp [thenK]; omega
theorem thenK_0 (row act : List Int) : thenK row act 0 = act := by simp [thenK]
theorem thenK_at {row act : List Int} {k : Nat} : (thenK row act k)[k]? = act[k]? := by
  unfold thenK
  rcases Nat.lt_or_ge k act.length with h | h
  · rw [List.getElem?_append_right (by simp; omega)]
    simp [Nat.min_eq_left (Nat.le_of_lt h)]
  · rw [List.getElem?_eq_none h, List.getElem?_eq_none (by simp; omega)]
theorem thenK_step {row act : List Int} {k : Nat} {q : Int} (hq : act[k]? = some q) : (thenK row act k).set k (row.getD q.toNat 0) = thenK row act (k + 1) := by
  have hk : k < act.length := by
    rcases Nat.lt_or_ge k act.length with h | h
    · exact h
    · rw [List.getElem?_eq_none h] at hq; cases hq
  have hl : ((act.take k).map (fun q => row.getD q.toNat 0)).length = k := by rw [List.length_map, List.length_take]; omega
  unfold thenK
  rw [take_snoc hq, List.map_append, List.set_append_right _ _ (by rw [hl]; exact Nat.le_refl _), hl, Nat.sub_self, List.drop_eq_getElem_cons hk, List.set_cons_zero]
  simp
theorem arr_set (l : List Int) (k : Nat) (v : Int) : (arr l).setIfInBounds k (.int .i64 v) = arr (l.set k v) := by
  unfold arr
  rw [List.setIfInBounds_toArray, List.map_set]
theorem arr_size (l : List Int) : (arr l).size = l.length := by simp [arr]
theorem arr_at (l : List Int) (k : Nat) : (arr l)[k]? = l[k]?.map (Value.int .i64) := by simp [arr]
theorem arr_one (l : List Int) : (arr l).all (·.oneCell') = true := all_oneCell_toArray (ints_oneCell .i64 l)
theorem size_act : (Try.prog.info? 90).map (·.size) = some 10 := by kernel_rfl

set_option linter.unusedVariables false in
/-- A whole array stored: the block holds just it. -/
theorem setCells_shape (b : Nat) {t : TypeId} : ∀ (vs : List Value) (o : Nat) (w : World) (cs : Array Value), w.heap[b]? = some (.cells cs t (0, 0)) → ∃ cs', (w.setCells b o vs).heap[b]? = some (.cells cs' t (0, 0)) ∧ cs'.size = cs.size
  | [], _, _, cs, h => ⟨cs, h, rfl⟩
  | v :: vs, o, w, cs, h => by
    obtain ⟨cs', h1, h2⟩ := setCells_shape b vs (o + 1) (w.setCell ⟨b, o, none⟩ v) (cs.setIfInBounds o v) (heap_setCell_same w b o cs t v h)
    exact ⟨cs', h1, by rw [h2, Array.size_setIfInBounds]⟩
theorem there_of {w : World} {b : Nat} {t : TypeId} {cs : Array Value} {n : Nat} (h : w.heap[b]? = some (.cells cs t (0, 0))) (hn : n ≤ cs.size) : w.there b 0 n := fun j hj => by
  rw [Nat.zero_add, cell_of_row w b j cs t _ h]
  exact ⟨by rw [Array.getElem?_eq_getElem (by omega)]; rfl, frozen_of_row w b j cs t h⟩
theorem setCells_whole {w : World} {b : Nat} {t : TypeId} {cs : Array Value} {vs : List Value} (h : w.heap[b]? = some (.cells cs t (0, 0))) (hl : vs.length = cs.size) : (w.setCells b 0 vs).heap[b]? = some (.cells vs.toArray t (0, 0)) := by
  obtain ⟨cs', h1, h2⟩ := setCells_shape b vs 0 w cs h
  have e : cs' = vs.toArray := by
    apply Array.ext (by simp [h2, hl])
    intro j hj _
    have hjv : j < vs.length := by omega
    have hr := World.rangeAt_setCells_same w b 0 vs (there_of h (by omega)) j vs[j] (List.getElem?_eq_getElem hjv)
    rw [Nat.zero_add, cell_of_row _ b j cs' t _ h1, Array.getElem?_eq_getElem hj] at hr
    simpa using Option.some.inj hr
  rw [h1, e]
set_option linter.unusedVariables false in
theorem setCells_other (b : Nat) : ∀ (vs : List Value) (o : Nat) (w : World) (k : Nat), k ≠ b → (w.setCells b o vs).heap[k]? = w.heap[k]?
  | [], _, _, _, _ => rfl
  | v :: vs, o, w, k, h => (setCells_other b vs (o + 1) (w.setCell ⟨b, o, none⟩ v) k h).trans (heap_setCell_other w ⟨b, o, none⟩ k v h)
set_option linter.unusedVariables false in
theorem setCells_below {B b : Nat} (hb : B ≤ b) {a : World} : ∀ (vs : List Value) (o : Nat) (w : World), Below B a w → Below B a (w.setCells b o vs)
  | [], _, _, h => h
  | v :: vs, o, w, h => setCells_below hb vs (o + 1) _ (h.setCell hb v)
set_option linter.unusedVariables false in
theorem size_setCells' (b : Nat) : ∀ (vs : List Value) (o : Nat) (w : World), (w.setCells b o vs).heap.size = w.heap.size
  | [], _, _ => rfl
  | v :: vs, o, w => (size_setCells' b vs (o + 1) _).trans (World.size_setCell ..)

def ThenAt (w : World) (row act : List Int) (k : Nat) (wr : World) : Prop :=
  wr.heap[w.heap.size]? = some (.cells (arr (thenK row act k)) 90 (0, 0)) ∧ wr.heap[w.heap.size + 1]? = some (.cells (arr [0, 0, 0, 0, 0, 0, 0, 0, 0, 0]) 90 (0, 0)) ∧ Below w.heap.size w wr
theorem thenAt_step {w wr : World} {row act : List Int} {k : Nat} {q : Int} (h : ThenAt w row act k wr) (hq : act[k]? = some q) : ThenAt w row act (k + 1) (wr.setCell ⟨w.heap.size, k, none⟩ (.int .i64 (row.getD q.toNat 0))) := by
  obtain ⟨h1, h2, h3⟩ := h
  refine ⟨?_, ?_, h3.setCell (Nat.le_refl _) _⟩
  · rw [heap_setCell_same wr w.heap.size k _ _ _ h1, arr_set, thenK_step hq]
  · rw [heap_setCell_other wr ⟨w.heap.size, k, none⟩ (w.heap.size + 1) _ (by simp)]
    exact h2

set_option maxHeartbeats 2000000 in
set_option maxRecDepth 100000 in
theorem then_any (A : Option Addr) (n c : Nat) (row act : List Int) (w : World) (h : NumsAt w A n row) (hlen : act.length = 10) (hn : n ≤ 10) (hact : ∀ (k : Nat) (q : Int), k < n → act[k]? = some q → 0 ≤ q ∧ q < (n : Int)) :
    Calls Try.prog 132 #[.agg (arr act), .slice A n c] w fun e w' => e = .returned (.agg (arr (thenK row act n))) ∧ Below w.heap.size w w' := by
  have HA := Lib.hid hact
  have HL := Lib.hid hlen
  have HR := Lib.hid h.1
  have h0 : ThenAt w row act 0 ((w.alloc (.cells (arr act) 90)).alloc (.cells (arr [0, 0, 0, 0, 0, 0, 0, 0, 0, 0]) 90)) := by
    refine ⟨?_, ?_, by go_grown⟩
    · rw [thenK_0, Below.heap_alloc _ _ _ (by simp)]
      exact heap_alloc_new _ _
    · have := heap_alloc_new (w.alloc (.cells (arr act) 90)) (.cells (arr [0, 0, 0, 0, 0, 0, 0, 0, 0, 0]) 90)
      simpa using this
  have H0 := Lib.hid h0
  clear hact hlen h0
  go_enter Try.func132, Try.ntmps132
  go_wp2_with fail
  go_loopw [8] (fun i wr => ∃ k : Nat, k ≤ n ∧ i = .int .i64 k ∧ ThenAt w row act k wr) (fun i _ => n - (intOf i).toNat)
  case atStart => exact ⟨0, Nat.zero_le _, rfl, H0.out⟩
  case round =>
    obtain ⟨k, hk, rfl, hth⟩ := hrel
    have HT := Lib.hid hth
    clear hth H0
    by_cases hlt : k < n
    · obtain ⟨q, hq⟩ : ∃ q, act[k]? = some q := ⟨_, List.getElem?_eq_getElem (by rw [HL.out]; omega)⟩
      have hqn := HA.out k q hlt hq
      obtain ⟨p, rfl⟩ : ∃ p : Nat, q = (p : Int) := ⟨q.toNat, by omega⟩
      obtain ⟨x, b, off, hx, rfl, hc⟩ := h.at_ (show p < n by omega)
      have hc' : wr.cell? ⟨b, off + p, none⟩ = some (.int .i64 x) := (HT.out.2.2.cell (cell_lt hc)).trans hc
      have hd : wr.cell? ⟨w.heap.size, k, none⟩ = some (.int .i64 (p : Int)) := by
        rw [cell_of_row wr w.heap.size k _ _ _ HT.out.1, arr_at, thenK_at, hq]; rfl
      have hf : wr.frozen? ⟨w.heap.size, k, none⟩ = false := frozen_of_row wr w.heap.size k _ _ HT.out.1
      have hxr : x = row.getD (p : Int).toNat 0 := by simp [List.getD, hx]
      have HQ := Lib.hid hq
      have HX := Lib.hid hxr
      have i1 : (0 : Int) ≤ (k : Int) := by omega
      have i2 : (k : Int) < (n : Int) := by omega
      have i3 : (k : Int) < 10 := by omega
      have i4 : (0 : Int) ≤ (p : Int) := by omega
      have i5 : (p : Int) < (n : Int) := by omega
      clear hq hqn hx hc hxr
      go_wp2_with fail
      go_roundw
      case rel => exact ⟨k + 1, by omega, by go_num, by rw [HX.out]; exact thenAt_step HT.out HQ.out⟩
      case measure => simp [intOf]; omega
    · have hkn : k = n := by omega
      subst hkn
      have hs : (thenK row act k).length = 10 := by rw [thenK_len, HL.out]
      have HSZ := Lib.hid hs
      clear hs
      go_wp2_with (first
        | (refine wpList_load_row rfl 90 _ rfl w.heap.size rfl 90 _ (0, 0) _ HT.out.1 Try.underlying90 rfl (by rw [arr_size, HSZ.out]; exact size_act) ?_)
        | (refine wpList_store_mid rfl 90 _ _ rfl (w.heap.size + 1) 0 (arr (thenK row act k)) rfl rfl (there_of HT.out.2.1 (by rw [arr_size, arr_size, HSZ.out]; decide)) (by rw [arr_size, HSZ.out]; exact size_act) (arr_one _) ?_))
      have hw := setCells_whole (vs := (arr (thenK row act k)).toList) HT.out.2.1 (by rw [Array.length_toList, arr_size, arr_size, HSZ.out]; rfl)
      rw [Array.toArray_toList] at hw
      exact bodyPost_ret (v := .agg (arr (thenK row act k))) (results_cell_row rfl _ _ (w.heap.size + 1) 90 _ (0, 0) _ rfl hw Try.underlying90 rfl (by rw [arr_size, HSZ.out]; exact size_act)) rfl ⟨rfl, setCells_below (by omega) _ _ _ HT.out.2.2⟩

/-- The action of a word as the program has it: ten places. -/
def actK (n : Nat) (xss : List (List Int)) (ws : List Int) : List Int := ws.foldl (fun act x => thenK (xss.getD x.toNat []) act n) idA
theorem actK_nil (n : Nat) (xss : List (List Int)) : actK n xss [] = idA := rfl
theorem actK_snoc {n : Nat} {xss : List (List Int)} {ws : List Int} {k : Nat} {x : Int} (hx : ws[k]? = some x) : actK n xss (ws.take (k + 1)) = thenK (xss.getD x.toNat []) (actK n xss (ws.take k)) n := by
  rw [take_snoc hx]; simp [actK, List.foldl_append]
theorem idA_at {k : Nat} (h : k < 10) : idA[k]? = some (k : Int) := by
  rcases (show k = 0 ∨ k = 1 ∨ k = 2 ∨ k = 3 ∨ k = 4 ∨ k = 5 ∨ k = 6 ∨ k = 7 ∨ k = 8 ∨ k = 9 by omega) with rfl | rfl | rfl | rfl | rfl | rfl | rfl | rfl | rfl | rfl <;> rfl
theorem actK_is {n m : Nat} {xss : List (List Int)} (hg : Good n m xss) (ws : List Int) (hw : ∀ x ∈ ws, 0 ≤ x ∧ x < (m : Int)) :
    ∀ k, k ≤ ws.length → (actK n xss (ws.take k)).length = 10 ∧ ∀ q, q < n → (actK n xss (ws.take k))[q]? = some ((toS xss (ws.take k) q : Nat) : Int)
  | 0, _ => ⟨rfl, fun q hq => by rw [List.take_zero, actK_nil, idA_at (by have := hg.n10; omega)]; rfl⟩
  | k + 1, hk => by
    obtain ⟨h1, h2⟩ := actK_is hg ws hw k (by omega)
    obtain ⟨x, hx⟩ : ∃ x, ws[k]? = some x := ⟨_, List.getElem?_eq_getElem (by omega)⟩
    have hxm := hw x (List.mem_of_getElem? hx)
    obtain ⟨row, hrow, hrl⟩ := hg.row (show x.toNat < m by omega)
    rw [actK_snoc hx]
    refine ⟨by rw [thenK_len, h1], fun q hq => ?_⟩
    have hq' := h2 q hq
    rw [toS_snoc hx]
    obtain ⟨hn1, _⟩ := hg.next hrow (hg.to (ws.take k) q (fun y hy => hw y (List.mem_of_mem_take hy)) hq)
    have hrd : xss.getD x.toNat [] = row := by simp [List.getD, hrow]
    unfold thenK
    rw [List.getElem?_append_left (by rw [List.length_map, List.length_take, h1]; have := hg.n10; omega), List.getElem?_map, List.getElem?_take, if_pos hq, hq', hrd]
    simp [List.getD, hn1]

theorem ten {l : List Int} (h : l.length = 10) : ∃ a0 a1 a2 a3 a4 a5 a6 a7 a8 a9, l = [a0, a1, a2, a3, a4, a5, a6, a7, a8, a9] := by
  match l, h with
  | [a0, a1, a2, a3, a4, a5, a6, a7, a8, a9], _ => exact ⟨a0, a1, a2, a3, a4, a5, a6, a7, a8, a9, rfl⟩

/-- What the blocks of wordAction hold: the automaton's box, the result, the action so far. -/
structure ActAt (w : World) (G : Nat) (s : Int) (A : Option Addr) (m cap : Nat) (act : List Int) (wr : World) : Prop where
  box : wr.heap[w.heap.size]? = some (.cells #[.int .i64 s, .slice A m cap] 28 (0, 0))
  res : wr.heap[w.heap.size + 1]? = some (.cells (arr [0, 0, 0, 0, 0, 0, 0, 0, 0, 0]) 90 (0, 0))
  cur : wr.heap[G]? = some (.cells (arr act) 90 (0, 0))
  bel : Below w.heap.size w wr
theorem block_lt {w : World} {g : Nat} {o : Obj} (h : w.heap[g]? = some o) : g < w.heap.size := by
  rcases Nat.lt_or_ge g w.heap.size with hlt | hge
  · exact hlt
  · rw [Array.getElem?_eq_none hge] at h; cases h
theorem ActAt.below {w wr w' : World} {G : Nat} {s : Int} {A : Option Addr} {m cap : Nat} {act : List Int} (h : ActAt w G s A m cap act wr) (hb : Below wr.heap.size wr w') : ActAt w G s A m cap act w' :=
  ⟨(hb.block _ (block_lt h.box)).trans h.box, (hb.block _ (block_lt h.res)).trans h.res, (hb.block _ (block_lt h.cur)).trans h.cur, below_then h.bel hb⟩

theorem actAt_set {w w2 : World} {G : Nat} {s : Int} {A : Option Addr} {m cap : Nat} {act act' : List Int} {z0 z1 z2 z3 z4 z5 z6 z7 z8 z9 : Int} (h : ActAt w G s A m cap act w2) (hG : w.heap.size + 1 < G) (hl : act.length = 10) (ha : arr act' = #[.int .i64 z0, .int .i64 z1, .int .i64 z2, .int .i64 z3, .int .i64 z4, .int .i64 z5, .int .i64 z6, .int .i64 z7, .int .i64 z8, .int .i64 z9]) :
    ActAt w G s A m cap act' (w2.setCells G 0 [.int .i64 z0, .int .i64 z1, .int .i64 z2, .int .i64 z3, .int .i64 z4, .int .i64 z5, .int .i64 z6, .int .i64 z7, .int .i64 z8, .int .i64 z9]) := by
  refine ⟨?_, ?_, ?_, setCells_below (by omega) _ _ _ h.bel⟩
  · rw [setCells_other _ _ _ _ _ (by omega)]; exact h.box
  · rw [setCells_other _ _ _ _ _ (by omega)]; exact h.res
  · rw [ha]; exact setCells_whole h.cur (by rw [arr_size, hl]; rfl)

set_option maxHeartbeats 4000000 in
set_option maxRecDepth 100000 in
theorem wordAction_any (A A' : Option Addr) (n m cap l cap' : Nat) (xss : List (List Int)) (ws : List Int) (w : World) (hg : Good n m xss) (h : RowsAt w A m xss) (h' : NumsAt w A' l ws)
    (hw : ∀ x ∈ ws, 0 ≤ x ∧ x < (m : Int)) (hl : l ≤ 4611686018427387904) :
    Calls Try.prog 90 #[.agg #[.int .i64 (n : Int), .slice A m cap], .slice A' l cap'] w fun e w' => e = .returned (.agg (arr (actK n xss ws))) ∧ Below w.heap.size w w' := by
  have HG := Lib.hid hg
  have HWS := Lib.hid hw
  have HL := Lib.hid h'.1
  have HK := Lib.hid (actK_is hg ws hw)
  clear hg hw
  go_enter Try.func90, Try.ntmps90
  go_wp2_with fail
  refine (identity_any _).mono ?_
  rw [show arr idA = #[.int .i64 0, .int .i64 1, .int .i64 2, .int .i64 3, .int .i64 4, .int .i64 5, .int .i64 6, .int .i64 7, .int .i64 8, .int .i64 9] from rfl]
  rintro e w1 ⟨rfl, b1⟩
  have hlt : w.heap.size + 1 < w1.heap.size := by have := b1.size; simp at this; omega
  have hx0 : w1.heap[w.heap.size]? = some (.cells #[.int .i64 (n : Int), .slice A m cap] 28 (0, 0)) := by
    rw [b1.block _ (by simp; omega), Below.heap_alloc _ _ _ (by simp)]
    exact heap_alloc_new _ _
  have hx1 : w1.heap[w.heap.size + 1]? = some (.cells (arr [0, 0, 0, 0, 0, 0, 0, 0, 0, 0]) 90 (0, 0)) := by
    rw [b1.block _ (by simp)]
    have := heap_alloc_new (w.alloc (.cells #[.int .i64 (n : Int), .slice A m cap] 28)) (.cells (arr [0, 0, 0, 0, 0, 0, 0, 0, 0, 0]) 90)
    rw [World.size_alloc] at this
    exact this
  have hbw : Below w.heap.size w w1 := Below.trans (by go_grown) (b1.mono (by simp; omega))
  have h0 : ActAt w w1.heap.size (n : Int) A m cap (actK n xss (ws.take 0)) (w1.alloc (.cells (arr idA) 90)) := by
    refine ⟨?_, ?_, ?_, hbw.alloc hbw.size _⟩
    · rw [Below.heap_alloc _ _ _ (by omega)]; exact hx0
    · rw [Below.heap_alloc _ _ _ (by omega)]; exact hx1
    · exact heap_alloc_new _ _
  have H0 := Lib.hid h0
  have HLT := Lib.hid hlt
  clear hx0 hx1 hbw h0 b1 hlt
  go_wp2_with fail
  go_loopw [11] (fun i wr => ∃ k : Nat, k ≤ l ∧ i = .int .i64 k ∧ ActAt w w1.heap.size (n : Int) A m cap (actK n xss (ws.take k)) wr) (fun i _ => l - (intOf i).toNat)
  case atStart => exact ⟨0, Nat.zero_le _, rfl, H0.out⟩
  case round =>
    obtain ⟨k, hk, rfl, hat⟩ := hrel
    have HT := Lib.hid hat
    clear hat H0
    by_cases hlt : k < l
    · obtain ⟨x, b, off, hx, rfl, hc⟩ := (h'.below HT.out.bel).at_ hlt
      have hxm := HWS.out x (List.mem_of_getElem? hx)
      obtain ⟨xn, rfl⟩ : ∃ xn : Nat, x = (xn : Int) := ⟨x.toNat, by omega⟩
      have hxn : xn < m := by omega
      obtain ⟨row, b2, off2, A2, c2, hrow, hA2, hc2, hnum2⟩ := (h.below HT.out.bel).at_ hxn
      have hrl : row.length = n := (HG.out.rows xn row hrow).1
      obtain ⟨hl10, hq⟩ := HK.out k (by rw [HL.out]; omega)
      obtain ⟨a0, a1, a2, a3, a4, a5, a6, a7, a8, a9, hten⟩ := ten hl10
      have hstep : actK n xss (ws.take (k + 1)) = thenK row (actK n xss (ws.take k)) n := by
        rw [actK_snoc hx]; simp [List.getD, hrow]
      have hact : ∀ (j : Nat) (q : Int), j < n → (actK n xss (ws.take k))[j]? = some q → 0 ≤ q ∧ q < (n : Int) := by
        intro j q hj hjq
        rw [hq j hj] at hjq
        obtain rfl := Option.some.inj hjq
        have := HG.out.to (ws.take k) j (fun y hy => HWS.out y (List.mem_of_mem_take hy)) hj
        omega
      obtain ⟨z0, z1, z2, z3, z4, z5, z6, z7, z8, z9, hten2⟩ := ten (l := thenK row (actK n xss (ws.take k)) n) (by rw [thenK_len, hl10])
      have hl10' : ([a0, a1, a2, a3, a4, a5, a6, a7, a8, a9] : List Int).length = 10 := rfl
      rw [hten] at hstep hact hten2
      have hcur := HT.out.cur
      rw [hten] at hcur
      have hbb : arr (thenK row [a0, a1, a2, a3, a4, a5, a6, a7, a8, a9] n) = #[.int .i64 z0, .int .i64 z1, .int .i64 z2, .int .i64 z3, .int .i64 z4, .int .i64 z5, .int .i64 z6, .int .i64 z7, .int .i64 z8, .int .i64 z9] := by rw [hten2]; rfl
      have hstep2 : arr (actK n xss (ws.take (k + 1))) = #[.int .i64 z0, .int .i64 z1, .int .i64 z2, .int .i64 z3, .int .i64 z4, .int .i64 z5, .int .i64 z6, .int .i64 z7, .int .i64 z8, .int .i64 z9] := by rw [hstep]; exact hbb
      have g0 : ∀ W', Below wr.heap.size wr W' → W'.cell? ⟨w1.heap.size, 0, none⟩ = some (.int .i64 a0) := fun W' hb => (hb.cell (p := ⟨w1.heap.size, 0, none⟩) (block_lt hcur)).trans (cell_of_row wr w1.heap.size 0 _ _ _ hcur)
      have f0 : ∀ W', Below wr.heap.size wr W' → W'.frozen? ⟨w1.heap.size, 0, none⟩ = false := fun W' hb => (hb.frozen (p := ⟨w1.heap.size, 0, none⟩) (block_lt hcur)).trans (frozen_of_row wr w1.heap.size 0 _ _ hcur)
      have g1 : ∀ W', Below wr.heap.size wr W' → W'.cell? ⟨w1.heap.size, 1, none⟩ = some (.int .i64 a1) := fun W' hb => (hb.cell (p := ⟨w1.heap.size, 1, none⟩) (block_lt hcur)).trans (cell_of_row wr w1.heap.size 1 _ _ _ hcur)
      have f1 : ∀ W', Below wr.heap.size wr W' → W'.frozen? ⟨w1.heap.size, 1, none⟩ = false := fun W' hb => (hb.frozen (p := ⟨w1.heap.size, 1, none⟩) (block_lt hcur)).trans (frozen_of_row wr w1.heap.size 1 _ _ hcur)
      have g2 : ∀ W', Below wr.heap.size wr W' → W'.cell? ⟨w1.heap.size, 2, none⟩ = some (.int .i64 a2) := fun W' hb => (hb.cell (p := ⟨w1.heap.size, 2, none⟩) (block_lt hcur)).trans (cell_of_row wr w1.heap.size 2 _ _ _ hcur)
      have f2 : ∀ W', Below wr.heap.size wr W' → W'.frozen? ⟨w1.heap.size, 2, none⟩ = false := fun W' hb => (hb.frozen (p := ⟨w1.heap.size, 2, none⟩) (block_lt hcur)).trans (frozen_of_row wr w1.heap.size 2 _ _ hcur)
      have g3 : ∀ W', Below wr.heap.size wr W' → W'.cell? ⟨w1.heap.size, 3, none⟩ = some (.int .i64 a3) := fun W' hb => (hb.cell (p := ⟨w1.heap.size, 3, none⟩) (block_lt hcur)).trans (cell_of_row wr w1.heap.size 3 _ _ _ hcur)
      have f3 : ∀ W', Below wr.heap.size wr W' → W'.frozen? ⟨w1.heap.size, 3, none⟩ = false := fun W' hb => (hb.frozen (p := ⟨w1.heap.size, 3, none⟩) (block_lt hcur)).trans (frozen_of_row wr w1.heap.size 3 _ _ hcur)
      have g4 : ∀ W', Below wr.heap.size wr W' → W'.cell? ⟨w1.heap.size, 4, none⟩ = some (.int .i64 a4) := fun W' hb => (hb.cell (p := ⟨w1.heap.size, 4, none⟩) (block_lt hcur)).trans (cell_of_row wr w1.heap.size 4 _ _ _ hcur)
      have f4 : ∀ W', Below wr.heap.size wr W' → W'.frozen? ⟨w1.heap.size, 4, none⟩ = false := fun W' hb => (hb.frozen (p := ⟨w1.heap.size, 4, none⟩) (block_lt hcur)).trans (frozen_of_row wr w1.heap.size 4 _ _ hcur)
      have g5 : ∀ W', Below wr.heap.size wr W' → W'.cell? ⟨w1.heap.size, 5, none⟩ = some (.int .i64 a5) := fun W' hb => (hb.cell (p := ⟨w1.heap.size, 5, none⟩) (block_lt hcur)).trans (cell_of_row wr w1.heap.size 5 _ _ _ hcur)
      have f5 : ∀ W', Below wr.heap.size wr W' → W'.frozen? ⟨w1.heap.size, 5, none⟩ = false := fun W' hb => (hb.frozen (p := ⟨w1.heap.size, 5, none⟩) (block_lt hcur)).trans (frozen_of_row wr w1.heap.size 5 _ _ hcur)
      have g6 : ∀ W', Below wr.heap.size wr W' → W'.cell? ⟨w1.heap.size, 6, none⟩ = some (.int .i64 a6) := fun W' hb => (hb.cell (p := ⟨w1.heap.size, 6, none⟩) (block_lt hcur)).trans (cell_of_row wr w1.heap.size 6 _ _ _ hcur)
      have f6 : ∀ W', Below wr.heap.size wr W' → W'.frozen? ⟨w1.heap.size, 6, none⟩ = false := fun W' hb => (hb.frozen (p := ⟨w1.heap.size, 6, none⟩) (block_lt hcur)).trans (frozen_of_row wr w1.heap.size 6 _ _ hcur)
      have g7 : ∀ W', Below wr.heap.size wr W' → W'.cell? ⟨w1.heap.size, 7, none⟩ = some (.int .i64 a7) := fun W' hb => (hb.cell (p := ⟨w1.heap.size, 7, none⟩) (block_lt hcur)).trans (cell_of_row wr w1.heap.size 7 _ _ _ hcur)
      have f7 : ∀ W', Below wr.heap.size wr W' → W'.frozen? ⟨w1.heap.size, 7, none⟩ = false := fun W' hb => (hb.frozen (p := ⟨w1.heap.size, 7, none⟩) (block_lt hcur)).trans (frozen_of_row wr w1.heap.size 7 _ _ hcur)
      have g8 : ∀ W', Below wr.heap.size wr W' → W'.cell? ⟨w1.heap.size, 8, none⟩ = some (.int .i64 a8) := fun W' hb => (hb.cell (p := ⟨w1.heap.size, 8, none⟩) (block_lt hcur)).trans (cell_of_row wr w1.heap.size 8 _ _ _ hcur)
      have f8 : ∀ W', Below wr.heap.size wr W' → W'.frozen? ⟨w1.heap.size, 8, none⟩ = false := fun W' hb => (hb.frozen (p := ⟨w1.heap.size, 8, none⟩) (block_lt hcur)).trans (frozen_of_row wr w1.heap.size 8 _ _ hcur)
      have g9 : ∀ W', Below wr.heap.size wr W' → W'.cell? ⟨w1.heap.size, 9, none⟩ = some (.int .i64 a9) := fun W' hb => (hb.cell (p := ⟨w1.heap.size, 9, none⟩) (block_lt hcur)).trans (cell_of_row wr w1.heap.size 9 _ _ _ hcur)
      have f9 : ∀ W', Below wr.heap.size wr W' → W'.frozen? ⟨w1.heap.size, 9, none⟩ = false := fun W' hb => (hb.frozen (p := ⟨w1.heap.size, 9, none⟩) (block_lt hcur)).trans (frozen_of_row wr w1.heap.size 9 _ _ hcur)
      have e1 : ∀ W', Below wr.heap.size wr W' → W'.cell? ⟨w.heap.size, 1, none⟩ = some (.slice A m cap) := fun W' hb => (hb.cell (p := ⟨w.heap.size, 1, none⟩) (block_lt HT.out.box)).trans (cell_of_row wr w.heap.size 1 _ _ _ HT.out.box)
      have e2 : ∀ W', Below wr.heap.size wr W' → W'.cell? ⟨b2, off2 + xn, none⟩ = some (.slice A2 row.length c2) := fun W' hb => (hb.cell (cell_lt hc2)).trans hc2
      have hB0 : Below wr.heap.size wr wr := Below.refl _ _
      subst hA2
      have HNUM := Lib.hid hnum2
      have HRL := Lib.hid hrl
      have HACT := Lib.hid hact
      have HBB := Lib.hid hbb
      have HS2 := Lib.hid hstep2
      have HX := Lib.hid hx
      have HL10 := Lib.hid hl10
      have hn10 : n ≤ 10 := HG.out.n10
      have i1 : (0 : Int) ≤ (k : Int) := by omega
      have i2 : (k : Int) < (l : Int) := by omega
      have i3 : (0 : Int) ≤ (xn : Int) := by omega
      have i4 : (xn : Int) < (m : Int) := by omega
      clear hx hxm hrow hnum2 hrl hq hl10 hten hten2 hstep hact hbb hstep2 hcur hc2
      go_wp2_with fail
      go_region_with (go_at_call 132; rw [HRL.out]; refine (then_any _ n _ row [a0, a1, a2, a3, a4, a5, a6, a7, a8, a9] _ (by rw [← HRL.out]; exact HNUM.out.below (by first | assumption | exact below_drewN' (Below.refl _ _) 1)) rfl hn10 HACT.out).mono ?_; rw [HBB.out]; rintro e w2 ⟨rfl, bb2⟩; have hB2 : Below wr.heap.size wr w2 := below_then (by first | assumption | exact below_drewN' (Below.refl _ _) 1) bb2; clear bb2)
      all_goals
        go_wp2_with fail
        go_roundw
        case rel => exact ⟨k + 1, by omega, by go_num, actAt_set (HT.out.below (below_then (Below.refl _ _) (by assumption))) HLT.out HL10.out HS2.out⟩
        case measure => simp [intOf]; omega
    · have hkl : k = l := by omega
      subst hkl
      have hs : (actK n xss ws).length = 10 := by
        have := (HK.out ws.length (Nat.le_refl _)).1
        rwa [List.take_length] at this
      have hT := HT.out
      rw [List.take_of_length_le (Nat.le_of_eq HL.out)] at hT
      have HT2 := Lib.hid hT
      have HSZ := Lib.hid hs
      clear hs hT
      go_wp2_with (first
        | (refine wpList_load_row rfl 90 _ rfl w1.heap.size rfl 90 _ (0, 0) _ HT2.out.cur Try.underlying90 rfl (by rw [arr_size, HSZ.out]; exact size_act) ?_)
        | (refine wpList_store_mid rfl 90 _ _ rfl (w.heap.size + 1) 0 (arr (actK n xss ws)) rfl rfl (there_of HT2.out.res (by rw [arr_size, arr_size, HSZ.out]; decide)) (by rw [arr_size, HSZ.out]; exact size_act) (arr_one _) ?_))
      have hwh := setCells_whole (vs := (arr (actK n xss ws)).toList) HT2.out.res (by rw [Array.length_toList, arr_size, arr_size, HSZ.out]; rfl)
      rw [Array.toArray_toList] at hwh
      exact bodyPost_ret (v := .agg (arr (actK n xss ws))) (results_cell_row rfl _ _ (w.heap.size + 1) 90 _ (0, 0) _ rfl hwh Try.underlying90 rfl (by rw [arr_size, HSZ.out]; exact size_act)) rfl ⟨rfl, setCells_below (by omega) _ _ _ HT2.out.bel⟩

end Go.Proofs.Ytcglncepmieaaaa
