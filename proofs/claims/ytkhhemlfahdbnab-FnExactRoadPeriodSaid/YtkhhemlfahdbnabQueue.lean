/-
  A queue: a slice that the call made, cut at its head and grown at its end.
-/
import Derived.Test.YtkhhemlfahdbnabPut
import Derived.ArgAppend
import Derived.Deep.AppendLies
namespace Go.Proofs.Ytkhhemlfahdbnab
open Go.RowKit Go.Deep Go.ChangeShapes Go.WideShapes

def slLen : Value → Nat
  | .slice _ n _ => n
  | _ => 0
/-- v is a slice of the call's own memory, from some place of a block on, that holds xs. -/
def queueAt (w : World) (base : Nat) (v : Value) (xs : List Int) : Prop :=
  ∃ g off cap cur, v = .slice (some ⟨g, off, none⟩) xs.length cap ∧ base ≤ g ∧ w.heap[g]? = some (.cells cur 2 (0, 0)) ∧ xs.length ≤ cap ∧ off + cap ≤ cur.size ∧ ∀ (j : Nat) (x : Int), xs[j]? = some x → cur[off + j]? = some (.int .i64 x)
theorem queue_of_own {w : World} {base n : Nat} {v : Value} {xs : List Int} (h : w.ownsRow base 2 1 v n (xs.map (Value.int .i64))) (hn : 0 < n) : queueAt w base v xs := by
  have hl : xs.length = n := by have := h.1; simpa using this
  obtain ⟨_, h2⟩ := h
  rcases h2 with ⟨_, h0⟩ | ⟨g, cap, cur, rfl, hg, hh, hnc, _, hs, ht⟩
  · omega
  · refine ⟨g, 0, cap, cur, by rw [hl], hg, hh, by omega, by omega, fun j x hx => ?_⟩
    have hj : j < n := by
      rcases Nat.lt_or_ge j xs.length with a | a
      · omega
      · rw [List.getElem?_eq_none a] at hx; cases hx
    have e : (xs.map (Value.int .i64))[j]? = some (.int .i64 x) := by rw [List.getElem?_map, hx]; rfl
    rw [← ht, List.getElem?_take, if_pos (by omega)] at e
    rw [Nat.zero_add, ← e]
    simp
theorem queue_below {w w' : World} {base : Nat} {v : Value} {xs : List Int} (h : queueAt w base v xs) (hb : Below w.heap.size w w') : queueAt w' base v xs := by
  obtain ⟨g, off, cap, cur, hv, hg, hh, rest⟩ := h
  exact ⟨g, off, cap, cur, hv, hg, (hb.block g (block_lt hh)).trans hh, rest⟩
theorem queue_pop {w : World} {base : Nat} {v : Value} {x : Int} {xs : List Int} (h : queueAt w base v (x :: xs)) :
    ∃ g off cap, v = .slice (some ⟨g, off, none⟩) (xs.length + 1) (cap + 1) ∧ w.cell? ⟨g, off, none⟩ = some (.int .i64 x) ∧ xs.length ≤ cap ∧ queueAt w base (.slice (some ⟨g, off + 1, none⟩) xs.length cap) xs := by
  obtain ⟨g, off, cap, cur, rfl, hg, hh, hnc, hs, hc⟩ := h
  rw [List.length_cons] at hnc
  obtain ⟨c, rfl⟩ : ∃ c, cap = c + 1 := ⟨cap - 1, by omega⟩
  refine ⟨g, off, c, by rw [List.length_cons], ?_, by omega, g, off + 1, c, cur, rfl, hg, hh, by omega, by omega, fun j y hy => ?_⟩
  · have := hc 0 x rfl
    rw [cell_of_row w g off _ _ _ hh]
    exact this
  · have := hc (j + 1) y (by simpa using hy)
    rw [show off + 1 + j = off + (j + 1) by omega]
    exact this

theorem queue_block {w : World} {base : Nat} {v : Value} {xs : List Int} (h : queueAt w base v xs) : ∃ g, v.ownBlock = some g ∧ base ≤ g ∧ g < w.heap.size := by
  obtain ⟨g, off, cap, cur, rfl, hg, hh, _⟩ := h
  exact ⟨g, rfl, hg, block_lt hh⟩
theorem queue_len {w : World} {base : Nat} {v : Value} {xs : List Int} (h : queueAt w base v xs) : slLen v = xs.length := by
  obtain ⟨g, off, cap, cur, rfl, _⟩ := h
  rfl
theorem queue_zero {w : World} {base g off cap : Nat} {x : Int} {xs : List Int} (h : queueAt w base (.slice (some ⟨g, off, none⟩) (xs.length + 1) (cap + 1)) (x :: xs)) (hc : cap = 0) (hle : xs.length ≤ cap) : queueAt w base (.slice (some ⟨g, off, none⟩) xs.length 0) xs := by
  obtain ⟨g', off', cap', cur, hv, hg, hh, hnc, hs, hx⟩ := h
  simp only [Value.slice.injEq, Option.some.injEq, Addr.mk.injEq, and_true] at hv
  obtain ⟨⟨rfl, rfl⟩, _, rfl⟩ := hv
  have h0 : xs = [] := List.eq_nil_of_length_eq_zero (by omega)
  subst h0
  exact ⟨g, off, 0, cur, rfl, hg, hh, Nat.le_refl _, by omega, fun j x hx => by simp at hx⟩

theorem grown_setCell {w : World} {g o : Nat} {v : Value} {cur : Array Value} {t : TypeId} (_hh : w.heap[g]? = some (.cells cur t (0, 0))) : w.grownBy (w.setCell ⟨g, o, none⟩ v) (some g) :=
  ⟨rfl, rfl, rfl, by rw [World.size_setCell]; exact Nat.le_refl _, fun k _ hne => heap_setCell_other w ⟨g, o, none⟩ k v (fun e => hne (by rw [e]))⟩

theorem run_append_queue (w : World) (base : Nat) (v : Value) (xs : List Int) (hq : queueAt w base v xs) (ad : Addr) (c : Nat) (y : Int) (hnews : ∀ j u, [Value.int .i64 y][j]? = some u → w.cell? (ad.add j) = some u) (hlen : xs.length ≤ 1000) (hbase : base ≤ w.heap.size) :
    ∃ v' w', (Builtin.append_ #[64, 64] 64 #[v, .slice (some ad) 1 c]).run Try.prog w = .ok v' w' ∧ queueAt w' base v' (xs ++ [y]) ∧ w.grownBy w' v.ownBlock ∧ (v'.ownBlock = v.ownBlock ∨ ∃ g, v'.ownBlock = some g ∧ w.heap.size ≤ g) := by
  obtain ⟨i0, hi, hz0, hz1, hz2⟩ := info_parts info_int64
  obtain ⟨g, off, cap, cur, rfl, hg, hh, hnc, hs, hc⟩ := hq
  by_cases hroom : xs.length + 1 ≤ cap
  · have hr := run_append_room_cells (P := Try.prog) w 64 64 2 i0 Try.underlying64 hi g off xs.length cap ad 1 c [.int .i64 y] (by rw [hz1]; rfl) hnews (ones_i64 [y]) hroom
      (fun j hj => by
        obtain rfl : j = 0 := by simpa using hj
        rw [hz1, cell_of_row w g _ _ _ _ hh, Array.getElem?_eq_getElem (by omega)]; rfl)
      (fun j _ => frozen_of_row w g _ _ _ hh)
    rw [hz1, Nat.mul_one] at hr
    refine ⟨_, _, hr, ⟨g, off, cap, cur.setIfInBounds (off + xs.length) (.int .i64 y), by rw [List.length_append]; rfl, hg, heap_setCell_same w g (off + xs.length) cur _ _ hh, by rw [List.length_append]; exact hroom, by rw [Array.size_setIfInBounds]; exact hs, fun j x hx => ?_⟩, grown_setCell hh, .inl rfl⟩
    rcases Nat.lt_or_ge j xs.length with a | a
    · rw [List.getElem?_append_left a] at hx
      rw [Array.getElem?_setIfInBounds_ne (by omega)]
      exact hc j x hx
    · rw [List.getElem?_append_right a] at hx
      obtain ⟨e1, e2⟩ : j - xs.length = 0 ∧ y = x := by
        rcases hk : j - xs.length with _ | k
        · rw [hk] at hx; exact ⟨rfl, by simpa using hx⟩
        · rw [hk] at hx; simp at hx
      obtain rfl : j = xs.length := by omega
      rw [← e2, Array.getElem?_setIfInBounds_self_of_lt (by omega)]
  · obtain ⟨v', w', hr, ho, hgr⟩ := run_append_arg_grows (P := Try.prog) w 64 64 2 i0 (.int .i64 0) 1 8 Try.underlying64 hi hz0 hz1 hz2 rfl (by decide) ⟨g, off, none⟩ xs.length cap (xs.map (Value.int .i64)) (by rw [List.length_map, Nat.mul_one])
      (fun j u hu => by
        rw [List.getElem?_map] at hu
        obtain ⟨x, hx, rfl⟩ := Option.map_eq_some_iff.1 hu
        rw [Addr.add_lit, cell_of_row w g _ _ _ _ hh]
        exact hc j x hx) ad 1 c [.int .i64 y] rfl hnews (by omega) (by unfold maxLen; omega) (by omega)
    refine ⟨v', w', hr, queue_of_own (n := xs.length + 1) (by rw [List.map_append]; exact own_base ho hbase) (by omega), ⟨hgr.os, hgr.tape, hgr.output, hgr.size, fun k hk _ => hgr.block k hk (by simp)⟩, .inr ?_⟩
    obtain ⟨A3, c3, hv3, hge, _⟩ := World.ownsRow.form ho (by omega)
    exact ⟨A3, by rw [hv3]; rfl, hge⟩

theorem wpList_append_queue {ops : Array Oper} {rest : List Oper} {o : Oper} {a : Act} {Q : Exit → Act → World → Prop} (w : World) (hgd : o.guard = none) (s x : Operand)
    (ho : o.op = .call { callee := .builtin .append, args := #[s, x], argTypes := #[64, 64] }) (hty : o.type = 64)
    (base : Nat) (v : Value) (xs : List Int) (hs : a.eval s = v) (hq : queueAt w base v xs)
    (ad : Addr) (c : Nat) (y : Int) (hx : a.eval x = .slice (some ad) 1 c) (hnews : ∀ j u, [Value.int .i64 y][j]? = some u → w.cell? (ad.add j) = some u) (hlen : xs.length ≤ 1000) (hbase : base ≤ w.heap.size)
    (h : ∀ v' w', queueAt w' base v' (xs ++ [y]) → w.grownBy w' v.ownBlock → (v'.ownBlock = v.ownBlock ∨ ∃ g, v'.ownBlock = some g ∧ w.heap.size ≤ g) → wpList Try.prog ops Q rest (a.put o.dst v') w') : wpList Try.prog ops Q (o :: rest) a w := by
  refine wpList_plain hgd fun K hK => ?_
  obtain ⟨v', w', hr, h2, h3, h4⟩ := run_append_queue w base v xs hq ad c y hnews hlen hbase
  unfold Oper.wp execOp
  simp only [ho, hty, resolve, invoke, builtin, Sem.run_bind, Sem.run_pure, Result.andThen_ok, List.map_toArray, List.map_cons, List.map_nil, hs, hx, hr]
  exact hK _ _ (h v' w' h2 h3 h4)

/-! ### The marked states, counted; what can be reached -/
theorem setL_count {f : Nat → Bool} {v : Nat} (hf : f v = false) : ∀ k, v < k → (setL (upd f v true) k).length = (setL f k).length + 1
  | 0, h => by omega
  | k + 1, h => by
    rcases Nat.eq_or_lt_of_le (show v ≤ k by omega) with e | hlt
    · subst e
      rw [setL_t (show upd f v true v = true by simp [upd]), setL_f hf, setL_below v (Nat.le_refl v), List.length_append]; rfl
    · have ih := setL_count hf k hlt
      have e : upd f v true k = f k := by unfold upd; rw [if_neg (by omega)]
      rcases hk : f k with _ | _
      · rw [setL_f (e.trans hk), setL_f hk, ih]
      · rw [setL_t (e.trans hk), setL_t hk, List.length_append, List.length_append, ih]; simp
theorem has_setL {f : Nat → Bool} {k v : Nat} (hv : v < k) : hasB (setL f k) (v : Int) = f v := by
  rcases hf : f v with _ | _
  · simp only [hasB, List.any_eq_false, decide_eq_true_eq]
    intro x hx e
    simp only [setL, List.mem_map, List.mem_filter] at hx
    obtain ⟨q, ⟨_, hq⟩, rfl⟩ := hx
    obtain rfl : q = v := by omega
    rw [hf] at hq; cases hq
  · simp only [hasB, List.any_eq_true, decide_eq_true_eq]
    refine ⟨(v : Int), ?_, rfl⟩
    simp only [setL, List.mem_map, List.mem_filter]
    exact ⟨v, ⟨List.mem_range.2 hv, hf⟩, rfl⟩

def Reach (m : Nat) (xss : List (List Int)) (s q : Nat) : Prop := ∃ ws : List Nat, (∀ x ∈ ws, x < m) ∧ ws.foldl (fun q x => nx xss x q) s = q
theorem Reach.refl {m : Nat} {xss : List (List Int)} (s : Nat) : Reach m xss s s := ⟨[], by simp, rfl⟩
theorem Reach.step {m : Nat} {xss : List (List Int)} {s q x : Nat} (h : Reach m xss s q) (hx : x < m) : Reach m xss s (nx xss x q) := by
  obtain ⟨ws, h1, h2⟩ := h
  refine ⟨ws ++ [x], fun y hy => ?_, by rw [List.foldl_append, h2]; rfl⟩
  rcases List.mem_append.1 hy with a | a
  · exact h1 y a
  · obtain rfl : y = x := by simpa using a
    exact hx
theorem Reach.closed {m : Nat} {xss : List (List Int)} {s q : Nat} {f : Nat → Bool} (h : Reach m xss s q) (hs : f s = true) (hc : ∀ q, f q = true → ∀ x, x < m → f (nx xss x q) = true) : f q = true := by
  obtain ⟨ws, h1, rfl⟩ := h
  induction ws generalizing s with
  | nil => exact hs
  | cons x ws ih => exact ih (hc s hs x (h1 x (by simp))) (fun y hy => h1 y (by simp [hy]))
noncomputable def reachF (m : Nat) (xss : List (List Int)) (s : Nat) : Nat → Bool := fun q => @decide (Reach m xss s q) (Classical.propDecidable _)
theorem reachF_eq {m : Nat} {xss : List (List Int)} {s : Nat} {f : Nat → Bool} (h1 : ∀ q, f q = true → Reach m xss s q) (h2 : ∀ q, Reach m xss s q → f q = true) : f = reachF m xss s := by
  funext q
  unfold reachF
  rcases hf : f q with _ | _
  · exact (@decide_eq_false _ (Classical.propDecidable _) (fun h => by rw [h2 q h] at hf; cases hf)).symm
  · exact (@decide_eq_true _ (Classical.propDecidable _) (h1 q hf)).symm

end Go.Proofs.Ytkhhemlfahdbnab
