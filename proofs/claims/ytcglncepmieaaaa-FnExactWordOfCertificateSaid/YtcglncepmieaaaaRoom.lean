/-
  A slice of the call's own memory, of elements of any type (each of k cells): from some place of a block on; cut at its head, and grown at its end.
-/
import Derived.Test.YtcglncepmieaaaaHelp
import Derived.ArgAppend
import Derived.Deep.AppendLies
namespace Go.Proofs.Ytcglncepmieaaaa
open Go.RowKit Go.Deep Go.ChangeShapes Go.WideShapes

namespace Room
def qAt (t : TypeId) (k : Nat) (w : World) (v : Value) (g : Nat) (cs : List Value) (len : Nat) : Prop :=
  cs.length = len * k ∧ ∃ off cap cur, v = .slice (some ⟨g, off, none⟩) len cap ∧ w.heap[g]? = some (.cells cur t (0, 0)) ∧ len ≤ cap ∧ off + cap * k ≤ cur.size ∧ ∀ (j : Nat) (u : Value), cs[j]? = some u → cur[off + j]? = some u
theorem q_of_own {t : TypeId} {k : Nat} {w : World} {base n : Nat} {v : Value} {cs : List Value} (h : w.ownsRow base t k v n cs) (hn : 0 < n) : ∃ g, base ≤ g ∧ qAt t k w v g cs n := by
  obtain ⟨hl, h2⟩ := h
  rcases h2 with ⟨_, h0⟩ | ⟨g, cap, cur, rfl, hg, hh, hnc, _, hs, ht⟩
  · omega
  · refine ⟨g, hg, hl, 0, cap, cur, rfl, hh, hnc, by omega, fun j u hu => ?_⟩
    have hj : j < n * k := by
      rw [← hl]
      rcases Nat.lt_or_ge j cs.length with a | a
      · exact a
      · rw [List.getElem?_eq_none a] at hu; cases hu
    rw [← ht, List.getElem?_take, if_pos hj] at hu
    rw [Nat.zero_add, ← hu]
    simp
theorem q_kept {t : TypeId} {k : Nat} {w w' : World} {v : Value} {g : Nat} {cs : List Value} {len : Nat} (h : qAt t k w v g cs len) (hb : w'.heap[g]? = w.heap[g]?) : qAt t k w' v g cs len := by
  obtain ⟨hl, off, cap, cur, hv, hh, rest⟩ := h
  exact ⟨hl, off, cap, cur, hv, hb.trans hh, rest⟩
theorem q_lt {t : TypeId} {k : Nat} {w : World} {v : Value} {g : Nat} {cs : List Value} {len : Nat} (h : qAt t k w v g cs len) : g < w.heap.size := by
  obtain ⟨_, off, cap, cur, _, hh, _⟩ := h
  exact block_lt hh
theorem q_below {t : TypeId} {k : Nat} {w w' : World} {v : Value} {g : Nat} {cs : List Value} {len : Nat} (h : qAt t k w v g cs len) (hb : Below w.heap.size w w') : qAt t k w' v g cs len := q_kept h (hb.block g (q_lt h))
theorem q_cells {t : TypeId} {k : Nat} {w : World} {v : Value} {g : Nat} {cs : List Value} {len : Nat} (h : qAt t k w v g cs len) : ∃ off cap, v = .slice (some ⟨g, off, none⟩) len cap ∧ len ≤ cap ∧ ∀ (j : Nat) (u : Value), cs[j]? = some u → w.cell? ⟨g, off + j, none⟩ = some u := by
  obtain ⟨_, off, cap, cur, hv, hh, hnc, _, hc⟩ := h
  exact ⟨off, cap, hv, hnc, fun j u hu => by rw [cell_of_row w g _ _ _ _ hh]; exact hc j u hu⟩
theorem q_pop {t : TypeId} {k : Nat} {w : World} {v : Value} {g : Nat} {cs : List Value} {len : Nat} (h : qAt t k w v g cs (len + 1)) :
    ∃ off cap, v = .slice (some ⟨g, off, none⟩) (len + 1) (cap + 1) ∧ (∀ (j : Nat) (u : Value), cs[j]? = some u → w.cell? ⟨g, off + j, none⟩ = some u) ∧ len ≤ cap ∧ qAt t k w (.slice (some ⟨g, off + k, none⟩) len cap) g (cs.drop k) len ∧ (cap = 0 → qAt t k w (.slice (some ⟨g, off, none⟩) len 0) g (cs.drop k) len) := by
  obtain ⟨hl, off, cap, cur, rfl, hh, hnc, hs, hc⟩ := h
  obtain ⟨c, rfl⟩ : ∃ c, cap = c + 1 := ⟨cap - 1, by omega⟩
  have hl' : (cs.drop k).length = len * k := by rw [List.length_drop, hl, Nat.succ_mul]; omega
  have hs' : off + k + c * k ≤ cur.size := by rw [Nat.succ_mul] at hs; omega
  refine ⟨off, c, rfl, fun j u hu => by rw [cell_of_row w g _ _ _ _ hh]; exact hc j u hu, by omega, ⟨hl', off + k, c, cur, rfl, hh, by omega, hs', fun j u hu => ?_⟩, fun h0 => ?_⟩
  · rw [List.getElem?_drop] at hu
    rw [Nat.add_assoc]
    exact hc _ u hu
  · subst h0
    obtain rfl : len = 0 := by omega
    refine ⟨hl', off, 0, cur, rfl, hh, Nat.le_refl _, by omega, fun j u hu => ?_⟩
    rw [List.eq_nil_of_length_eq_zero (by omega : (cs.drop k).length = 0)] at hu
    simp at hu
theorem setCells_room (g : Nat) {t : TypeId} : ∀ (us : List Value) (o : Nat) (w : World) (cur : Array Value), w.heap[g]? = some (.cells cur t (0, 0)) → o + us.length ≤ cur.size → ∃ cur', (w.setCells g o us).heap[g]? = some (.cells cur' t (0, 0)) ∧ cur'.size = cur.size ∧ (∀ j, j < o → cur'[j]? = cur[j]?) ∧ ∀ (j : Nat) (u : Value), us[j]? = some u → cur'[o + j]? = some u
  | [], o, w, cur, hh, _ => ⟨cur, hh, rfl, fun _ _ => rfl, fun j u hu => by simp at hu⟩
  | x :: us, o, w, cur, hh, hl => by
    rw [List.length_cons] at hl
    have h1 := heap_setCell_same w g o cur _ x hh
    obtain ⟨cur', h2, h3, h4, h5⟩ := setCells_room g us (o + 1) _ _ h1 (by rw [Array.size_setIfInBounds]; omega)
    refine ⟨cur', h2, by rw [h3, Array.size_setIfInBounds], fun j hj => ?_, fun j u hu => ?_⟩
    · rw [h4 j (by omega), Array.getElem?_setIfInBounds_ne (by omega)]
    · rcases j with _ | j
      · simp only [List.getElem?_cons_zero, Option.some.injEq] at hu
        subst hu
        rw [Nat.add_zero, h4 o (by omega), Array.getElem?_setIfInBounds_self_of_lt (by omega)]
      · have := h5 j u (by simpa using hu)
        rw [show o + (j + 1) = o + 1 + j by omega]
        exact this
theorem setCells_grown (g : Nat) (us : List Value) (o : Nat) (w : World) : w.grownBy (w.setCells g o us) (some g) := by
  induction us generalizing o w with
  | nil => exact ⟨rfl, rfl, rfl, Nat.le_refl _, fun _ _ _ => rfl⟩
  | cons x us ih =>
    have h := ih (o + 1) (w.setCell ⟨g, o, none⟩ x)
    refine ⟨h.os.trans rfl, h.tape.trans rfl, h.output.trans rfl, Nat.le_trans (by rw [World.size_setCell]; exact Nat.le_refl _) h.size, fun k hk hne => ?_⟩
    rw [World.setCells, h.block k (by rw [World.size_setCell]; exact hk) hne, heap_setCell_other w ⟨g, o, none⟩ k x (fun e => hne (by rw [e]))]

theorem run_append_q (st t : TypeId) (i : TypeInfo) (z : Value) (k bytes : Nat) (hu : Try.prog.underlying st = some (.slice t)) (hi : Try.prog.info? t = some i) (hz : i.zero = some z) (hsz : i.size = k) (hby : i.bytes = bytes) (hzs : z.cells.size = k) (hk : 0 < k) (hbt : bytes ≤ 64)
    (w : World) (v : Value) (g : Nat) (cs : List Value) (len : Nat) (hq : qAt t k w v g cs len) (ad : Addr) (c : Nat) (us : List Value) (hul : us.length = k) (hnews : ∀ j u, us[j]? = some u → w.cell? (ad.add j) = some u) (h1 : ∀ u ∈ us, u.oneCell' = true) (hlen : len ≤ 4096) :
    ∃ v' w' g', (Builtin.append_ #[st, st] st #[v, .slice (some ad) 1 c]).run Try.prog w = .ok v' w' ∧ qAt t k w' v' g' (cs ++ us) (len + 1) ∧ w.grownBy w' (some g) ∧ (g' = g ∨ w.heap.size ≤ g') := by
  obtain ⟨hl, off, cap, cur, rfl, hh, hnc, hs, hc⟩ := hq
  by_cases hroom : len + 1 ≤ cap
  · have hcap : off + len * k + k ≤ cur.size := by
      have := Nat.mul_le_mul_right k hroom
      rw [Nat.succ_mul] at this
      omega
    have hr := run_append_room_cells (P := Try.prog) w st st t i hu hi g off len cap ad 1 c us (by rw [hsz, Nat.one_mul, hul]) hnews h1 hroom
      (fun j hj => by
        rw [hul] at hj
        rw [hsz, cell_of_row w g _ _ _ _ hh, Array.getElem?_eq_getElem (by omega)]; rfl)
      (fun j _ => frozen_of_row w g _ _ _ hh)
    rw [hsz] at hr
    obtain ⟨cur', h2, h3, h4, h5⟩ := setCells_room g us (off + len * k) w cur hh (by rw [hul]; exact hcap)
    refine ⟨_, _, g, hr, ⟨by rw [List.length_append, hl, hul, Nat.succ_mul], off, cap, cur', rfl, h2, hroom, by rw [h3]; exact hs, fun j u hj => ?_⟩, setCells_grown g us _ w, .inl rfl⟩
    rcases Nat.lt_or_ge j cs.length with a | a
    · rw [List.getElem?_append_left a] at hj
      rw [h4 _ (by omega)]
      exact hc j u hj
    · rw [List.getElem?_append_right a, hl] at hj
      have := h5 _ u hj
      rw [hl] at a
      rwa [show off + len * k + (j - len * k) = off + j by omega] at this
  · obtain ⟨v', w', hr, ho, hgr⟩ := run_append_arg_grows (P := Try.prog) w st st t i z k bytes hu hi hz hsz hby hzs hk ⟨g, off, none⟩ len cap cs hl
      (fun j u hj => by
        rw [Addr.add_lit, cell_of_row w g _ _ _ _ hh]
        exact hc j u hj) ad 1 c us (by rw [hul, Nat.one_mul]) hnews (by omega) (by unfold maxLen; omega) (by
          have : (len + 1) * bytes ≤ 4097 * 64 := Nat.mul_le_mul (by omega) hbt
          omega)
    obtain ⟨g', hg', hq'⟩ := q_of_own ho (by omega)
    exact ⟨v', w', g', hr, hq', ⟨hgr.os, hgr.tape, hgr.output, hgr.size, fun j hj _ => hgr.block j hj (by simp)⟩, .inr hg'⟩

theorem wpList_append_q (st t : TypeId) (i : TypeInfo) (z : Value) (k bytes : Nat) (hu : Try.prog.underlying st = some (.slice t)) (hi : Try.prog.info? t = some i) (hz : i.zero = some z) (hsz : i.size = k) (hby : i.bytes = bytes) (hzs : z.cells.size = k) (hk : 0 < k) (hbt : bytes ≤ 64)
    {ops : Array Oper} {rest : List Oper} {o : Oper} {a : Act} {Q : Exit → Act → World → Prop} (w : World) (hgd : o.guard = none) (s x : Operand)
    (ho : o.op = .call { callee := .builtin .append, args := #[s, x], argTypes := #[st, st] }) (hty : o.type = st)
    (v : Value) (g : Nat) (cs : List Value) (len : Nat) (hs : a.eval s = v) (hq : qAt t k w v g cs len)
    (ad : Addr) (c : Nat) (us : List Value) (hul : us.length = k) (hx : a.eval x = .slice (some ad) 1 c) (hnews : ∀ j u, us[j]? = some u → w.cell? (ad.add j) = some u) (h1 : ∀ u ∈ us, u.oneCell' = true) (hlen : len ≤ 4096)
    (h : ∀ v' w' g', qAt t k w' v' g' (cs ++ us) (len + 1) → w.grownBy w' (some g) → (g' = g ∨ w.heap.size ≤ g') → wpList Try.prog ops Q rest (a.put o.dst v') w') : wpList Try.prog ops Q (o :: rest) a w := by
  refine wpList_plain hgd fun K hK => ?_
  obtain ⟨v', w', g', hr, h2, h3, h4⟩ := run_append_q st t i z k bytes hu hi hz hsz hby hzs hk hbt w v g cs len hq ad c us hul hnews h1 hlen
  unfold Oper.wp execOp
  simp only [ho, hty, resolve, invoke, builtin, Sem.run_bind, Sem.run_pure, Result.andThen_ok, List.map_toArray, List.map_cons, List.map_nil, hs, hx, hr]
  exact hK _ _ (h v' w' g' h2 h3 h4)
theorem step_append_q (st t : TypeId) (i : TypeInfo) (z : Value) (k bytes : Nat) (hu : Try.prog.underlying st = some (.slice t)) (hi : Try.prog.info? t = some i) (hz : i.zero = some z) (hsz : i.size = k) (hby : i.bytes = bytes) (hzs : z.cells.size = k) (hk : 0 < k) (hbt : bytes ≤ 64)
    {ops : Array Oper} {o : Oper} {a : Act} {K : Act → World → Prop} {Q : Exit → Act → World → Prop} {E : Prop} (w : World) (hgd : o.guard = none) (s x : Operand)
    (ho : o.op = .call { callee := .builtin .append, args := #[s, x], argTypes := #[st, st] }) (hty : o.type = st)
    (v : Value) (g : Nat) (cs : List Value) (len : Nat) (hs : a.eval s = v) (hq : qAt t k w v g cs len)
    (ad : Addr) (c : Nat) (us : List Value) (hul : us.length = k) (hx : a.eval x = .slice (some ad) 1 c) (hnews : ∀ j u, us[j]? = some u → w.cell? (ad.add j) = some u) (h1 : ∀ u ∈ us, u.oneCell' = true) (hlen : len ≤ 4096)
    (h : ∀ v' w' g', qAt t k w' v' g' (cs ++ us) (len + 1) → w.grownBy w' (some g) → (g' = g ∨ w.heap.size ≤ g') → K (a.put o.dst v') w') :
    if Region.wanted o (yielded ops a.tmps) = true then Oper.wp Try.prog o a w K Q else E := by
  have hw : Region.wanted o (yielded ops a.tmps) = true := by simp [Region.wanted, hgd]
  rw [if_pos hw]
  obtain ⟨v', w', g', hr, h2, h3, h4⟩ := run_append_q st t i z k bytes hu hi hz hsz hby hzs hk hbt w v g cs len hq ad c us hul hnews h1 hlen
  unfold Oper.wp execOp
  simp only [ho, hty, resolve, invoke, builtin, Sem.run_bind, Sem.run_pure, Result.andThen_ok, List.map_toArray, List.map_cons, List.map_nil, hs, hx, hr]
  exact h v' w' g' h2 h3 h4
end Room

end Go.Proofs.Ytcglncepmieaaaa
