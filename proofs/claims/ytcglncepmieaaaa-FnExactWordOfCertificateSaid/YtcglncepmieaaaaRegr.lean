/-
  A row that grows inside a table of a call's own (as in XTrap, for seats without gaps).
-/
import Derived.Test.YtcglncepmieaaaaTab
namespace Go.Proofs.Ytcglncepmieaaaa
open Go.RowKit Go.Deep Go.ChangeShapes Go.WideShapes

theorem get_set_ne {α : Type} {xs : List α} {k r : Nat} {x y : α} (h : (xs.set k x)[r]? = some y) (hr : k ≠ r) : xs[r]? = some y := by
  rw [List.getElem?_set, if_neg hr] at h; exact h
theorem get_set_eq {α : Type} {xs : List α} {k : Nat} {x y : α} (h : (xs.set k x)[k]? = some y) : y = x := by
  rw [List.getElem?_set, if_pos rfl] at h
  split at h
  · exact (Option.some.inj h).symm
  · cases h

theorem lt_of_at4 {α : Type} {xs : List α} {k : Nat} {x : α} (h : xs[k]? = some x) : k < xs.length := by
  rcases Nat.lt_or_ge k xs.length with a | a
  · exact a
  · rw [List.getElem?_eq_none a] at h; cases h

/-- A row that has grown in place or in a new block, and is stored in the outer list again. -/
theorem TabV.regrow {lo g m c k g5 : Nat} {w wA w5 : World} {vs : List Value} {yss : List (List Int)} {u u' : Value} {zs : List Int} (h : TabV lo w.heap.size w (.slice (some ⟨g, 0, none⟩) m c) vs yss) (hm : yss.length = m) (hk : k < m) (hu : vs[k]? = some u)
    (hA : Below w.heap.size w wA) (hg : wA.grownBy w5 u.ownBlock) (h5 : w5.ownsRow lo 2 1 u' zs.length (zs.map (Value.int .i64))) (hb5 : u'.ownBlock = some g5) (hat : u.ownBlock = some g5 ∨ g5 = wA.heap.size) :
    TabV lo (w5.setCell ⟨g, k, none⟩ u').heap.size (w5.setCell ⟨g, k, none⟩ u') (.slice (some ⟨g, 0, none⟩) m c) (vs.set k u') (yss.set k zs) := by
  subst hm
  have hs := only_setCell w5 g k u'
  have hgw : g < w.heap.size := h.top g rfl
  have hA' := hA.size
  have h5s := hg.size
  have hout := h.outer k u
  have hg5 : g ≠ g5 := by
    rcases hat with e | e
    · exact fun x => hout g5 hu e (by rw [← x]; rfl)
    · omega
  have hlt5 : g5 < w5.heap.size := (h5.lt g5 hb5).2
  refine ⟨by rw [List.length_set, List.length_set]; exact h.len, ?_, fun q hq => ?_, fun r x ys hx hy => ?_, fun r r' x x' q hx hx' e e' => ?_, fun r x q hx e hv => ?_⟩
  · rw [List.length_set]
    have ho := (own_below h.out hA).kept hg (by
      rcases hb : u.ownBlock with _ | q
      · exact .inr (by simp [Value.ownBlock])
      · exact .inr (fun e => hout q hu hb e))
    exact (ho.stored k u').1
  · have : q = g := by simpa [Value.ownBlock] using hq.symm
    rw [World.size_setCell]; omega
  · by_cases hr : k = r
    · subst hr
      obtain rfl := get_set_eq hx
      obtain rfl := get_set_eq hy
      exact ⟨hs.own h5 (fun q hq => by rw [hb5] at hq; have := Option.some.inj hq; omega), fun q hq => by rw [World.size_setCell]; rw [hb5] at hq; have := Option.some.inj hq; omega⟩
    · have hx := get_set_ne hx hr
      have hy := get_set_ne hy hr
      obtain ⟨i1, i2⟩ := h.row r x ys hx hy
      refine ⟨hs.own ((own_below i1 hA).kept hg ?_) (fun q hq => ?_), fun q hq => by rw [World.size_setCell]; have := i2 q hq; omega⟩
      · rcases hb : x.ownBlock with _ | q
        · exact .inl rfl
        · exact .inr (fun e => hr (h.apart k r u x q hu hx e.symm hb))
      · have hne : q ≠ g := fun x' => h.outer r x q hx hq (by rw [x']; rfl)
        omega
  · -- two rows in one block are one row
    have key : ∀ (r : Nat) (x : Value), k ≠ r → vs[r]? = some x → x.ownBlock = some g5 → False := fun r x hr hx e => by
      rcases hat with e2 | e2
      · exact hr (h.apart k r u x g5 hu hx e2 e)
      · have hl := h.len
        have hlt := lt_of_at4 hx
        have hi := (h.row r x yss[r] hx (List.getElem?_eq_getElem (by omega))).2 g5 e
        omega
    by_cases hr : k = r <;> by_cases hr' : k = r'
    · omega
    · subst hr
      obtain rfl := get_set_eq hx
      rw [hb5] at e
      obtain rfl := Option.some.inj e
      exact (key r' x' hr' (get_set_ne hx' hr') e').elim
    · subst hr'
      obtain rfl := get_set_eq hx'
      rw [hb5] at e'
      obtain rfl := Option.some.inj e'
      exact (key r x hr (get_set_ne hx hr) e).elim
    · exact h.apart r r' x x' q (get_set_ne hx hr) (get_set_ne hx' hr') e e'
  · by_cases hr : k = r
    · subst hr
      obtain rfl := get_set_eq hx
      rw [hb5] at e
      have h1 := Option.some.inj e
      have h2 : g = q := by simpa [Value.ownBlock] using hv
      omega
    · exact h.outer r x q (get_set_ne hx hr) e hv

end Go.Proofs.Ytcglncepmieaaaa
