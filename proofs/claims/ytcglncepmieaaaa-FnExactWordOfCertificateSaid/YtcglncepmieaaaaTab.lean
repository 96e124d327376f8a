/-
  Lists of lists that are put together list by list; lists that are filled place by place.
-/
import Derived.Test.YtcglncepmieaaaaLaw
import Derived.Test.YtcglncepmieaaaaSets
namespace Go.Proofs.Ytcglncepmieaaaa
open Go.RowKit Go.Deep Go.ChangeShapes Go.WideShapes

theorem only_setCell (w : World) (b o : Nat) (u : Value) : Only b (b + 1) w (w.setCell ⟨b, o, none⟩ u) :=
  ⟨rfl, rfl, rfl, by rw [World.size_setCell]; exact Nat.le_refl _, fun k _ hb => heap_setCell_other w ⟨b, o, none⟩ _ _ (by simp; omega)⟩
theorem TabV.snoc {lo hi lu hu : Nat} {w w' : World} {v v' u : Value} {vs : List Value} {xss : List (List Int)} {xs : List Int} (h : TabV lo hi w v vs xss) (hr : IntsIn lu hu w u xs)
    (ho : w'.ownsRow lo 35 1 v' (xss.length + 1) (vs ++ [u])) (hg : w.grownBy w' v.ownBlock) (hat : v'.ownBlock = v.ownBlock ∨ v'.ownBlock = some w.heap.size)
    (h1 : lo ≤ lu) (h2 : hi ≤ lu) (h3 : hu ≤ w.heap.size) : TabV lo w'.heap.size w' v' (vs ++ [u]) (xss ++ [xs]) := by
  have hz := hg.size
  have hvn : ∀ g, v.ownBlock = some g → lo ≤ g ∧ g < hi := fun g e => ⟨(h.out.lt g e).1, h.top g e⟩
  have hun : ∀ g, u.ownBlock = some g → lu ≤ g ∧ g < hu := fun g e => ⟨(hr.1.lt g e).1, hr.2 g e⟩
  have hrn : ∀ (r : Nat) (x : Value) (g : Nat), vs[r]? = some x → x.ownBlock = some g → lo ≤ g ∧ g < hi ∧ g < w.heap.size := fun r x g hx e => by
    have hl : r < xss.length := by
      rw [← h.len]
      rcases Nat.lt_or_ge r vs.length with a | a
      · exact a
      · rw [List.getElem?_eq_none a] at hx; cases hx
    have hi := h.row r x xss[r] hx (List.getElem?_eq_getElem hl)
    exact ⟨(hi.1.lt g e).1, hi.2 g e, (hi.1.lt g e).2⟩
  have hup : IntsIn lo w'.heap.size w' u xs := by
    refine ⟨own_base (hr.1.kept hg ?_) h1, fun g e => by have := hun g e; omega⟩
    rcases hb : u.ownBlock with _ | g
    · exact .inl rfl
    · refine .inr (fun e => ?_)
      have := hvn g e.symm
      have := hun g hb
      omega
  have hn' : ∀ (r : Nat) (x : Value), (vs ++ [u])[r]? = some x → (r < vs.length ∧ vs[r]? = some x) ∨ (r = vs.length ∧ x = u) := fun r x hx => by
    rcases Nat.lt_or_ge r vs.length with a | a
    · rw [List.getElem?_append_left a] at hx; exact .inl ⟨a, hx⟩
    · rw [List.getElem?_append_right a] at hx
      have hz : r - vs.length = 0 := by
        rcases Nat.eq_zero_or_pos (r - vs.length) with e | e
        · exact e
        · rw [List.getElem?_eq_none (by simp; omega)] at hx; cases hx
      rw [hz] at hx
      exact .inr ⟨by omega, by simpa using hx.symm⟩
  refine ⟨by simp [h.len], by rw [List.length_append]; exact ho, fun g e => (ho.lt g e).2, fun r x ys hx hy => ?_, fun r r' x x' g hx hx' e e' => ?_, fun r x g hx e => ?_⟩
  · rcases hn' r x hx with ⟨a, b⟩ | ⟨a, rfl⟩
    · have hl := h.len
      rw [List.getElem?_append_left (by omega)] at hy
      have hi := h.row r x ys b hy
      refine ⟨hi.1.kept hg ?_, fun g e => by have := hrn r x g b e; omega⟩
      rcases hb : x.ownBlock with _ | g
      · exact .inl rfl
      · exact .inr (fun e => h.outer r x g b hb e.symm)
    · have hl := h.len
      subst a
      rw [hl, List.getElem?_append_right (Nat.le_refl _), Nat.sub_self] at hy
      simp only [List.getElem?_cons_zero, Option.some.injEq] at hy
      subst hy
      exact hup
  · rcases hn' r x hx with ⟨a, b⟩ | ⟨a, rfl⟩ <;> rcases hn' r' x' hx' with ⟨a', b'⟩ | ⟨a', rfl⟩
    · exact h.apart r r' x x' g b b' e e'
    · have := hrn r x g b e; have := hun g e'; omega
    · have := hrn r' x' g b' e'; have := hun g e; omega
    · omega
  · intro hv'
    rcases hat with hat | hat
    · rw [hat] at hv'
      rcases hn' r x hx with ⟨a, b⟩ | ⟨a, rfl⟩
      · exact h.outer r x g b e hv'
      · have := hvn g hv'; have := hun g e; omega
    · rw [hat] at hv'
      have hgz := Option.some.inj hv'
      rcases hn' r x hx with ⟨a, b⟩ | ⟨a, rfl⟩
      · have := hrn r x g b e; omega
      · have := hun g e; omega

/-- A list of which the first k places have been filled. -/
def fillK (n k : Nat) (f : Nat → Int) : List Int := (List.range n).map fun q => if q < k then f q else 0
theorem fillK_len (n k : Nat) (f : Nat → Int) : (fillK n k f).length = n := by simp [fillK]
theorem fillK_at (n k : Nat) (f : Nat → Int) {q : Nat} (hq : q < n) : (fillK n k f)[q]? = some (if q < k then f q else 0) := by
  unfold fillK; rw [List.getElem?_map, List.getElem?_range hq]; rfl
theorem fillK_0 (n : Nat) (f : Nat → Int) : (fillK n 0 f) = List.replicate n 0 := by
  unfold fillK
  apply List.ext_getElem?
  intro q
  rw [List.getElem?_map, List.getElem?_replicate]
  by_cases h : q < n
  · rw [List.getElem?_range h]; simp [h]
  · rw [List.getElem?_eq_none (by simp; omega)]; simp [h]
theorem fillK_step {n k : Nat} (f : Nat → Int) (hk : k < n) : (fillK n k f).set k (f k) = fillK n (k + 1) f := by
  apply List.ext_getElem?
  intro q
  rw [List.getElem?_set, fillK_len]
  by_cases h : k = q
  · subst h; rw [if_pos rfl, fillK_at _ _ _ hk]; simp [hk]
  · rw [if_neg h]
    by_cases hq : q < n
    · rw [fillK_at _ _ _ hq, fillK_at _ _ _ hq]
      by_cases h2 : q < k
      · simp [h2, show q < k + 1 by omega]
      · simp [h2, show ¬ q < k + 1 by omega]
    · rw [List.getElem?_eq_none (by rw [fillK_len]; omega), List.getElem?_eq_none (by rw [fillK_len]; omega)]
theorem fillK_all (n : Nat) (f : Nat → Int) : fillK n n f = (List.range n).map f := by
  unfold fillK
  apply List.map_congr_left
  intro q hq
  simp [List.mem_range.1 hq]
theorem made_zeros (n : Nat) : (madeCells #[Value.int .i64 0] n).toList = (List.replicate n (0 : Int)).map (Value.int .i64) := by rw [toList_madeCells_one]; simp
theorem fill_set {w : World} {base g n c k : Nat} {f : Nat → Int} (h : w.ownsRow base 2 1 (.slice (some ⟨g, 0, none⟩) n c) n ((fillK n k f).map (Value.int .i64))) (hk : k < n) :
    (w.setCell ⟨g, k, none⟩ (.int .i64 (f k))).ownsRow base 2 1 (.slice (some ⟨g, 0, none⟩) n c) n ((fillK n (k + 1) f).map (Value.int .i64)) := by
  have := (h.stored k (.int .i64 (f k))).1
  rwa [← List.map_set, fillK_step f hk] at this
theorem fill_cell {w : World} {base g n c k : Nat} {f : Nat → Int} (h : w.ownsRow base 2 1 (.slice (some ⟨g, 0, none⟩) n c) n ((fillK n k f).map (Value.int .i64))) {j : Nat} (hj : j < n) :
    ∃ u, w.cell? ⟨g, j, none⟩ = some u := by
  rw [h.cellAt j (by omega)]
  exact ⟨_, List.getElem?_eq_getElem (by simp [fillK_len]; omega)⟩

end Go.Proofs.Ytcglncepmieaaaa
