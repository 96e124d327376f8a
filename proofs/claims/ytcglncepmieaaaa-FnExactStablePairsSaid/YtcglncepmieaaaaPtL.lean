/-
  The table of the lengths of merging words, filled pair by pair: lists alone.
-/
import Derived.Test.YtcglncepmieaaaaPw
namespace Go.Proofs.Ytcglncepmieaaaa
open Go.RowKit Go.Deep Go.ChangeShapes Go.WideShapes
open Hunt Srch From Moved

theorem listK_full {n : Nat} (hn : n ≤ 10) : listK (2 ^ n - 1) 10 = (List.range n).map fun q => ((q : Nat) : Int) := by
  have h1 : 2 ^ n - 1 < 2 ^ n := by have := Nat.two_pow_pos n; omega
  rw [listK_stop h1 10 hn]
  unfold listK
  congr 1
  apply List.filter_eq_self.2
  intro q hq
  unfold bitF
  rw [Nat.testBit_two_pow_sub_one, decide_eq_true_eq]
  exact List.mem_range.1 hq
theorem flat_congr {f g : Nat → List Nat} : ∀ {L : List Nat}, (∀ x ∈ L, f x = g x) → L.flatMap f = L.flatMap g
  | [], _ => rfl
  | x :: L, h => by
    rw [List.flatMap_cons, List.flatMap_cons, h x List.mem_cons_self, flat_congr (fun y hy => h y (List.mem_cons_of_mem _ hy))]
theorem prsS_full {n : Nat} (hn : n ≤ 10) : prsS (2 ^ n - 1) = (prL n n).map fun g => pairB g.1 g.2 := by
  unfold prsS
  rw [listK_full hn, List.length_map, List.length_range]
  unfold prsL prL
  rw [List.map_flatMap, List.length_map, List.length_range]
  apply flat_congr
  intro i hi
  have hi := List.mem_range.1 hi
  unfold prsU prU
  rw [List.map_map, show n - (i + 1) = n - 1 - i by omega]
  apply List.map_congr_left
  intro j hj
  have hj := List.mem_range.1 hj
  have e1 : ((List.range n).map fun q => ((q : Nat) : Int)).getD i 0 = (i : Int) := by
    rw [List.getD_eq_getElem?_getD, List.getElem?_map, List.getElem?_range hi]; rfl
  have e2 : ((List.range n).map fun q => ((q : Nat) : Int)).getD (i + 1 + j) 0 = ((i + 1 + j : Nat) : Int) := by
    rw [List.getD_eq_getElem?_getD, List.getElem?_map, List.getElem?_range (by omega)]; rfl
  rw [e1, e2, setN_pair]
  rfl
theorem list_pair : ∀ s < 10, ∀ t < 10, s < t → listK (pairB s t) 10 = [((s : Nat) : Int), ((t : Nat) : Int)] := by decide +kernel
theorem pair_lt : ∀ s < 10, ∀ t < 10, pairB s t < 1024 := by decide +kernel
theorem pair_comm (s t : Nat) : pairB s t = pairB t s := by unfold pairB; rw [Nat.or_comm]
theorem pair_inj {s t a b : Nat} (h : pairB a b = pairB s t) : (a = s ∧ b = t) ∨ (a = t ∧ b = s) := by
  have ha := pair_bit.1 (show (pairB s t).testBit a = true by rw [← h]; exact pair_bit.2 (.inl rfl))
  have hb := pair_bit.1 (show (pairB s t).testBit b = true by rw [← h]; exact pair_bit.2 (.inr rfl))
  have hs := pair_bit.1 (show (pairB a b).testBit s = true by rw [h]; exact pair_bit.2 (.inl rfl))
  have ht := pair_bit.1 (show (pairB a b).testBit t = true by rw [h]; exact pair_bit.2 (.inr rfl))
  omega

/-- A square table. -/
def sqT (n : Nat) (f : Nat → Nat → Int) : List (List Int) := (List.range n).map fun s => (List.range n).map (f s)
theorem sqT_len (n : Nat) (f : Nat → Nat → Int) : (sqT n f).length = n := by simp [sqT]
theorem sqT_at {n : Nat} (f : Nat → Nat → Int) {s : Nat} (hs : s < n) : (sqT n f)[s]? = some ((List.range n).map (f s)) := by
  unfold sqT; rw [List.getElem?_map, List.getElem?_range hs]; rfl
theorem sqT_set {n s t : Nat} (f : Nat → Nat → Int) (x : Int) (hs : s < n) (ht : t < n) : (sqT n f).set s (((List.range n).map (f s)).set t x) = sqT n fun a b => if a = s ∧ b = t then x else f a b := by
  apply List.ext_getElem?
  intro a
  rw [List.getElem?_set, sqT_len]
  rcases Nat.lt_or_ge a n with ha | ha
  · rw [sqT_at _ ha]
    by_cases e : s = a
    · subst e
      rw [if_pos rfl, if_pos hs, sqT_at _ hs]
      congr 1
      apply List.ext_getElem?
      intro b
      rw [List.getElem?_set, List.length_map, List.length_range]
      rcases Nat.lt_or_ge b n with hb | hb
      · by_cases e : t = b
        · subst e
          rw [if_pos rfl, if_pos ht, List.getElem?_map, List.getElem?_range hb]
          simp
        · rw [if_neg e, List.getElem?_map, List.getElem?_map, List.getElem?_range hb]
          simp [show ¬ b = t from fun h => e h.symm]
      · have hne : ¬ t = b := by omega
        rw [if_neg hne, List.getElem?_eq_none (by simp; omega), List.getElem?_eq_none (by simp; omega)]
    · rw [if_neg e, sqT_at _ ha]
      congr 1
      apply List.map_congr_left
      intro b _
      rw [if_neg (fun h => e h.1.symm)]
  · rw [if_neg (by omega), List.getElem?_eq_none (by rw [sqT_len]; exact ha), List.getElem?_eq_none (by rw [sqT_len]; exact ha)]
theorem sqT_congr {n : Nat} {f g : Nat → Nat → Int} (h : ∀ a b, a < n → b < n → f a b = g a b) : sqT n f = sqT n g := by
  unfold sqT
  apply List.map_congr_left
  intro a ha
  apply List.map_congr_left
  intro b hb
  exact h a b (List.mem_range.1 ha) (List.mem_range.1 hb)
/-- The table behind the first k pairs. -/
noncomputable def tabP (n m : Nat) (xss : List (List Int)) (k : Nat) : Nat → Nat → Int := fun s t => if pairB s t ∈ ((prL n n).take k).map (fun g => pairB g.1 g.2) then lenP n m xss s t else 0
theorem tabP_0 (n m : Nat) (xss : List (List Int)) : sqT n (tabP n m xss 0) = List.replicate n (List.replicate n 0) := by
  unfold sqT tabP
  simp only [List.take_zero, List.map_nil, List.not_mem_nil, if_false]
  rw [List.map_const', List.length_range, List.map_const', List.length_range]
theorem lenP_comm (n m : Nat) (xss : List (List Int)) (s t : Nat) : lenP n m xss s t = lenP n m xss t s := by unfold lenP; rw [pair_comm]
theorem tabP_step {n m k s t : Nat} {xss : List (List Int)} (h : (prL n n)[k]? = some (s, t)) :
    sqT n (fun a b => if a = t ∧ b = s then lenP n m xss s t else (if a = s ∧ b = t then lenP n m xss s t else tabP n m xss k a b)) = sqT n (tabP n m xss (k + 1)) := by
  have hst := prL_mem (List.mem_of_getElem? h)
  apply sqT_congr
  intro a b ha hb
  unfold tabP
  simp only [take_snoc h, List.map_append, List.mem_append]
  by_cases h1 : a = t ∧ b = s
  · obtain ⟨rfl, rfl⟩ := h1
    rw [if_pos ⟨rfl, rfl⟩, if_pos (.inr (by simp [pair_comm])), lenP_comm]
  · rw [if_neg h1]
    by_cases h2 : a = s ∧ b = t
    · obtain ⟨rfl, rfl⟩ := h2
      rw [if_pos ⟨rfl, rfl⟩, if_pos (.inr (by simp))]
    · rw [if_neg h2]
      have h3 : ¬ pairB a b ∈ [(s, t)].map (fun g => pairB g.1 g.2) := by
        intro h3
        simp only [List.map_cons, List.map_nil, List.mem_cons, List.not_mem_nil, or_false] at h3
        rcases pair_inj h3 with e | e
        · exact h2 e
        · exact h1 e
      simp only [h3, or_false]
theorem lenP_same {n m a : Nat} {xss : List (List Int)} (hg : Good n m xss) (ha : a < n) : lenP n m xss a a = 0 := by
  have hn := hg.n10
  have hb := pair_lt a (by omega) a (by omega)
  have h0 : (runF (aftF n xss) m 1024 (pairB a a) 0)[0]? = some ⟨pairB a a, -1, 0, []⟩ := rfl
  have h1 := all_at (small hg hb) h0
  have hm : ∀ s < 10, mergedB (pairB s s) = true := by decide +kernel
  have h2 : firstF mergedB (fnd n m xss 1024 (pairB a a)) = some ⟨pairB a a, -1, 0, []⟩ := first_hit h1 (hm a (by omega)) (fun k f hk => by omega)
  unfold lenP
  rw [h2]
  rfl
theorem tabP_all {n m : Nat} {xss : List (List Int)} (hg : Good n m xss) : sqT n (tabP n m xss (prL n n).length) = tabK n m xss n := by
  show sqT n _ = sqT n (lenP n m xss)
  apply sqT_congr
  intro a b ha hb
  unfold tabP
  rw [List.take_length]
  rcases Nat.lt_trichotomy a b with h | h | h
  · rw [if_pos (List.mem_map.2 ⟨(a, b), prL_has h hb, rfl⟩)]
  · subst h
    rw [lenP_same hg ha]
    exact ite_self _
  · rw [if_pos (List.mem_map.2 ⟨(b, a), prL_has h ha, pair_comm _ _⟩)]

end Go.Proofs.Ytcglncepmieaaaa
