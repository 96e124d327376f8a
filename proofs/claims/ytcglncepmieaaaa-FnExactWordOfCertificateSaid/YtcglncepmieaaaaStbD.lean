/-
  The division of the stable pairs: labels alone.
-/
import Derived.Test.YtcglncepmieaaaaStbT
import Derived.Test.YtcglncepmieaaaaLcD
namespace Go.Proofs.Ytcglncepmieaaaa
open Go.RowKit Go.Deep Go.ChangeShapes Go.WideShapes
open Hunt Srch From Moved

/-- Behind every word, some word leads both states to one. -/
def St (m : Nat) (xss : List (List Int)) (s t : Nat) : Prop := ∀ w, okW m w → ∃ v, okW m v ∧ goS (nx xss) (w ++ v) s = goS (nx xss) (w ++ v) t
theorem St.refl (m : Nat) (xss : List (List Int)) (s : Nat) : St m xss s s := fun _ _ => ⟨[], fun _ h => by simp at h, rfl⟩
theorem St.symm {m : Nat} {xss : List (List Int)} {s t : Nat} (h : St m xss s t) : St m xss t s := fun w hw => by
  obtain ⟨v, h1, h2⟩ := h w hw
  exact ⟨v, h1, h2.symm⟩
theorem St.trans {m : Nat} {xss : List (List Int)} {s t r : Nat} (h : St m xss s t) (h' : St m xss t r) : St m xss s r := fun w hw => by
  obtain ⟨v, h1, h2⟩ := h w hw
  obtain ⟨u, h3, h4⟩ := h' (w ++ v) (hw.append h1)
  refine ⟨v ++ u, h1.append h3, ?_⟩
  rw [← List.append_assoc, ← h4, goS_append, h2, ← goS_append]
theorem goW_pair {n m s t : Nat} {xss : List (List Int)} (hg : Good n m xss) (hs : s < n) (ht : t < n) {w : List Int} (hw : okW m w) : goW (aftF n xss) (pairB s t) w = pairB (goS (nx xss) w s) (goS (nx xss) w t) := by
  obtain ⟨_, h2⟩ := goW_in (acts hg) w _ hw (pair_in hs ht)
  refine Nat.eq_of_testBit_eq fun q => ?_
  rw [Bool.eq_iff_iff, h2, pair_bit]
  constructor
  · rintro ⟨r, hr, rfl⟩
    rcases pair_bit.1 hr with rfl | rfl
    · exact .inl rfl
    · exact .inr rfl
  · rintro (rfl | rfl)
    · exact ⟨s, pair_bit.2 (.inl rfl), rfl⟩
    · exact ⟨t, pair_bit.2 (.inr rfl), rfl⟩
theorem mrg_iff {n m p q : Nat} {xss : List (List Int)} (hg : Good n m xss) (hp : p < n) (hq : q < n) : lenP n m xss p q < 0 ↔ ¬ ∃ v, okW m v ∧ goS (nx xss) v p = goS (nx xss) v q := by
  have ha := acts hg
  have hin := pair_in hp hq
  have hb10 := hin.lt hg.n10
  unfold lenP lenO
  rcases ho : firstF mergedB (fnd n m xss 1024 (pairB p q)) with _ | f
  · rw [if_neg (by simp [hitB])]
    refine ⟨fun _ => ?_, fun _ => by decide⟩
    rintro ⟨v, h1, h2⟩
    obtain ⟨us, h3, h4, h5⟩ := pair_bound ha (aftF_lt hg) hp hq v h1 h2
    obtain ⟨j, f, h6, h7, _⟩ := all_found (cap := 1024) (small hg hb10) us.length us rfl (by omega) h3
    have h8 : mergedB f.set = true := by
      rw [merged_iff ((found_in hg hin (List.mem_of_getElem? h6)).lt hg.n10), h7, pair_key ha hp hq h3]
      exact h5
    have h9 := List.find?_eq_none.1 ho f (List.mem_of_getElem? h6)
    exact h9 h8
  · rw [if_pos (by rfl)]
    refine ⟨fun h => by omega, fun h => (h ?_).elim⟩
    have h1 : f ∈ fnd n m xss 1024 (pairB p q) := List.mem_of_find?_eq_some ho
    have h2 : mergedB f.set = true := by simpa using List.find?_some ho
    obtain ⟨h3, h4⟩ := found_word h1
    rw [merged_iff ((found_in hg hin h1).lt hg.n10), h3, pair_key ha hp hq h4] at h2
    exact ⟨f.word, h4, h2⟩
theorem apB_pair {n m a b : Nat} {xss : List (List Int)} (hg : Good n m xss) (ha : a < n) (hb : b < n) : apB n m xss (pairB a b) = true ↔ a ≠ b ∧ ¬ ∃ v, okW m v ∧ goS (nx xss) v a = goS (nx xss) v b := by
  unfold apB
  rw [decide_eq_true_eq, apL_mem hg]
  constructor
  · rintro ⟨s, t, h1, h2, h3, h4⟩
    rw [mrg_iff hg (by omega) h2] at h4
    rcases pair_inj h3 with ⟨rfl, rfl⟩ | ⟨rfl, rfl⟩
    · exact ⟨by omega, h4⟩
    · exact ⟨by omega, fun ⟨v, h5, h6⟩ => h4 ⟨v, h5, h6.symm⟩⟩
  · rintro ⟨h1, h2⟩
    rcases Nat.lt_or_ge a b with h | h
    · exact ⟨a, b, h, hb, rfl, (mrg_iff hg ha hb).2 h2⟩
    · exact ⟨b, a, by omega, ha, pair_comm _ _, (mrg_iff hg hb ha).2 fun ⟨v, h5, h6⟩ => h2 ⟨v, h5, h6.symm⟩⟩
theorem stB_iff {n m s t : Nat} {xss : List (List Int)} (hg : Good n m xss) (hs : s < n) (ht : t < n) : stB n m xss s t = true ↔ St m xss s t := by
  have ha := acts hg
  have hin := pair_in hs ht
  have hb10 := hin.lt hg.n10
  have hlt : ∀ w q, okW m w → q < n → goS (nx xss) w q < n := fun w q hw hq => goS_lt ha w q hw hq
  unfold stB
  constructor
  · intro h w hw
    refine Classical.byContradiction fun hno => ?_
    have hv : ¬ ∃ v, okW m v ∧ goS (nx xss) v (goS (nx xss) w s) = goS (nx xss) v (goS (nx xss) w t) := fun ⟨v, h1, h2⟩ => hno ⟨v, h1, by rw [goS_append, goS_append]; exact h2⟩
    have hne : goS (nx xss) w s ≠ goS (nx xss) w t := fun e => hv ⟨[], fun _ h => by simp at h, e⟩
    have hap := (apB_pair hg (hlt w s hw hs) (hlt w t hw ht)).2 ⟨hne, hv⟩
    rw [← goW_pair hg hs ht hw] at hap
    obtain ⟨us, h3, h4, h5⟩ := pair_near hg hs ht w hw (apB_two hg _ hap)
    obtain ⟨j, f, h6, h7, _⟩ := all_found (cap := 1024) (small hg hb10) us.length us rfl (by omega) h3
    rcases ho : firstF (apB n m xss) (fnd n m xss 1024 (pairB s t)) with _ | f'
    · have h9 := List.find?_eq_none.1 ho f (List.mem_of_getElem? h6)
      exact h9 (by rw [h7, h5]; exact hap)
    · rw [ho] at h; simp [hitB] at h
  · intro h
    rcases ho : firstF (apB n m xss) (fnd n m xss 1024 (pairB s t)) with _ | f
    · rfl
    · exfalso
      have h1 : f ∈ fnd n m xss 1024 (pairB s t) := List.mem_of_find?_eq_some ho
      have h2 : apB n m xss f.set = true := by simpa using List.find?_some ho
      obtain ⟨h3, h4⟩ := found_word h1
      rw [h3, goW_pair hg hs ht h4, apB_pair hg (hlt _ s h4 hs) (hlt _ t h4 ht)] at h2
      obtain ⟨v, h5, h6⟩ := h f.word h4
      rw [goS_append, goS_append] at h6
      exact h2.2 ⟨v, h5, h6⟩

/-- The stable pairs. -/
noncomputable def gsS (n m : Nat) (xss : List (List Int)) : List (Nat × Nat) := (prL n n).filter fun g => stB n m xss g.1 g.2
theorem gsS_list (n m : Nat) (xss : List (List Int)) : stL n m xss = (gsS n m xss).map fun g => [((g.1 : Nat) : Int), ((g.2 : Nat) : Int)] := rfl
theorem gsS_mem {n m s t : Nat} {xss : List (List Int)} (hg : Good n m xss) : (s, t) ∈ gsS n m xss ↔ s < t ∧ t < n ∧ St m xss s t := by
  unfold gsS
  rw [List.mem_filter]
  constructor
  · rintro ⟨h1, h2⟩
    have hl := prL_mem h1
    exact ⟨hl.2.1, hl.2.2, (stB_iff hg (by omega) hl.2.2).1 h2⟩
  · rintro ⟨h1, h2, h3⟩
    exact ⟨prL_has h1 h2, (stB_iff hg (by omega) h2).2 h3⟩
theorem gsS_len (n m : Nat) (xss : List (List Int)) (hn : n ≤ 10) : (gsS n m xss).length ≤ 100 := Nat.le_trans (List.length_filter_le _ _) (prL_leS n hn)
def lexP (a b : Nat × Nat) : Prop := a.1 < b.1 ∨ (a.1 = b.1 ∧ a.2 < b.2)
theorem prL_sorted (n : Nat) : ∀ k, (prL n k).Pairwise lexP
  | 0 => by simp [prL]
  | k + 1 => by
    rw [prL_succ, List.pairwise_append]
    refine ⟨prL_sorted n k, ?_, ?_⟩
    · unfold prU
      rw [List.pairwise_map]
      exact List.Pairwise.imp (fun h => .inr ⟨rfl, by omega⟩) List.pairwise_lt_range
    · rintro ⟨a, b⟩ h1 ⟨c, d⟩ h2
      have h3 := prL_mem h1
      unfold prU at h2
      obtain ⟨i, _, h4⟩ := List.mem_map.1 h2
      simp only [Prod.mk.injEq] at h4
      exact .inl (by show a < c; omega)
theorem gsS_sorted (n m : Nat) (xss : List (List Int)) : (gsS n m xss).Pairwise lexP := List.Pairwise.filter _ (prL_sorted n n)

/-- What the program makes of labels: the second state of a pair gets the label of the first one. -/
def relF (L : List Int) (gs : List (Nat × Nat)) : List Int := gs.foldl (fun L g => L.set g.2 (lab L g.1)) L
theorem relF_snoc {L : List Int} {gs : List (Nat × Nat)} {k : Nat} {g : Nat × Nat} (h : gs[k]? = some g) : relF L (gs.take (k + 1)) = (relF L (gs.take k)).set g.2 (lab (relF L (gs.take k)) g.1) := by
  unfold relF; rw [take_snoc h, List.foldl_append]; rfl
/-- What the model makes of labels. -/
def mrgF (L : List Int) (gs : List (Nat × Nat)) : List Int := gs.foldl (fun L g => mergeL L (lab L g.2) (lab L g.1)) L
theorem mrgF_snoc {L : List Int} {gs : List (Nat × Nat)} {k : Nat} {g : Nat × Nat} (h : gs[k]? = some g) : mrgF L (gs.take (k + 1)) = mergeL (mrgF L (gs.take k)) (lab (mrgF L (gs.take k)) g.2) (lab (mrgF L (gs.take k)) g.1) := by
  unfold mrgF; rw [take_snoc h, List.foldl_append]; rfl
def idL (n : Nat) : List Int := (List.range n).map fun q => ((q : Nat) : Int)
theorem lab_setS {L : List Int} {t : Nat} {x : Int} (ht : t < L.length) (u : Nat) : lab (L.set t x) u = if u = t then x else lab L u := by
  unfold lab
  rw [List.getD_eq_getElem?_getD, List.getElem?_set, List.getD_eq_getElem?_getD]
  by_cases h : t = u
  · subst h; rw [if_pos rfl, if_pos ht, if_pos rfl]; rfl
  · rw [if_neg h, if_neg (fun e => h e.symm)]
structure RelI (n m : Nat) (xss : List (List Int)) (k : Nat) (L : List Int) : Prop where
  labs : Labs n L
  fine : Fine n L (St m xss)
  done : ∀ (j : Nat) (g : Nat × Nat), j < k → (gsS n m xss)[j]? = some g → lab L g.1 = lab L g.2
theorem lt_of_some {gs : List (Nat × Nat)} {j : Nat} {g : Nat × Nat} (h : gs[j]? = some g) : j < gs.length := by
  rcases Nat.lt_or_ge j gs.length with a | a
  · exact a
  · rw [List.getElem?_eq_none a] at h; cases h
theorem sorted_at {gs : List (Nat × Nat)} (h : gs.Pairwise lexP) {i j : Nat} {a b : Nat × Nat} (hij : i < j) (hi : gs[i]? = some a) (hj : gs[j]? = some b) : lexP a b := by
  have h1 := lt_of_some hi
  have h2 := lt_of_some hj
  have h3 := List.pairwise_iff_getElem.1 h i j h1 h2 hij
  rw [List.getElem?_eq_getElem h1] at hi
  rw [List.getElem?_eq_getElem h2] at hj
  obtain rfl := Option.some.inj hi
  obtain rfl := Option.some.inj hj
  exact h3
theorem rel_inv {n m : Nat} {xss : List (List Int)} (hg : Good n m xss) : ∀ k, k ≤ (gsS n m xss).length → RelI n m xss k (relF (idL n) ((gsS n m xss).take k))
  | 0, _ => ⟨allL_labs n, allL_fine (St.refl m xss), fun j g hj => absurd hj (Nat.not_lt_zero _)⟩
  | k + 1, hk => by
    obtain ⟨h1, h2, h3⟩ := rel_inv hg k (by omega)
    obtain ⟨⟨s, t⟩, hst⟩ : ∃ g, (gsS n m xss)[k]? = some g := ⟨_, List.getElem?_eq_getElem (by omega)⟩
    obtain ⟨e1, e2, e3⟩ := (gsS_mem hg).1 (List.mem_of_getElem? hst)
    rw [relF_snoc hst]
    obtain ⟨L, hL⟩ : ∃ L, L = relF (idL n) ((gsS n m xss).take k) := ⟨_, rfl⟩
    rw [← hL] at h1 h2 h3 ⊢
    have htl : t < L.length := by rw [h1.len]; exact e2
    refine ⟨⟨by rw [List.length_set]; exact h1.len, fun u hu => ?_⟩, fun u v hu hv he => ?_, fun j g hj hgj => ?_⟩
    · rw [lab_setS htl]
      split
      · exact h1.rng s (by omega)
      · exact h1.rng u hu
    · rw [lab_setS htl, lab_setS htl] at he
      by_cases c1 : u = t
      · rw [if_pos c1] at he
        by_cases c2 : v = t
        · rw [c1, c2]; exact St.refl _ _ _
        · rw [if_neg c2] at he
          rw [c1]
          exact e3.symm.trans (h2 s v (by omega) hv he)
      · rw [if_neg c1] at he
        by_cases c2 : v = t
        · rw [if_pos c2] at he
          rw [c2]
          exact (h2 u s hu (by omega) he).trans e3
        · rw [if_neg c2] at he
          exact h2 u v hu hv he
    · obtain ⟨r, u⟩ := g
      obtain ⟨f1, f2, f3⟩ := (gsS_mem hg).1 (List.mem_of_getElem? hgj)
      show lab (L.set t (lab L s)) r = lab (L.set t (lab L s)) u
      rw [lab_setS htl, lab_setS htl]
      rcases Nat.lt_or_ge j k with a | a
      · have hlex := sorted_at (gsS_sorted n m xss) a hgj hst
        have hd := h3 j (r, u) a hgj
        have hrt : r ≠ t := by
          rcases hlex with h | ⟨h, _⟩
          · show r ≠ t; simp only at h; omega
          · show r ≠ t; simp only at h; omega
        rw [if_neg hrt]
        by_cases c2 : u = t
        · rw [if_pos c2]
          have hrs : r < s := by
            rcases hlex with h | ⟨h, h'⟩
            · exact h
            · simp only at h h'; omega
          have hrst : St m xss r s := by rw [c2] at f3; exact f3.trans e3.symm
          have hmem := (gsS_mem hg).2 ⟨hrs, by omega, hrst⟩
          obtain ⟨i, hi⟩ := List.getElem?_of_mem hmem
          have hik : i < k := by
            rcases Nat.lt_trichotomy i k with c | c | c
            · exact c
            · rw [c, hst] at hi
              have := Option.some.inj hi
              simp only [Prod.mk.injEq] at this
              omega
            · rcases sorted_at (gsS_sorted n m xss) c hst hi with h | ⟨h, h'⟩
              · simp only at h; omega
              · simp only at h h'; omega
          exact h3 i (r, s) hik hi
        · rw [if_neg c2]
          exact hd
      · obtain rfl : j = k := by omega
        rw [hst] at hgj
        have := Option.some.inj hgj
        simp only [Prod.mk.injEq] at this
        obtain ⟨rfl, rfl⟩ := this
        rw [if_neg (by omega), if_pos rfl]
theorem mrg_inv {n m : Nat} {xss : List (List Int)} (hg : Good n m xss) : ∀ k, k ≤ (gsS n m xss).length → RelI n m xss k (mrgF (idL n) ((gsS n m xss).take k))
  | 0, _ => ⟨allL_labs n, allL_fine (St.refl m xss), fun j g hj => absurd hj (Nat.not_lt_zero _)⟩
  | k + 1, hk => by
    obtain ⟨h1, h2, h3⟩ := mrg_inv hg k (by omega)
    obtain ⟨⟨s, t⟩, hst⟩ : ∃ g, (gsS n m xss)[k]? = some g := ⟨_, List.getElem?_eq_getElem (by omega)⟩
    obtain ⟨e1, e2, e3⟩ := (gsS_mem hg).1 (List.mem_of_getElem? hst)
    rw [mrgF_snoc hst]
    obtain ⟨L, hL⟩ : ∃ L, L = mrgF (idL n) ((gsS n m xss).take k) := ⟨_, rfl⟩
    rw [← hL] at h1 h2 h3 ⊢
    refine ⟨h1.merge (h1.rng s (by omega)), h2.merge h1.len (fun _ _ h => h.symm) (fun _ _ _ h h' => h.trans h') e2 (by omega) e3.symm, fun j g hj hgj => ?_⟩
    obtain ⟨r, u⟩ := g
    obtain ⟨f1, f2, f3⟩ := (gsS_mem hg).1 (List.mem_of_getElem? hgj)
    rcases Nat.lt_or_ge j k with a | a
    · exact merge_kept h1.len (show r < n by omega) f2 (h3 j (r, u) a hgj)
    · obtain rfl : j = k := by omega
      rw [hst] at hgj
      have := Option.some.inj hgj
      simp only [Prod.mk.injEq] at this
      obtain ⟨rfl, rfl⟩ := this
      exact (merge_two h1.len e2 (show s < n by omega)).symm
theorem RelI.all {n m : Nat} {xss : List (List Int)} {L : List Int} (hg : Good n m xss) (h : RelI n m xss (gsS n m xss).length L) {u v : Nat} (hu : u < n) (hv : v < n) : lab L u = lab L v ↔ St m xss u v := by
  refine ⟨h.fine u v hu hv, fun hs => ?_⟩
  have key : ∀ a b, a < b → b < n → St m xss a b → lab L a = lab L b := fun a b h1 h2 h3 => by
    obtain ⟨i, hi⟩ := List.getElem?_of_mem ((gsS_mem hg).2 ⟨h1, h2, h3⟩)
    exact h.done i (a, b) (lt_of_some hi) hi
  rcases Nat.lt_trichotomy u v with c | c | c
  · exact key u v c hv hs
  · rw [c]
  · exact (key v u c hu hs.symm).symm
/-- Both sides' labels make one division. -/
theorem rel_mrg {n m : Nat} {xss : List (List Int)} (hg : Good n m xss) : tidL (mrgF (idL n) (gsS n m xss)) = tidL (relF (idL n) (gsS n m xss)) := by
  have h1 := rel_inv hg _ (Nat.le_refl _)
  have h2 := mrg_inv hg _ (Nat.le_refl _)
  rw [List.take_length] at h1 h2
  exact tid_ker h2.labs.len h1.labs.len fun u v hu hv => (h2.all hg hu hv).trans (h1.all hg hu hv).symm

end Go.Proofs.Ytcglncepmieaaaa
