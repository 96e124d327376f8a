/-
  The least congruence that puts two states together, on lists of labels alone.
-/
import Derived.Test.YtcglncepmieaaaaTidy
namespace Go.Proofs.Ytcglncepmieaaaa

/-- The label of a state. -/
def lab (L : List Int) (u : Nat) : Int := L.getD u 0
def mergeL (L : List Int) (p q : Int) : List Int := L.map (fun y => if y = p then q else y)
theorem mergeL_len (L : List Int) (p q : Int) : (mergeL L p q).length = L.length := by simp [mergeL]
theorem lab_at {L : List Int} {u : Nat} (h : u < L.length) : L[u]? = some (lab L u) := by
  unfold lab
  rw [List.getD_eq_getElem?_getD, List.getElem?_eq_getElem h]; rfl
theorem lab_of {L : List Int} {u : Nat} {y : Int} (h : L[u]? = some y) : lab L u = y := by
  unfold lab
  rw [List.getD_eq_getElem?_getD, h]; rfl
theorem lab_merge {L : List Int} {p q : Int} {u : Nat} (h : u < L.length) : lab (mergeL L p q) u = if lab L u = p then q else lab L u := by
  refine lab_of ?_
  unfold mergeL
  rw [List.getElem?_map, lab_at h]; rfl

/-- How many labels below n there are. -/
def cntL (n : Nat) (L : List Int) : Nat := (List.range n).countP fun v : Nat => L.any fun y => decide (y = (v : Int))
theorem countP_ltL {p q : Nat → Bool} : ∀ (l : List Nat), (∀ x ∈ l, p x = true → q x = true) → (∃ x ∈ l, p x = false ∧ q x = true) → l.countP p < l.countP q
  | [], _, ⟨x, hx, _⟩ => by cases hx
  | y :: ys, h, ⟨x, hx, h1, h2⟩ => by
    have hle : ys.countP p ≤ ys.countP q := List.countP_mono_left (fun z hz hp => h z (List.mem_cons_of_mem _ hz) hp)
    rw [List.countP_cons, List.countP_cons]
    rcases List.mem_cons.1 hx with rfl | hx'
    · rw [h1, h2]; simp; omega
    · have ih := countP_ltL ys (fun z hz => h z (List.mem_cons_of_mem _ hz)) ⟨x, hx', h1, h2⟩
      have hy := h y List.mem_cons_self
      cases hpy : p y with
      | false => simp; split <;> omega
      | true => rw [hy hpy]; simp; omega
theorem cntL_le (n : Nat) (L : List Int) : cntL n L ≤ n := by
  have := List.countP_le_length (p := fun v : Nat => L.any fun y => decide (y = (v : Int))) (l := List.range n)
  simpa [cntL] using this
theorem any_lab {L : List Int} {v : Int} : (L.any fun y => decide (y = v)) = true ↔ ∃ u, u < L.length ∧ lab L u = v := by
  rw [List.any_eq_true]
  constructor
  · rintro ⟨y, hy, he⟩
    obtain ⟨u, hu⟩ := List.getElem?_of_mem hy
    have hlt : u < L.length := by
      obtain ⟨h, _⟩ := List.getElem?_eq_some_iff.1 hu; exact h
    exact ⟨u, hlt, (lab_of hu).trans (of_decide_eq_true he)⟩
  · rintro ⟨u, hu, he⟩
    exact ⟨_, List.mem_of_getElem? (lab_at hu), by simpa using he⟩

/-- Labels of n states, each below n. -/
structure Labs (n : Nat) (L : List Int) : Prop where
  len : L.length = n
  rng : ∀ u, u < n → 0 ≤ lab L u ∧ lab L u < (n : Int)
theorem Labs.merge {n : Nat} {L : List Int} (h : Labs n L) {p q : Int} (hq : 0 ≤ q ∧ q < (n : Int)) : Labs n (mergeL L p q) := by
  refine ⟨by rw [mergeL_len, h.len], fun u hu => ?_⟩
  rw [lab_merge (by rw [h.len]; exact hu)]
  split
  · exact hq
  · exact h.rng u hu
theorem Labs.less {n : Nat} {L : List Int} (h : Labs n L) {a b : Nat} (ha : a < n) (hb : b < n) (hne : ¬ lab L a = lab L b) : cntL n (mergeL L (lab L a) (lab L b)) < cntL n L := by
  refine countP_ltL _ (fun v _ hv => ?_) ⟨(lab L a).toNat, ?_, ?_, ?_⟩
  · obtain ⟨u, hu, he⟩ := any_lab.1 hv
    rw [mergeL_len] at hu
    rw [lab_merge hu] at he
    split at he
    · exact any_lab.2 ⟨b, by rw [h.len]; exact hb, he⟩
    · exact any_lab.2 ⟨u, hu, he⟩
  · have := h.rng a ha
    exact List.mem_range.2 (by omega)
  · have := h.rng a ha
    rw [show (((lab L a).toNat : Nat) : Int) = lab L a from by omega, Bool.eq_false_iff]
    intro hv
    obtain ⟨u, hu, he⟩ := any_lab.1 hv
    rw [mergeL_len] at hu
    rw [lab_merge hu] at he
    split at he
    · exact hne he.symm
    · rename_i h1; exact h1 he
  · have := h.rng a ha
    rw [show (((lab L a).toNat : Nat) : Int) = lab L a from by omega]
    exact any_lab.2 ⟨a, by rw [h.len]; exact ha, rfl⟩

/-- States with one label are in the relation R. -/
def Fine (n : Nat) (L : List Int) (R : Nat → Nat → Prop) : Prop := ∀ u v, u < n → v < n → lab L u = lab L v → R u v
theorem Fine.merge {n : Nat} {L : List Int} {R : Nat → Nat → Prop} (hl : L.length = n) (h : Fine n L R) (hs : ∀ u v, R u v → R v u) (ht : ∀ u v w, R u v → R v w → R u w) {a b : Nat} (ha : a < n) (hb : b < n) (hab : R a b) : Fine n (mergeL L (lab L a) (lab L b)) R := by
  intro u v hu hv he
  rw [lab_merge (by omega), lab_merge (by omega)] at he
  by_cases h1 : lab L u = lab L a
  · rw [if_pos h1] at he
    by_cases h2 : lab L v = lab L a
    · exact ht _ _ _ (h u a hu ha h1) (h a v ha hv h2.symm)
    · rw [if_neg h2] at he
      exact ht _ _ _ (ht _ _ _ (h u a hu ha h1) hab) (h b v hb hv he)
  · rw [if_neg h1] at he
    by_cases h2 : lab L v = lab L a
    · rw [if_pos h2] at he
      exact ht _ _ _ (h u b hu hb he) (ht _ _ _ (hs _ _ hab) (h a v ha hv h2.symm))
    · rw [if_neg h2] at he
      exact h u v hu hv he
/-- What is kept together stays together. -/
theorem merge_kept {n : Nat} {L : List Int} (hl : L.length = n) {p q : Int} {u v : Nat} (hu : u < n) (hv : v < n) (h : lab L u = lab L v) : lab (mergeL L p q) u = lab (mergeL L p q) v := by
  rw [lab_merge (by omega), lab_merge (by omega), h]
theorem merge_two {n : Nat} {L : List Int} (hl : L.length = n) {a b : Nat} (ha : a < n) (hb : b < n) : lab (mergeL L (lab L a) (lab L b)) a = lab (mergeL L (lab L a) (lab L b)) b := by
  rw [lab_merge (by omega), lab_merge (by omega), if_pos rfl]
  split <;> simp_all

/-- The relation of a labelling, and that of the states whose successors are in it. -/
def kerR (C : Nat → Int) (u v : Nat) : Prop := C u = C v
def nextR (m : Nat) (xss : List (List Int)) (C : Nat → Int) (u v : Nat) : Prop := ∀ x, x < m → C (nx xss x u) = C (nx xss x v)
/-- The labelling C is a congruence. -/
def Closed2 (n m : Nat) (xss : List (List Int)) (C : Nat → Int) : Prop := ∀ u v, u < n → v < n → C u = C v → nextR m xss C u v
/-- The labels of the least congruence that puts s and t together. -/
structure LeastL (n m : Nat) (xss : List (List Int)) (s t : Nat) (L : List Int) : Prop where
  labs : Labs n L
  both : lab L s = lab L t
  closed : Closed2 n m xss (lab L)
  sound : ∀ C, Closed2 n m xss C → C s = C t → Fine n L (kerR C)
theorem LeastL.same {n m : Nat} {xss : List (List Int)} {s t : Nat} {L L' : List Int} (h : LeastL n m xss s t L) (h' : LeastL n m xss s t L') {u v : Nat} (hu : u < n) (hv : v < n) : lab L u = lab L v ↔ lab L' u = lab L' v :=
  ⟨fun e => h.sound (lab L') h'.closed h'.both u v hu hv e, fun e => h'.sound (lab L) h.closed h.both u v hu hv e⟩

/-- The division of the labels depends on which labels are the same alone. -/
theorem placeOf_lab {L L' : List Int} {n : Nat} (hl : L.length = n) (hl' : L'.length = n) (h : ∀ u v, u < n → v < n → (lab L u = lab L v ↔ lab L' u = lab L' v)) {j : Nat} (hj : j < n) : placeOf L (lab L j) 0 = placeOf L' (lab L' j) 0 := by
  obtain ⟨p, hp1, hp2, hp3, hp4⟩ := placeOf_le (xs := L) (v := lab L j) (i := j) (k0 := 0) (lab_at (by omega))
  have hpn : p < n := by omega
  rw [hp4]
  refine (placeOf_hit (k := p) (k0 := 0) ?_ (fun i hi e => ?_)).symm
  · rw [lab_at (by omega)]
    exact congrArg some ((h p j hpn hj).1 (lab_of hp2))
  · have hin : i < n := by omega
    refine hp3 i hi ?_
    rw [lab_at (by omega)]
    exact congrArg some ((h i j hin hj).2 (lab_of e))
theorem cntT_same {L L' : List Int} {n : Nat} (hl : L.length = n) (hl' : L'.length = n) (h : ∀ u v, u < n → v < n → (lab L u = lab L v ↔ lab L' u = lab L' v)) : ∀ k, k ≤ n → cntT L k = cntT L' k
  | 0, _ => rfl
  | k + 1, hk => by
    have ih := cntT_same hl hl' h k (by omega)
    have hp := placeOf_lab hl hl' h (j := k) (by omega)
    unfold cntT
    unfold lab at hp
    rw [ih, hp]
theorem tid_ker {L L' : List Int} {n : Nat} (hl : L.length = n) (hl' : L'.length = n) (h : ∀ u v, u < n → v < n → (lab L u = lab L v ↔ lab L' u = lab L' v)) : tidL L = tidL L' := by
  unfold tidL
  rw [hl, hl']
  refine List.map_congr_left (fun j hj => ?_)
  have hjn : j < n := List.mem_range.1 hj
  have hp := placeOf_lab hl hl' h hjn
  obtain ⟨p, hp1, hp2, hp3, hp4⟩ := placeOf_le (xs := L) (v := lab L j) (i := j) (k0 := 0) (lab_at (by omega))
  unfold tidF
  unfold lab at hp hp4
  rw [← hp, hp4, Int.toNat_natCast, cntT_same hl hl' h (0 + p) (by omega)]
theorem LeastL.tid {n m : Nat} {xss : List (List Int)} {s t : Nat} {L L' : List Int} (h : LeastL n m xss s t L) (h' : LeastL n m xss s t L') : tidL L = tidL L' :=
  tid_ker h.labs.len h'.labs.len (fun _ _ hu hv => h.same h' hu hv)

/-- What joinStates makes of labels. -/
structure Join (n m : Nat) (xss : List (List Int)) (s t : Nat) (L0 L1 : List Int) : Prop where
  labs : Labs n L1
  more : Fine n L0 (kerR (lab L1))
  both : lab L1 s = lab L1 t
  sound : ∀ C, Closed2 n m xss C → C s = C t → Fine n L0 (kerR C) → Fine n L1 (kerR C)
  next : ∀ C, Fine n L1 (kerR C) → Fine n L0 (nextR m xss C) → Fine n L1 (nextR m xss C)
  less : cntL n L1 ≤ cntL n L0
theorem kerR_symm (C : Nat → Int) : ∀ u v, kerR C u v → kerR C v u := fun _ _ h => Eq.symm h
theorem kerR_trans (C : Nat → Int) : ∀ u v w, kerR C u v → kerR C v w → kerR C u w := fun _ _ _ h h' => Eq.trans h h'
theorem nextR_symm (m : Nat) (xss : List (List Int)) (C : Nat → Int) : ∀ u v, nextR m xss C u v → nextR m xss C v u := fun _ _ h x hx => (h x hx).symm
theorem nextR_trans (m : Nat) (xss : List (List Int)) (C : Nat → Int) : ∀ u v w, nextR m xss C u v → nextR m xss C v w → nextR m xss C u w := fun _ _ _ h h' x hx => (h x hx).trans (h' x hx)
theorem Join.refl {n m : Nat} {xss : List (List Int)} {s t : Nat} {L : List Int} (h : Labs n L) (he : lab L s = lab L t) : Join n m xss s t L L :=
  ⟨h, fun _ _ _ _ e => e, he, fun _ _ _ h => h, fun _ _ h => h, Nat.le_refl _⟩
/-- The middle of joinStates: the first k letters are done. -/
structure Mid (n m : Nat) (xss : List (List Int)) (s t : Nat) (L0 : List Int) (k : Nat) (L : List Int) : Prop where
  labs : Labs n L
  more : Fine n L0 (kerR (lab L))
  both : lab L s = lab L t
  done : ∀ x, x < k → lab L (nx xss x s) = lab L (nx xss x t)
  sound : ∀ C, Closed2 n m xss C → C s = C t → Fine n L0 (kerR C) → Fine n L (kerR C)
  next : ∀ C, Fine n L (kerR C) → Fine n L0 (nextR m xss C) → nextR m xss C s t → Fine n L (nextR m xss C)
  less : cntL n L < cntL n L0
theorem Mid.start {n m : Nat} {xss : List (List Int)} {s t : Nat} {L : List Int} (h : Labs n L) (hs : s < n) (ht : t < n) (hne : ¬ lab L s = lab L t) : Mid n m xss s t L 0 (mergeL L (lab L t) (lab L s)) where
  labs := h.merge (h.rng s hs)
  more := fun _ _ hu hv e => merge_kept h.len hu hv e
  both := (merge_two h.len ht hs).symm
  done := fun _ hx => absurd hx (Nat.not_lt_zero _)
  sound := fun C _ he hf => hf.merge h.len (kerR_symm C) (kerR_trans C) ht hs he.symm
  next := fun C _ hf hst => hf.merge h.len (nextR_symm m xss C) (nextR_trans m xss C) ht hs (nextR_symm m xss C _ _ hst)
  less := h.less ht hs (fun e => hne e.symm)
theorem Mid.step {n m : Nat} {xss : List (List Int)} {s t k : Nat} {L0 L L' : List Int} (hg : Good n m xss) (hk : k < m) (hs : s < n) (ht : t < n) (h : Mid n m xss s t L0 k L) (hj : Join n m xss (nx xss k s) (nx xss k t) L L') : Mid n m xss s t L0 (k + 1) L' := by
  have hin : ∀ x u, x < m → u < n → nx xss x u < n := fun x u hx hu => hg.to [(x : Int)] u (fun z hz => by rw [List.mem_singleton.1 hz]; omega) hu
  refine ⟨hj.labs, fun u v hu hv e => hj.more u v hu hv (h.more u v hu hv e), hj.more s t hs ht h.both, fun x hx => ?_, fun C hc he hf => ?_, fun C hf h0 hst => ?_, Nat.lt_of_le_of_lt hj.less h.less⟩
  · by_cases e : x = k
    · subst e; exact hj.both
    · exact hj.more _ _ (hin x s (by omega) hs) (hin x t (by omega) ht) (h.done x (by omega))
  · exact hj.sound C hc (hc s t hs ht he k hk) (h.sound C hc he hf)
  · refine hj.next C hf (h.next C (fun u v hu hv e => hf u v hu hv (hj.more u v hu hv e)) h0 hst)
theorem Mid.stop {n m : Nat} {xss : List (List Int)} {s t : Nat} {L0 L : List Int} (hg : Good n m xss) (hs : s < n) (ht : t < n) (h : Mid n m xss s t L0 m L) : Join n m xss s t L0 L := by
  have hin : ∀ x u, x < m → u < n → nx xss x u < n := fun x u hx hu => hg.to [(x : Int)] u (fun z hz => by rw [List.mem_singleton.1 hz]; omega) hu
  refine ⟨h.labs, h.more, h.both, h.sound, fun C hf h0 => h.next C hf h0 (fun x hx => ?_), Nat.le_of_lt h.less⟩
  exact hf _ _ (hin x s hx hs) (hin x t hx ht) (h.done x hx)

theorem allL_lab {n u : Nat} (h : u < n) : lab ((List.range n).map fun q => ((q : Nat) : Int)) u = (u : Int) := by
  refine lab_of ?_
  rw [List.getElem?_map, List.getElem?_range h]; rfl
theorem allL_labs (n : Nat) : Labs n ((List.range n).map fun q => ((q : Nat) : Int)) := ⟨by simp, fun u hu => by rw [allL_lab hu]; omega⟩
theorem allL_fine {n : Nat} {R : Nat → Nat → Prop} (h : ∀ u, R u u) : Fine n ((List.range n).map fun q => ((q : Nat) : Int)) R := by
  intro u v hu hv e
  rw [allL_lab hu, allL_lab hv] at e
  obtain rfl : u = v := by omega
  exact h u
theorem Join.least {n m : Nat} {xss : List (List Int)} {s t : Nat} {L : List Int} (h : Join n m xss s t ((List.range n).map fun q => ((q : Nat) : Int)) L) : LeastL n m xss s t L :=
  ⟨h.labs, h.both, fun u v hu hv e => h.next (lab L) (fun _ _ _ _ e => e) (allL_fine (fun _ _ _ => rfl)) u v hu hv e, fun C hc he => h.sound C hc he (allL_fine (fun _ => rfl))⟩

/-- What stands in the model's passes. -/
structure Gro (n m : Nat) (xss : List (List Int)) (s t : Nat) (L : List Int) : Prop where
  labs : Labs n L
  both : lab L s = lab L t
  sound : ∀ C, Closed2 n m xss C → C s = C t → Fine n L (kerR C)
theorem Gro.start {n m : Nat} {xss : List (List Int)} {s t : Nat} (hs : s < n) (ht : t < n) : Gro n m xss s t (mergeL ((List.range n).map fun q => ((q : Nat) : Int)) (s : Int) (t : Int)) := by
  have hl := allL_labs n
  have h1 := merge_two hl.len hs ht
  rw [allL_lab hs, allL_lab ht] at h1
  refine ⟨hl.merge (by omega), h1, fun C _ he => ?_⟩
  have h2 := (allL_fine (n := n) (R := kerR C) (fun _ => rfl)).merge hl.len (kerR_symm C) (kerR_trans C) hs ht he
  rw [allL_lab hs, allL_lab ht] at h2
  exact h2
theorem Gro.step {n m : Nat} {xss : List (List Int)} {s t a b x : Nat} {L : List Int} (hg : Good n m xss) (h : Gro n m xss s t L) (hs : s < n) (ht : t < n) (ha : a < n) (hb : b < n) (hx : x < m) (he : lab L a = lab L b) (hne : ¬ lab L (nx xss x a) = lab L (nx xss x b)) :
    Gro n m xss s t (mergeL L (lab L (nx xss x a)) (lab L (nx xss x b))) ∧ cntL n (mergeL L (lab L (nx xss x a)) (lab L (nx xss x b))) < cntL n L ∧ lab (mergeL L (lab L (nx xss x a)) (lab L (nx xss x b))) a = lab (mergeL L (lab L (nx xss x a)) (lab L (nx xss x b))) b := by
  have hin : ∀ x u, x < m → u < n → nx xss x u < n := fun x u hx hu => hg.to [(x : Int)] u (fun z hz => by rw [List.mem_singleton.1 hz]; omega) hu
  have h1 := hin x a hx ha
  have h2 := hin x b hx hb
  refine ⟨⟨h.labs.merge (h.labs.rng _ h2), merge_kept h.labs.len hs ht h.both, fun C hc hst => ?_⟩, h.labs.less h1 h2 hne, merge_kept h.labs.len ha hb he⟩
  have hf := h.sound C hc hst
  exact hf.merge h.labs.len (kerR_symm C) (kerR_trans C) h1 h2 (hc a b ha hb (hf a b ha hb he) x hx)
/-- The letters below k lead from u and v to one label, if they have one. -/
def okP2 (xss : List (List Int)) (L : List Int) (u v k : Nat) : Prop := lab L u = lab L v → ∀ x, x < k → lab L (nx xss x u) = lab L (nx xss x v)
theorem Gro.least {n m : Nat} {xss : List (List Int)} {s t : Nat} {L : List Int} (h : Gro n m xss s t L) (hp : ∀ u, u < n → ∀ v, v < u → okP2 xss L u v m) : LeastL n m xss s t L := by
  refine ⟨h.labs, h.both, fun u v hu hv e x hx => ?_, h.sound⟩
  rcases Nat.lt_trichotomy u v with h1 | h1 | h1
  · exact (hp v hv u h1 e.symm x hx).symm
  · rw [h1]
  · exact hp u hu v h1 e x hx

end Go.Proofs.Ytcglncepmieaaaa
