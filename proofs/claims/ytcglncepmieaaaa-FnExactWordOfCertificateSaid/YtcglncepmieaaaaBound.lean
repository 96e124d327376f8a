/-
  How long words have to be that lead to few states: two states are led to one by at most 45 letters, if at all; all states to as few as possible by at most 361. Numbers and lists alone, no program.
-/
import Derived.Test.YtcglncepmieaaaaFound
namespace Go.Proofs.Ytcglncepmieaaaa
namespace Hunt

/-- How many states a set has. -/
def cnt (b : Nat) : Nat := ((List.range 10).filter fun q => b.testBit q).length
def goS (δ : Nat → Nat → Nat) (ws : List Int) (q : Nat) : Nat := ws.foldl (fun q x => δ x.toNat q) q
theorem goS_append (δ : Nat → Nat → Nat) (us ws : List Int) (q : Nat) : goS δ (us ++ ws) q = goS δ ws (goS δ us q) := by simp [goS, List.foldl_append]
def okW (m : Nat) (ws : List Int) : Prop := ∀ x ∈ ws, 0 ≤ x ∧ x < (m : Int)
theorem okW.append {m : Nat} {us ws : List Int} (h : okW m us) (h' : okW m ws) : okW m (us ++ ws) := fun x hx => (List.mem_append.1 hx).elim (h x) (h' x)
structure Acts (aft : Nat → Nat → Nat) (δ : Nat → Nat → Nat) (n m : Nat) : Prop where
  n1 : 1 ≤ n
  n10 : n ≤ 10
  lt : ∀ x q, x < m → q < n → δ x q < n
  sub : ∀ b x q, x < m → (∀ s, b.testBit s = true → s < n) → ((aft b x).testBit q = true ↔ ∃ s, b.testBit s = true ∧ δ x s = q)
/-- The set has only states below n. -/
def In (n b : Nat) : Prop := ∀ s, b.testBit s = true → s < n
theorem In.lt {n b : Nat} (h : In n b) (hn : n ≤ 10) : b < 1024 := by
  rcases Nat.lt_or_ge b 1024 with a | a
  · exact a
  · obtain ⟨i, hi, hb⟩ := Nat.exists_ge_and_testBit_of_ge_two_pow (x := b) (n := 10) a
    have := h i hb
    omega
theorem goW_in {aft δ : Nat → Nat → Nat} {n m : Nat} (ha : Acts aft δ n m) : ∀ (ws : List Int) (b : Nat), okW m ws → In n b → In n (goW aft b ws) ∧ ∀ q, ((goW aft b ws).testBit q = true ↔ ∃ s, b.testBit s = true ∧ goS δ ws s = q)
  | [], b, _, hb => ⟨hb, fun q => ⟨fun h => ⟨q, h, rfl⟩, fun ⟨s, h, e⟩ => by rw [← e]; exact h⟩⟩
  | x :: ws, b, hw, hb => by
    have hx := hw x (by simp)
    have h1 : In n (aft b x.toNat) := fun q hq => by
      obtain ⟨s, h2, rfl⟩ := (ha.sub b x.toNat q (by omega) hb).1 hq
      exact ha.lt _ _ (by omega) (hb s h2)
    obtain ⟨h3, h4⟩ := goW_in ha ws (aft b x.toNat) (fun y hy => hw y (by simp [hy])) h1
    refine ⟨h3, fun q => ?_⟩
    rw [show goW aft b (x :: ws) = goW aft (aft b x.toNat) ws from rfl, h4]
    constructor
    · rintro ⟨s, h5, h6⟩
      obtain ⟨t, h7, rfl⟩ := (ha.sub b x.toNat s (by omega) hb).1 h5
      exact ⟨t, h7, h6⟩
    · rintro ⟨t, h7, h6⟩
      exact ⟨δ x.toNat t, (ha.sub b x.toNat _ (by omega) hb).2 ⟨t, h7, rfl⟩, h6⟩
theorem mem_bits {n b q : Nat} (h : In n b) (hn : n ≤ 10) : q ∈ (List.range 10).filter (fun q => b.testBit q) ↔ b.testBit q = true := by
  rw [List.mem_filter, List.mem_range]
  exact ⟨fun h => h.2, fun hq => ⟨by have := h q hq; omega, hq⟩⟩
theorem bits_nodup (b : Nat) : ((List.range 10).filter fun q => b.testBit q).Nodup := List.Nodup.sublist List.filter_sublist List.nodup_range
theorem cnt_sub {n b c : Nat} (hb : In n b) (hc : In n c) (hn : n ≤ 10) (h : ∀ q, b.testBit q = true → c.testBit q = true) : cnt b ≤ cnt c :=
  nodup_sub (bits_nodup b) fun q hq => (mem_bits hc hn).2 (h q ((mem_bits hb hn).1 hq))
/-- A word that leads two states to one makes a set smaller. -/
theorem cnt_lt {aft δ : Nat → Nat → Nat} {n m b p q : Nat} {ws : List Int} (ha : Acts aft δ n m) (hw : okW m ws) (hb : In n b) (hp : b.testBit p = true) (hq : b.testBit q = true) (hne : p ≠ q) (he : goS δ ws p = goS δ ws q) : cnt (goW aft b ws) < cnt b := by
  obtain ⟨h1, h2⟩ := goW_in ha ws b hw hb
  have hqm := (mem_bits hb ha.n10).2 hq
  have := nodup_sub (L := (((List.range 10).filter fun s => b.testBit s).erase q).map (goS δ ws)) (bits_nodup (goW aft b ws)) (fun t ht => by
    obtain ⟨s, h3, rfl⟩ := (h2 t).1 ((mem_bits h1 ha.n10).1 ht)
    rw [List.mem_map]
    by_cases e : s = q
    · exact ⟨p, (List.mem_erase_of_ne hne).2 ((mem_bits hb ha.n10).2 hp), by rw [he, e]⟩
    · exact ⟨s, (List.mem_erase_of_ne e).2 ((mem_bits hb ha.n10).2 h3), rfl⟩)
  rw [List.length_map, List.length_erase_of_mem hqm] at this
  have hpos := List.length_pos_of_mem hqm
  unfold cnt
  omega
theorem cnt_le {aft δ : Nat → Nat → Nat} {n m b : Nat} {ws : List Int} (ha : Acts aft δ n m) (hw : okW m ws) (hb : In n b) : cnt (goW aft b ws) ≤ cnt b := by
  obtain ⟨h1, h2⟩ := goW_in ha ws b hw hb
  have := nodup_sub (L := ((List.range 10).filter fun s => b.testBit s).map (goS δ ws)) (bits_nodup (goW aft b ws)) (fun t ht => by
    obtain ⟨s, h3, rfl⟩ := (h2 t).1 ((mem_bits h1 ha.n10).1 ht)
    exact List.mem_map.2 ⟨s, (mem_bits hb ha.n10).2 h3, rfl⟩)
  rwa [List.length_map] at this
/-- A word that makes a set smaller leads two of its states to one. -/
theorem merges {aft δ : Nat → Nat → Nat} {n m b : Nat} {ws : List Int} (ha : Acts aft δ n m) (hw : okW m ws) (hb : In n b) (h : cnt (goW aft b ws) < cnt b) : ∃ p q, p ≠ q ∧ b.testBit p = true ∧ b.testBit q = true ∧ goS δ ws p = goS δ ws q := by
  refine Classical.byContradiction fun hno => ?_
  obtain ⟨h1, h2⟩ := goW_in ha ws b hw hb
  have hnd : (((List.range 10).filter fun s => b.testBit s).map (goS δ ws)).Nodup := by
    unfold List.Nodup
    rw [List.pairwise_map]
    refine List.Pairwise.imp_of_mem (fun {p q} hp hq hne e => hno ⟨p, q, hne, (mem_bits hb ha.n10).1 hp, (mem_bits hb ha.n10).1 hq, e⟩) (bits_nodup b)
  have := nodup_sub (L := (List.range 10).filter fun s => (goW aft b ws).testBit s) hnd (fun t ht => by
    obtain ⟨s, h3, rfl⟩ := List.mem_map.1 ht
    exact (mem_bits h1 ha.n10).2 ((h2 _).2 ⟨s, (mem_bits hb ha.n10).1 h3, rfl⟩))
  rw [List.length_map] at this
  unfold cnt at h
  omega
theorem small_of {aft δ : Nat → Nat → Nat} {n m b : Nat} (ha : Acts aft δ n m) (hb : In n b) (hlt : ∀ b x, b < 1024 → x < m → aft b x < 1024) : Small aft m b := ⟨hlt, hb.lt ha.n10⟩

def onesOfN (k : Nat) : List Nat := (List.range 1024).filter fun b => cnt b == k
theorem pairs_len : (onesOfN 2).length = 45 := by decide +kernel
theorem singles_len : (onesOfN 1).length = 10 := by decide +kernel
theorem mem_ones {k b : Nat} (hb : b < 1024) (h : cnt b = k) : b ∈ onesOfN k := by
  unfold onesOfN; rw [List.mem_filter, List.mem_range]; exact ⟨hb, by simp [h]⟩
theorem least {P : Nat → Prop} : ∀ (j : Nat), P j → ∃ k, k ≤ j ∧ P k ∧ ∀ i, i < k → ¬ P i := by
  intro j
  induction j using Nat.strongRecOn with
  | ind j ih =>
    intro h
    by_cases hx : ∃ i, i < j ∧ P i
    · obtain ⟨i, h1, h2⟩ := hx
      obtain ⟨k, h3, h4, h5⟩ := ih i h1 h2
      exact ⟨k, by omega, h4, h5⟩
    · exact ⟨j, Nat.le_refl _, h, fun i hi hp => hx ⟨i, hi, hp⟩⟩
/-- If all sets ahead of the first hit have k states, and so many sets of k states are there, then the hit's word is not longer. -/
theorem hit_le {aft δ : Nat → Nat → Nat} {n m b k N : Nat} {g : Nat → Prop} (ha : Acts aft δ n m) (hlt : ∀ b x, b < 1024 → x < m → aft b x < 1024) (hb : In n b) (hN : (onesOfN k).length = N)
    (hk : ∀ us, okW m us → ¬ g (goW aft b us) → cnt (goW aft b us) = k) (ws : List Int) (hw : okW m ws) (hg : g (goW aft b ws)) : ∃ us, okW m us ∧ us.length ≤ N ∧ g (goW aft b us) := by
  have hs : Small aft m b := small_of ha hb hlt
  obtain ⟨T, hT⟩ : ∃ T, T = allF aft m ws.length b := ⟨_, rfl⟩
  have hi : Inv aft m ws.length b T 1024 := by rw [hT]; exact all_inv
  obtain ⟨j, f, h1, h2, _⟩ := all_found hs ws.length ws rfl (Nat.le_refl _) hw
  rw [← hT] at h1
  obtain ⟨i, _, ⟨e, h4, h5⟩, h6⟩ := least (P := fun j => ∃ f, T[j]? = some f ∧ g f.set) j ⟨f, h1, by rw [h2]; exact hg⟩
  have he := hi.word e (List.mem_of_getElem? h4)
  refine ⟨e.word, he.2, ?_, by rw [← he.1]; exact h5⟩
  have hil := lt_of_at h4
  have hnd : ((T.take i).map Fnd.set).Nodup := by
    rw [List.map_take]
    exact List.Nodup.sublist (List.take_sublist _ _) hi.nodup
  have := nodup_sub (L := onesOfN k) hnd (fun x hx => by
    obtain ⟨d, hd, rfl⟩ := List.mem_map.1 hx
    obtain ⟨r, hr⟩ := mem_at hd
    have hri : r < i := by have := lt_of_at hr; rw [List.length_take] at this; omega
    rw [List.getElem?_take, if_pos hri] at hr
    obtain ⟨h7, h8⟩ := hi.word d (List.mem_of_getElem? hr)
    have hng : ¬ g d.set := fun hgd => h6 r hri ⟨d, hr, hgd⟩
    rw [h7] at hng ⊢
    exact mem_ones ((goW_in ha _ _ h8 hb).1.lt ha.n10) (hk _ h8 hng))
  rw [List.length_map, List.length_take, hN] at this
  have hwl := word_le hi i e h4
  omega
theorem testBit_one_shift (p q : Nat) : (1 <<< p).testBit q = decide (p = q) := by
  rw [Nat.one_shiftLeft, Nat.testBit_two_pow]
def pairB (p q : Nat) : Nat := 1 <<< p ||| 1 <<< q
theorem pair_bit {p q s : Nat} : (pairB p q).testBit s = true ↔ (s = p ∨ s = q) := by
  unfold pairB
  rw [Nat.testBit_or, testBit_one_shift, testBit_one_shift, Bool.or_eq_true, decide_eq_true_eq, decide_eq_true_eq]
  exact ⟨fun h => h.elim (fun e => .inl e.symm) (fun e => .inr e.symm), fun h => h.elim (fun e => .inl e.symm) (fun e => .inr e.symm)⟩
theorem pair_in {n p q : Nat} (hp : p < n) (hq : q < n) : In n (pairB p q) := fun _ hs => (pair_bit.1 hs).elim (fun e => e ▸ hp) (fun e => e ▸ hq)
theorem pair_key {aft δ : Nat → Nat → Nat} {n m p q : Nat} (ha : Acts aft δ n m) (hp : p < n) (hq : q < n) {us : List Int} (hu : okW m us) : cnt (goW aft (pairB p q) us) ≤ 1 ↔ goS δ us p = goS δ us q := by
  obtain ⟨h1, h2⟩ := goW_in ha us _ hu (pair_in hp hq)
  have mp := (mem_bits h1 ha.n10).2 ((h2 _).2 ⟨p, pair_bit.2 (.inl rfl), rfl⟩)
  have mq := (mem_bits h1 ha.n10).2 ((h2 _).2 ⟨q, pair_bit.2 (.inr rfl), rfl⟩)
  constructor
  · intro hc
    refine Classical.byContradiction fun hne => ?_
    have := nodup_sub (l := [goS δ us p, goS δ us q]) (L := (List.range 10).filter fun s => (goW aft (pairB p q) us).testBit s) (by simp [hne]) (fun x hx => by
      simp only [List.mem_cons, List.not_mem_nil, or_false] at hx
      rcases hx with rfl | rfl
      · exact mp
      · exact mq)
    unfold cnt at hc
    simp only [List.length_cons, List.length_nil] at this
    omega
  · intro e
    have := nodup_sub (L := [goS δ us p]) (bits_nodup (goW aft (pairB p q) us)) (fun t ht => by
      obtain ⟨s, h3, rfl⟩ := (h2 t).1 ((mem_bits h1 ha.n10).1 ht)
      rcases pair_bit.1 h3 with rfl | rfl
      · simp
      · simp [e])
    exact this
theorem pair_two {aft δ : Nat → Nat → Nat} {n m p q : Nat} (ha : Acts aft δ n m) (hp : p < n) (hq : q < n) {us : List Int} (hu : okW m us) : cnt (goW aft (pairB p q) us) ≤ 2 := by
  have h0 := cnt_le ha hu (pair_in hp hq)
  have := nodup_sub (L := [p, q]) (bits_nodup (pairB p q)) (fun t ht => by
    rcases pair_bit.1 ((mem_bits (pair_in hp hq) ha.n10).1 ht) with rfl | rfl
    · simp
    · simp)
  simp only [List.length_cons, List.length_nil] at this
  unfold cnt at h0 ⊢
  omega
/-- Two states that some word leads to one are led to one by a word of at most 45 letters. -/
theorem pair_bound {aft δ : Nat → Nat → Nat} {n m p q : Nat} (ha : Acts aft δ n m) (hlt : ∀ b x, b < 1024 → x < m → aft b x < 1024) (hp : p < n) (hq : q < n) (ws : List Int) (hw : okW m ws) (he : goS δ ws p = goS δ ws q) :
    ∃ us, okW m us ∧ us.length ≤ 45 ∧ goS δ us p = goS δ us q := by
  obtain ⟨us, h3, h4, h5⟩ := hit_le (g := fun c => cnt c ≤ 1) ha hlt (pair_in hp hq) pairs_len (fun us hu hng => by have := pair_two ha hp hq hu; omega) ws hw ((pair_key ha hp hq hw).2 he)
  exact ⟨us, h3, h4, (pair_key ha hp hq h3).1 h5⟩
theorem full_in (n : Nat) : In n (2 ^ n - 1) := fun s hs => by rw [Nat.testBit_two_pow_sub_one] at hs; simpa using hs
theorem full_bit {n s : Nat} (h : s < n) : (2 ^ n - 1).testBit s = true := by rw [Nat.testBit_two_pow_sub_one]; simpa using h
theorem goS_lt {aft δ : Nat → Nat → Nat} {n m : Nat} (ha : Acts aft δ n m) : ∀ (ws : List Int) (q : Nat), okW m ws → q < n → goS δ ws q < n
  | [], q, _, h => h
  | x :: ws, q, hw, h => goS_lt ha ws _ (fun y hy => hw y (by simp [hy])) (ha.lt _ _ (by have := hw x (by simp); omega) h)
theorem cnt_pos {n b q : Nat} (h : In n b) (hn : n ≤ 10) (hq : b.testBit q = true) : 1 ≤ cnt b := List.length_pos_of_mem ((mem_bits h hn).2 hq)
/-- What some word does to the number of states, one of at most 361 letters does. -/
theorem rank_bound {aft δ : Nat → Nat → Nat} {n m : Nat} (ha : Acts aft δ n m) (hlt : ∀ b x, b < 1024 → x < m → aft b x < 1024) (ws : List Int) (hw : okW m ws) :
    ∃ us, okW m us ∧ us.length ≤ 361 ∧ cnt (goW aft (2 ^ n - 1) us) ≤ cnt (goW aft (2 ^ n - 1) ws) := by
  have hn := ha.n10
  obtain ⟨r, hr⟩ : ∃ r, r = cnt (goW aft (2 ^ n - 1) ws) := ⟨_, rfl⟩
  have hin := full_in n
  have claim : ∀ k, ∃ us, okW m us ∧ us.length ≤ 1 + 45 * k ∧ (cnt (goW aft (2 ^ n - 1) us) ≤ r ∨ cnt (goW aft (2 ^ n - 1) us) + k ≤ 9) := by
    intro k
    induction k with
    | zero =>
      have hc : cnt (2 ^ n - 1) ≤ n := by
        have := nodup_sub (L := List.range n) (bits_nodup (2 ^ n - 1)) (fun t ht => by
          rw [List.mem_range]; exact hin t ((mem_bits hin hn).1 ht))
        rwa [List.length_range] at this
      by_cases h : cnt (2 ^ n - 1) ≤ r ∨ cnt (2 ^ n - 1) ≤ 9
      · exact ⟨[], fun x hx => by simp at hx, Nat.zero_le _, by simpa [goW] using h⟩
      · -- some letter leads two states to one
        have hx : ∃ x, x < m ∧ ∃ p q, p < n ∧ q < n ∧ p ≠ q ∧ δ x p = δ x q := by
          refine Classical.byContradiction fun hno => ?_
          have hinj : ∀ (vs : List Int), okW m vs → ∀ p q, p < n → q < n → goS δ vs p = goS δ vs q → p = q := by
            intro vs
            induction vs with
            | nil => intro _ p q _ _ e; exact e
            | cons x vs ih =>
              intro hv p q hp hq e
              have hxm := hv x (by simp)
              have := ih (fun y hy => hv y (by simp [hy])) (δ x.toNat p) (δ x.toNat q) (ha.lt _ _ (by omega) hp) (ha.lt _ _ (by omega) hq) e
              refine Classical.byContradiction fun hne => hno ⟨x.toNat, by omega, p, q, hp, hq, hne, this⟩
          obtain ⟨p, q, h1, h2, h3, h4⟩ := merges ha hw hin (by omega)
          exact h1 (hinj ws hw p q (hin p h2) (hin q h3) h4)
        obtain ⟨x, hxm, p, q, hp, hq, hne, e⟩ := hx
        have hok : okW m [(x : Int)] := fun y hy => by
          have : y = (x : Int) := by simpa using hy
          subst this; omega
        have := cnt_lt (ws := [(x : Int)]) ha hok hin (full_bit hp) (full_bit hq) hne (by simpa [goS] using e)
        exact ⟨[(x : Int)], hok, by simp, .inr (by omega)⟩
    | succ k ih =>
      obtain ⟨us, h1, h2, h3⟩ := ih
      by_cases h4 : cnt (goW aft (2 ^ n - 1) us) ≤ r
      · exact ⟨us, h1, by omega, .inl h4⟩
      · obtain ⟨h5, h6⟩ := goW_in ha us _ h1 hin
        obtain ⟨h7, h8⟩ := goW_in ha ws _ hw h5
        obtain ⟨h9, h10⟩ := goW_in ha ws _ hw hin
        have hsub : cnt (goW aft (goW aft (2 ^ n - 1) us) ws) ≤ r := by
          rw [hr]
          refine cnt_sub h7 h9 hn (fun q hq => ?_)
          obtain ⟨s, h11, h12⟩ := (h8 q).1 hq
          exact (h10 q).2 ⟨s, full_bit (h5 s h11), h12⟩
        obtain ⟨p, q, e1, e2, e3, e4⟩ := merges ha hw h5 (by omega)
        obtain ⟨vs, v1, v2, v3⟩ := pair_bound ha hlt (h5 p e2) (h5 q e3) ws hw e4
        have := cnt_lt ha v1 h5 e2 e3 e1 v3
        refine ⟨us ++ vs, h1.append v1, by rw [List.length_append]; omega, .inr ?_⟩
        rw [goW_append]
        rcases h3 with h3 | h3
        · exact absurd h3 h4
        · omega
  obtain ⟨us, h1, h2, h3⟩ := claim 8
  refine ⟨us, h1, by omega, ?_⟩
  rw [← hr]
  rcases h3 with h3 | h3
  · exact h3
  · obtain ⟨h9, h10⟩ := goW_in ha ws _ hw hin
    have := cnt_pos h9 hn ((h10 _).2 ⟨0, full_bit ha.n1, rfl⟩)
    omega
theorem cnt_one_eq {n b c : Nat} (_hb : In n b) (hc : In n c) (hn : n ≤ 10) (h1 : cnt c ≤ 1) (hs : ∀ q, b.testBit q = true → c.testBit q = true) (hne : ∃ q, b.testBit q = true) : b = c := by
  obtain ⟨q, hq⟩ := hne
  refine Nat.eq_of_testBit_eq fun i => ?_
  rw [Bool.eq_iff_iff]
  refine ⟨hs i, fun hi => ?_⟩
  have e : i = q := by
    refine Classical.byContradiction fun hne => ?_
    have := nodup_sub (l := [i, q]) (L := (List.range 10).filter fun s => c.testBit s) (by simp [hne]) (fun x hx => by
      simp only [List.mem_cons, List.not_mem_nil, or_false] at hx
      rcases hx with rfl | rfl
      · exact (mem_bits hc hn).2 hi
      · exact (mem_bits hc hn).2 (hs _ hq))
    unfold cnt at h1
    simp only [List.length_cons, List.length_nil] at this
    omega
  rw [e]; exact hq
/-- A set of one state to which some word leads is reached by a word of at most 371 letters. -/
theorem single_bound {aft δ : Nat → Nat → Nat} {n m : Nat} (ha : Acts aft δ n m) (hlt : ∀ b x, b < 1024 → x < m → aft b x < 1024) (ws : List Int) (hw : okW m ws) (h1 : cnt (goW aft (2 ^ n - 1) ws) ≤ 1) :
    ∃ us, okW m us ∧ us.length ≤ 371 ∧ goW aft (2 ^ n - 1) us = goW aft (2 ^ n - 1) ws := by
  have hn := ha.n10
  have hin := full_in n
  obtain ⟨vs, v1, v2, v3⟩ := rank_bound ha hlt ws hw
  obtain ⟨b, hb⟩ : ∃ b, b = goW aft (2 ^ n - 1) vs := ⟨_, rfl⟩
  obtain ⟨g1, g2⟩ := goW_in ha vs _ v1 hin
  obtain ⟨g3, g4⟩ := goW_in ha ws _ hw hin
  rw [← hb] at v3 g1 g2
  have hb0 : b.testBit (goS δ vs 0) = true := (g2 _).2 ⟨0, full_bit ha.n1, rfl⟩
  obtain ⟨g5, g6⟩ := goW_in ha ws b hw g1
  have hto : goW aft b ws = goW aft (2 ^ n - 1) ws := cnt_one_eq g5 g3 hn h1 (fun q hq => by
    obtain ⟨s, e1, e2⟩ := (g6 q).1 hq
    exact (g4 q).2 ⟨s, full_bit (g1 s e1), e2⟩) ⟨_, (g6 _).2 ⟨_, hb0, rfl⟩⟩
  obtain ⟨us, u1, u2, u3⟩ := hit_le (g := fun c => c = goW aft (2 ^ n - 1) ws) ha hlt g1 singles_len (fun us hu _ => by
    have a1 := cnt_le ha hu g1
    obtain ⟨a2, a3⟩ := goW_in ha us b hu g1
    have a4 := cnt_pos a2 hn ((a3 _).2 ⟨_, hb0, rfl⟩)
    omega) ws hw hto
  refine ⟨vs ++ us, v1.append u1, by rw [List.length_append]; omega, ?_⟩
  rw [goW_append, ← hb, u3]
end Hunt
end Go.Proofs.Ytcglncepmieaaaa
