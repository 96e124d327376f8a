/-
  Depths of sets, on numbers alone: which sets of states are known to have a depth at most d, that nothing new comes once nothing new has come, and that a set with a depth has a letter that leads on.
-/
import Derived.Test.YtdelanjkaokiaaaBits
namespace Go.Proofs.Ytdelanjkaokiaaa

/-- The states of the set b below k that have the lamp v. -/
def lampB (b : Nat) (ls : List Int) (v : Nat) : Nat → Nat
  | 0 => 0
  | k + 1 => if ls.getD k 0 = (v : Int) then lampB b ls v k ||| (b &&& 1 <<< k) else lampB b ls v k
theorem lampB_le {b n : Nat} (hb : b < 2 ^ n) (ls : List Int) (v : Nat) : ∀ k, lampB b ls v k < 2 ^ n
  | 0 => by simpa [lampB] using Nat.two_pow_pos n
  | k + 1 => by
    have h := lampB_le hb ls v k
    unfold lampB
    split
    · exact Nat.or_lt_two_pow h (Nat.lt_of_le_of_lt Nat.and_le_left hb)
    · exact h
theorem lampB_lt {b : Nat} (hb : b < 1024) (ls : List Int) (v : Nat) (k : Nat) : lampB b ls v k < 1024 := lampB_le (n := 10) hb ls v k
theorem lampB_bit (b : Nat) (ls : List Int) (v q : Nat) : ∀ k, (lampB b ls v k).testBit q = (decide (q < k) && (b.testBit q && decide (ls.getD q 0 = (v : Int))))
  | 0 => by simp [lampB]
  | k + 1 => by
    have h := lampB_bit b ls v q k
    have h1 : (1 <<< k).testBit q = decide (k = q) := by rw [Nat.one_shiftLeft, Nat.testBit_two_pow]
    unfold lampB
    split
    · rename_i hk
      rw [Nat.testBit_or, h, Nat.testBit_and, h1]
      by_cases hq : q = k
      · subst hq
        have e0 : decide (ls.getD q 0 = (v : Int)) = true := decide_eq_true hk
        rw [e0]; simp
      · have e1 : decide (k = q) = false := by simp; omega
        have e2 : decide (q < k + 1) = decide (q < k) := by simp; omega
        rw [e1, e2]; simp
    · rename_i hk
      rw [h]
      by_cases hq : q = k
      · subst hq
        have e0 : decide (ls.getD q 0 = (v : Int)) = false := decide_eq_false hk
        rw [e0]; simp
      · have e2 : decide (q < k + 1) = decide (q < k) := by simp; omega
        rw [e2]

/-- The depth of the set b as far as it is at most d; -1 if it is not. -/
def depN (m : Nat) (bel : Nat → Nat → Nat → Nat) : Nat → Nat → Int
  | 0, b => if Lib.onesCount b ≤ 1 then 0 else -1
  | d + 1, b => if 0 ≤ depN m bel d b then depN m bel d b else if ((List.range m).any fun x => (List.range 4).all fun v => decide (0 ≤ depN m bel d (bel b x v))) = true then ((d + 1 : Nat) : Int) else -1
/-- Some letter leads from the set b to sets alone that are known at d. -/
def leadN (m : Nat) (bel : Nat → Nat → Nat → Nat) (d b : Nat) : Prop := ∃ x, x < m ∧ ∀ v, v < 4 → 0 ≤ depN m bel d (bel b x v)
section
variable {m : Nat} {bel : Nat → Nat → Nat → Nat}
theorem leadN_iff {d b : Nat} : ((List.range m).any fun x => (List.range 4).all fun v => decide (0 ≤ depN m bel d (bel b x v))) = true ↔ leadN m bel d b := by
  simp only [List.any_eq_true, List.mem_range, List.all_eq_true, decide_eq_true_eq, leadN]
theorem depN_0 (b : Nat) : depN m bel 0 b = if Lib.onesCount b ≤ 1 then 0 else -1 := rfl
theorem depN_old {d b : Nat} (h : 0 ≤ depN m bel d b) : depN m bel (d + 1) b = depN m bel d b := by rw [depN, if_pos h]
theorem depN_new {d b : Nat} (h : ¬ 0 ≤ depN m bel d b) (hl : leadN m bel d b) : depN m bel (d + 1) b = ((d + 1 : Nat) : Int) := by rw [depN, if_neg h, if_pos (leadN_iff.2 hl)]
theorem depN_no {d b : Nat} (h : ¬ 0 ≤ depN m bel d b) (hl : ¬ leadN m bel d b) : depN m bel (d + 1) b = -1 := by rw [depN, if_neg h, if_neg (fun k => hl (leadN_iff.1 k))]
theorem depN_ge (d b : Nat) : -1 ≤ depN m bel d b := by
  induction d with
  | zero => rw [depN_0]; split <;> omega
  | succ d ih =>
    by_cases h : 0 ≤ depN m bel d b
    · rw [depN_old h]; omega
    · by_cases hl : leadN m bel d b
      · rw [depN_new h hl]; omega
      · rw [depN_no h hl]; omega
theorem depN_neg {d b : Nat} (h : ¬ 0 ≤ depN m bel d b) : depN m bel d b = -1 := by have := depN_ge (m := m) (bel := bel) d b; omega
theorem depN_le (d b : Nat) : depN m bel d b ≤ (d : Int) := by
  induction d with
  | zero => rw [depN_0]; split <;> omega
  | succ d ih =>
    by_cases h : 0 ≤ depN m bel d b
    · rw [depN_old h]; omega
    · by_cases hl : leadN m bel d b
      · rw [depN_new h hl]; omega
      · rw [depN_no h hl]; omega
theorem depN_later {d b : Nat} (h : 0 ≤ depN m bel d b) : ∀ e, depN m bel (d + e) b = depN m bel d b
  | 0 => rfl
  | e + 1 => by
    have ih := depN_later h e
    rw [show d + (e + 1) = (d + e) + 1 from rfl, depN_old (by rw [ih]; exact h), ih]
theorem depN_up {d e b : Nat} (h : 0 ≤ depN m bel d b) (he : d ≤ e) : depN m bel e b = depN m bel d b := by
  obtain ⟨k, rfl⟩ : ∃ k, e = d + k := ⟨e - d, by omega⟩
  exact depN_later h k
theorem depN_merged {b : Nat} (h : Lib.onesCount b ≤ 1) (d : Nat) : depN m bel d b = 0 := by
  have h0 : depN m bel 0 b = 0 := by rw [depN_0, if_pos h]
  rw [depN_up (d := 0) (by rw [h0]; omega) (Nat.zero_le _), h0]
theorem depN_pos {b : Nat} (h : ¬ Lib.onesCount b ≤ 1) : ∀ d, depN m bel d b ≠ 0
  | 0 => by rw [depN_0, if_neg h]; omega
  | d + 1 => by
    by_cases h1 : 0 ≤ depN m bel d b
    · rw [depN_old h1]; exact depN_pos h d
    · by_cases hl : leadN m bel d b
      · rw [depN_new h1 hl]; omega
      · rw [depN_no h1 hl]; omega
/-- A depth that is known at d is known at itself. -/
theorem depN_self {d b : Nat} (h : 0 ≤ depN m bel d b) : depN m bel (depN m bel d b).toNat b = depN m bel d b := by
  induction d with
  | zero =>
    have h1 : depN m bel 0 b = 0 := by
      rw [depN_0] at h ⊢
      split at h
      · rename_i hc; rw [if_pos hc]
      · omega
    rw [h1]; exact h1
  | succ d ih =>
    by_cases h1 : 0 ≤ depN m bel d b
    · rw [depN_old h1]; exact ih h1
    · by_cases hl : leadN m bel d b
      · have e := depN_new h1 hl
        rw [e, Int.toNat_natCast]
        exact e
      · rw [depN_no h1 hl] at h; omega
/-- A set with a depth that is positive has a letter that leads to sets less deep, one of them by one. -/
theorem depN_letter {d b k : Nat} (h : depN m bel d b = ((k + 1 : Nat) : Int)) : (∃ x, x < m ∧ (∀ v, v < 4 → 0 ≤ depN m bel d (bel b x v) ∧ depN m bel d (bel b x v) ≤ (k : Int)) ∧ ∃ v, v < 4 ∧ depN m bel d (bel b x v) = (k : Int)) ∧
    ∀ x, x < m → (∀ v, v < 4 → 0 ≤ depN m bel d (bel b x v)) → ∃ v, v < 4 ∧ (k : Int) ≤ depN m bel d (bel b x v) := by
  have hself := depN_self (m := m) (bel := bel) (d := d) (b := b) (by omega)
  rw [h, Int.toNat_natCast] at hself
  have hkd : k + 1 ≤ d := by have := depN_le (m := m) (bel := bel) d b; omega
  have hk : ¬ 0 ≤ depN m bel k b := by
    intro hk
    rw [depN_old hk] at hself
    have := depN_le (m := m) (bel := bel) k b
    omega
  have hl : leadN m bel k b := by
    rcases Classical.em (leadN m bel k b) with h1 | h1
    · exact h1
    · rw [depN_no hk h1] at hself; omega
  have hup : ∀ c, 0 ≤ depN m bel k c → depN m bel d c = depN m bel k c := fun c hc => depN_up hc (by omega)
  have hall : ∀ x, x < m → (∀ v, v < 4 → 0 ≤ depN m bel d (bel b x v)) → ∃ v, v < 4 ∧ (k : Int) ≤ depN m bel d (bel b x v) := by
    intro x hx hv
    rcases Classical.em (∃ v, v < 4 ∧ (k : Int) ≤ depN m bel d (bel b x v)) with h1 | h1
    · exact h1
    · exfalso
      have hlt : ∀ v, v < 4 → depN m bel d (bel b x v) < (k : Int) := fun v hv' => by
        rcases Int.lt_or_le (depN m bel d (bel b x v)) (k : Int) with h2 | h2
        · exact h2
        · exact absurd ⟨v, hv', h2⟩ h1
      have hk0 : 0 < k := by have := hlt 0 (by decide); have := hv 0 (by decide); omega
      obtain ⟨j, rfl⟩ : ∃ j, k = j + 1 := ⟨k - 1, by omega⟩
      have hj : leadN m bel j b := ⟨x, hx, fun v hv' => by
        have h2 := hlt v hv'
        have h3 := hv v hv'
        have h4 := depN_self (m := m) (bel := bel) (d := d) (b := bel b x v) h3
        rw [depN_up (d := (depN m bel d (bel b x v)).toNat) (e := j) (by rw [h4]; exact h3) (by omega), h4]
        exact h3⟩
      apply hk
      by_cases h5 : 0 ≤ depN m bel j b
      · rw [depN_old h5]; exact h5
      · rw [depN_new h5 hj]; omega
  refine ⟨?_, hall⟩
  obtain ⟨x, hx, hv⟩ := hl
  have hv' : ∀ v, v < 4 → 0 ≤ depN m bel d (bel b x v) ∧ depN m bel d (bel b x v) ≤ (k : Int) := fun v h4 => by
    rw [hup _ (hv v h4)]
    exact ⟨hv v h4, depN_le k _⟩
  obtain ⟨v, h4, h5⟩ := hall x hx (fun v h4 => (hv' v h4).1)
  exact ⟨x, hx, hv', v, h4, by have := (hv' v h4).2; omega⟩

/-- How many sets below N are known at d. -/
def knownN (m : Nat) (bel : Nat → Nat → Nat → Nat) (N d : Nat) : Nat := (List.range N).countP fun b => decide (0 ≤ depN m bel d b)
theorem knownN_le (N d : Nat) : knownN m bel N d ≤ N := by
  have := List.countP_le_length (p := fun b => decide (0 ≤ depN m bel d b)) (l := List.range N)
  simpa [knownN] using this
theorem countP_lt {p q : Nat → Bool} : ∀ (l : List Nat), (∀ x ∈ l, p x = true → q x = true) → (∃ x ∈ l, p x = false ∧ q x = true) → l.countP p < l.countP q
  | [], _, ⟨x, hx, _⟩ => by cases hx
  | y :: ys, h, ⟨x, hx, h1, h2⟩ => by
    have hle : ys.countP p ≤ ys.countP q := List.countP_mono_left (fun z hz hp => h z (List.mem_cons_of_mem _ hz) hp)
    rw [List.countP_cons, List.countP_cons]
    rcases List.mem_cons.1 hx with rfl | hx'
    · rw [h1, h2]; simp; omega
    · have ih := countP_lt ys (fun z hz => h z (List.mem_cons_of_mem _ hz)) ⟨x, hx', h1, h2⟩
      have hy := h y List.mem_cons_self
      cases hpy : p y with
      | false => simp; split <;> omega
      | true => rw [hy hpy]; simp; omega
theorem knownN_lt {N d b : Nat} (hb : b < N) (h : ¬ 0 ≤ depN m bel d b) (hl : leadN m bel d b) : knownN m bel N d < knownN m bel N (d + 1) := by
  unfold knownN
  refine countP_lt _ (fun x _ hx => ?_) ⟨b, List.mem_range.2 hb, by simpa using h, ?_⟩
  · simp only [decide_eq_true_eq] at hx ⊢
    rw [depN_old hx]; exact hx
  · simp only [decide_eq_true_eq]
    rw [depN_new h hl]; omega
/-- Once no set below N comes new, none does. -/
theorem depN_stable {N d : Nat} (hN : ∀ b, b < N → ¬ 0 ≤ depN m bel d b → ¬ leadN m bel d b) (hbel : ∀ b x v, b < N → x < m → v < 4 → bel b x v < N) : ∀ e b, b < N → depN m bel (d + e) b = depN m bel d b
  | 0, _, _ => rfl
  | e + 1, b, hb => by
    have ih := fun c hc => depN_stable hN hbel e c hc
    by_cases h : 0 ≤ depN m bel d b
    · exact depN_later h _
    · have h1 : ¬ 0 ≤ depN m bel (d + e) b := by rw [ih b hb]; exact h
      have h2 : ¬ leadN m bel (d + e) b := by
        rintro ⟨x, hx, hv⟩
        exact hN b hb h ⟨x, hx, fun v h4 => by rw [← ih _ (hbel b x v hb hx h4)]; exact hv v h4⟩
      rw [show d + (e + 1) = (d + e) + 1 from rfl, depN_no h1 h2, depN_neg h]
/-- The depth of a set, -1 if it has none. -/
def depF (m : Nat) (bel : Nat → Nat → Nat → Nat) (b : Nat) : Int := depN m bel 1024 b
theorem depF_of {N d b : Nat} (hN : ∀ b, b < N → ¬ 0 ≤ depN m bel d b → ¬ leadN m bel d b) (hbel : ∀ b x v, b < N → x < m → v < 4 → bel b x v < N) (hd : d ≤ 1024) (hb : b < N) : depN m bel d b = depF m bel b := by
  unfold depF
  rw [show 1024 = d + (1024 - d) from by omega, depN_stable hN hbel _ b hb]
end
end Go.Proofs.Ytdelanjkaokiaaa
