/-
  A search that goes on from set to set: what it finds, in which order, and by which words; how a limit for the words changes it. Numbers and lists alone, no program.
-/
import Derived.Test.YtcglncepmieaaaaBase
namespace Go.Proofs.Ytcglncepmieaaaa
namespace Hunt

/-- A set that a search has found: its number, the place from which it was found, the letter, its first word. -/
structure Fnd where
  set : Nat
  par : Int
  ltr : Int
  word : List Int

theorem nodup_sub {l : List Nat} : ∀ {L : List Nat}, l.Nodup → (∀ x ∈ l, x ∈ L) → l.length ≤ L.length := by
  induction l with
  | nil => intro L _ _; exact Nat.zero_le _
  | cons a l ih =>
    intro L hn hs
    have ha : a ∈ L := hs a (by simp)
    obtain ⟨h1, h2⟩ := List.nodup_cons.1 hn
    have := ih (L := L.erase a) h2 (fun x hx => (List.mem_erase_of_ne (fun e => h1 (by rw [← e]; exact hx))).2 (hs x (by simp [hx])))
    rw [List.length_erase_of_mem ha] at this
    have hp := List.length_pos_of_mem ha
    rw [List.length_cons]
    omega

def knownB (T : List Fnd) (b : Nat) : Bool := T.any fun f => f.set == b
theorem knownB_iff {T : List Fnd} {b : Nat} : knownB T b = true ↔ b ∈ T.map Fnd.set := by
  simp [knownB]
def newF (aft : Nat → Nat → Nat) (i : Nat) (e : Fnd) (x : Nat) : Fnd := ⟨aft e.set x, (i : Int), (x : Int), e.word ++ [(x : Int)]⟩
def extX (aft : Nat → Nat → Nat) (i : Nat) (e : Fnd) (T : List Fnd) : Nat → List Fnd
  | 0 => T
  | x + 1 => if knownB (extX aft i e T x) (aft e.set x) = true then extX aft i e T x else extX aft i e T x ++ [newF aft i e x]
theorem ext_old {aft : Nat → Nat → Nat} {i x : Nat} {e : Fnd} {T : List Fnd} (h : knownB (extX aft i e T x) (aft e.set x) = true) : extX aft i e T (x + 1) = extX aft i e T x := by
  rw [extX, if_pos h]
theorem ext_new {aft : Nat → Nat → Nat} {i x : Nat} {e : Fnd} {T : List Fnd} (h : knownB (extX aft i e T x) (aft e.set x) = false) : extX aft i e T (x + 1) = extX aft i e T x ++ [newF aft i e x] := by
  rw [extX, if_neg (by simp [h])]
theorem ext_pre (aft : Nat → Nat → Nat) (i : Nat) (e : Fnd) (T : List Fnd) : ∀ x, ∃ N, extX aft i e T x = T ++ N ∧ ∀ f ∈ N, ∃ y, y < x ∧ f = newF aft i e y
  | 0 => ⟨[], by simp [extX], by simp⟩
  | x + 1 => by
    obtain ⟨N, h1, h2⟩ := ext_pre aft i e T x
    rcases hk : knownB (extX aft i e T x) (aft e.set x) with _ | _
    · refine ⟨N ++ [newF aft i e x], by rw [ext_new hk, h1, List.append_assoc], fun f hf => ?_⟩
      rcases List.mem_append.1 hf with a | a
      · obtain ⟨y, h3, h4⟩ := h2 f a; exact ⟨y, by omega, h4⟩
      · exact ⟨x, by omega, by simpa using a⟩
    · exact ⟨N, by rw [ext_old hk, h1], fun f hf => by obtain ⟨y, h3, h4⟩ := h2 f hf; exact ⟨y, by omega, h4⟩⟩
theorem ext_has {aft : Nat → Nat → Nat} {i : Nat} {e : Fnd} {T : List Fnd} : ∀ {x y : Nat}, y < x → aft e.set y ∈ (extX aft i e T x).map Fnd.set
  | 0, y, h => by omega
  | x + 1, y, h => by
    rcases hk : knownB (extX aft i e T x) (aft e.set x) with _ | _
    · rw [ext_new hk, List.map_append]
      rcases Nat.lt_or_ge y x with a | a
      · exact List.mem_append_left _ (ext_has a)
      · obtain rfl : y = x := by omega
        exact List.mem_append_right _ (by simp [newF])
    · rw [ext_old hk]
      rcases Nat.lt_or_ge y x with a | a
      · exact ext_has a
      · obtain rfl : y = x := by omega
        exact knownB_iff.1 hk
theorem ext_nodup {aft : Nat → Nat → Nat} {i : Nat} {e : Fnd} {T : List Fnd} (h : (T.map Fnd.set).Nodup) : ∀ x, ((extX aft i e T x).map Fnd.set).Nodup
  | 0 => h
  | x + 1 => by
    have ih := ext_nodup (aft := aft) (i := i) (e := e) h x
    rcases hk : knownB (extX aft i e T x) (aft e.set x) with _ | _
    · rw [ext_new hk, List.map_append, List.nodup_append]
      refine ⟨ih, by simp, fun a ha b hb e' => ?_⟩
      have : b = aft e.set x := by simpa [newF] using hb
      subst this
      subst e'
      rw [knownB_iff.2 ha] at hk
      cases hk
    · rw [ext_old hk]; exact ih

/-- What has been found when the first i sets have been looked at; words that have cap letters are not made longer. -/
def runF (aft : Nat → Nat → Nat) (m cap b0 : Nat) : Nat → List Fnd
  | 0 => [⟨b0, -1, 0, []⟩]
  | i + 1 => match (runF aft m cap b0 i)[i]? with
    | none => runF aft m cap b0 i
    | some e => if e.word.length < cap then extX aft i e (runF aft m cap b0 i) m else runF aft m cap b0 i
theorem run_none {aft : Nat → Nat → Nat} {m cap b0 i : Nat} (h : (runF aft m cap b0 i).length ≤ i) : runF aft m cap b0 (i + 1) = runF aft m cap b0 i := by
  rw [runF, List.getElem?_eq_none h]
theorem run_ext {aft : Nat → Nat → Nat} {m cap b0 i : Nat} {e : Fnd} (h : (runF aft m cap b0 i)[i]? = some e) (hc : e.word.length < cap) : runF aft m cap b0 (i + 1) = extX aft i e (runF aft m cap b0 i) m := by
  rw [runF, h]; exact if_pos hc
theorem run_cap {aft : Nat → Nat → Nat} {m cap b0 i : Nat} {e : Fnd} (h : (runF aft m cap b0 i)[i]? = some e) (hc : ¬ e.word.length < cap) : runF aft m cap b0 (i + 1) = runF aft m cap b0 i := by
  rw [runF, h]; exact if_neg hc
theorem run_succ (aft : Nat → Nat → Nat) (m cap b0 i : Nat) : ∃ N, runF aft m cap b0 (i + 1) = runF aft m cap b0 i ++ N := by
  rcases h : (runF aft m cap b0 i)[i]? with _ | e
  · exact ⟨[], by rw [List.append_nil]; exact run_none (List.getElem?_eq_none_iff.1 h)⟩
  · by_cases hc : e.word.length < cap
    · obtain ⟨N, hN, _⟩ := ext_pre aft i e (runF aft m cap b0 i) m
      exact ⟨N, by rw [run_ext h hc, hN]⟩
    · exact ⟨[], by rw [List.append_nil]; exact run_cap h hc⟩
theorem run_pre (aft : Nat → Nat → Nat) (m cap b0 : Nat) {i : Nat} : ∀ {k : Nat}, i ≤ k → ∃ N, runF aft m cap b0 k = runF aft m cap b0 i ++ N
  | 0, h => ⟨[], by obtain rfl : i = 0 := by omega
                    simp⟩
  | k + 1, h => by
    rcases Nat.eq_or_lt_of_le h with rfl | a
    · exact ⟨[], by simp⟩
    · obtain ⟨N, hN⟩ := run_pre aft m cap b0 (i := i) (k := k) (by omega)
      obtain ⟨N', hN'⟩ := run_succ aft m cap b0 k
      exact ⟨N ++ N', by rw [hN', hN, List.append_assoc]⟩
theorem run_at {aft : Nat → Nat → Nat} {m cap b0 i k j : Nat} {e : Fnd} (h : i ≤ k) (hj : (runF aft m cap b0 i)[j]? = some e) : (runF aft m cap b0 k)[j]? = some e := by
  obtain ⟨N, hN⟩ := run_pre aft m cap b0 h
  have hl : j < (runF aft m cap b0 i).length := by
    rcases Nat.lt_or_ge j (runF aft m cap b0 i).length with a | a
    · exact a
    · rw [List.getElem?_eq_none a] at hj; cases hj
  rw [hN, List.getElem?_append_left hl, hj]

/-- Where a word leads from a set. -/
def goW (aft : Nat → Nat → Nat) (b : Nat) (ws : List Int) : Nat := ws.foldl (fun b x => aft b x.toNat) b
theorem goW_snoc (aft : Nat → Nat → Nat) (b : Nat) (ws : List Int) (x : Nat) : goW aft b (ws ++ [(x : Int)]) = aft (goW aft b ws) x := by
  simp [goW, List.foldl_append]
theorem goW_append (aft : Nat → Nat → Nat) (b : Nat) (us ws : List Int) : goW aft b (us ++ ws) = goW aft (goW aft b us) ws := by simp [goW, List.foldl_append]

structure Inv (aft : Nat → Nat → Nat) (m cap b0 : Nat) (T : List Fnd) (i : Nat) : Prop where
  root : T[0]? = some ⟨b0, -1, 0, []⟩
  nodup : (T.map Fnd.set).Nodup
  word : ∀ e ∈ T, e.set = goW aft b0 e.word ∧ ∀ x ∈ e.word, 0 ≤ x ∧ x < (m : Int)
  par : ∀ (j : Nat) (e : Fnd), T[j]? = some e → (j = 0 ∧ e.par = -1 ∧ e.word = []) ∨ ∃ (p : Nat) (f : Fnd), p < j ∧ p < i ∧ T[p]? = some f ∧ e.par = (p : Int) ∧ e.word = f.word ++ [e.ltr] ∧ 0 ≤ e.ltr ∧ e.ltr < (m : Int)
  sorted : ∀ (j k : Nat) (e f : Fnd), j ≤ k → T[j]? = some e → T[k]? = some f → e.word.length ≤ f.word.length
  near : ∀ (k : Nat) (e f : Fnd), T[i]? = some e → T[k]? = some f → f.word.length ≤ e.word.length + 1
  closed : ∀ (j : Nat) (e : Fnd) (x : Nat), j < i → T[j]? = some e → x < m → e.word.length < cap → ∃ (k : Nat) (f : Fnd), T[k]? = some f ∧ f.set = aft e.set x ∧ f.word.length ≤ e.word.length + 1

theorem mem_at {T : List Fnd} {e : Fnd} (h : e ∈ T) : ∃ j : Nat, T[j]? = some e := List.getElem?_of_mem h

theorem at_append {T N : List Fnd} {j : Nat} {e : Fnd} (h : (T ++ N)[j]? = some e) : T[j]? = some e ∨ (T.length ≤ j ∧ e ∈ N) := by
  rcases Nat.lt_or_ge j T.length with a | a
  · rw [List.getElem?_append_left a] at h; exact .inl h
  · rw [List.getElem?_append_right a] at h; exact .inr ⟨a, List.mem_of_getElem? h⟩
theorem at_left {T N : List Fnd} {j : Nat} {e : Fnd} (h : T[j]? = some e) : (T ++ N)[j]? = some e := by
  have hl : j < T.length := by
    rcases Nat.lt_or_ge j T.length with a | a
    · exact a
    · rw [List.getElem?_eq_none a] at h; cases h
  rw [List.getElem?_append_left hl, h]

theorem inv_run (aft : Nat → Nat → Nat) (m cap b0 : Nat) : ∀ i, Inv aft m cap b0 (runF aft m cap b0 i) i
  | 0 => by
    refine ⟨rfl, by simp [runF], ?_, ?_, ?_, ?_, ?_⟩
    · intro e he
      simp only [runF, List.mem_singleton] at he
      subst he
      exact ⟨rfl, by simp⟩
    · intro j e h
      rcases j with _ | j
      · simp only [runF, List.getElem?_cons_zero, Option.some.injEq] at h; subst h; exact .inl ⟨rfl, rfl, rfl⟩
      · simp [runF] at h
    · intro j k e f hjk hj hk
      rcases j with _ | j
      · simp only [runF, List.getElem?_cons_zero, Option.some.injEq] at hj; subst hj; exact Nat.zero_le _
      · simp [runF] at hj
    · intro k e f he hf
      rcases k with _ | k
      · simp only [runF, List.getElem?_cons_zero, Option.some.injEq] at hf; subst hf; exact Nat.zero_le _
      · simp [runF] at hf
    · intro j e x hj; omega
  | i + 1 => by
    have ih := inv_run aft m cap b0 i
    rcases h : (runF aft m cap b0 i)[i]? with _ | e0
    · have hl := List.getElem?_eq_none_iff.1 h
      rw [run_none hl]
      refine ⟨ih.root, ih.nodup, ih.word, fun j e hj => ?_, ih.sorted, ?_, ?_⟩
      · rcases ih.par j e hj with a | ⟨p, f, h1, h2, h3⟩
        · exact .inl a
        · exact .inr ⟨p, f, h1, by omega, h3⟩
      · intro k e f he; rw [List.getElem?_eq_none (by omega)] at he; cases he
      · intro j e x hj hje hx
        rcases Nat.lt_or_ge j i with a | a
        · exact ih.closed j e x a hje hx
        · obtain rfl : j = i := by omega
          rw [h] at hje; cases hje
    · have near' : ∀ (k : Nat) (e f : Fnd), (runF aft m cap b0 i)[i + 1]? = some e → (runF aft m cap b0 i)[k]? = some f → f.word.length ≤ e.word.length + 1 := by
        intro k e f he hf
        have h1 := ih.near k e0 f h hf
        have h2 := ih.sorted i (i + 1) e0 e (by omega) h he
        omega
      by_cases hc : e0.word.length < cap
      · rw [run_ext h hc]
        obtain ⟨N, hN, hall⟩ := ext_pre aft i e0 (runF aft m cap b0 i) m
        have hnd := ext_nodup (aft := aft) (i := i) (e := e0) ih.nodup m
        have hhas : ∀ y, y < m → aft e0.set y ∈ (extX aft i e0 (runF aft m cap b0 i) m).map Fnd.set := fun y hy => ext_has hy
        rw [hN] at hnd hhas ⊢
        have hlen : ∀ f ∈ N, f.word.length = e0.word.length + 1 := fun f hf => by obtain ⟨y, _, rfl⟩ := hall f hf; simp [newF]
        have hmem0 : e0 ∈ runF aft m cap b0 i := List.mem_of_getElem? h
        refine ⟨at_left ih.root, hnd, ?_, ?_, ?_, ?_, ?_⟩
        · intro e he
          rcases List.mem_append.1 he with a | a
          · exact ih.word e a
          · obtain ⟨y, hy, rfl⟩ := hall e a
            obtain ⟨w1, w2⟩ := ih.word e0 hmem0
            refine ⟨by simp only [newF]; rw [goW_snoc, ← w1], fun x hx => ?_⟩
            simp only [newF] at hx
            rcases List.mem_append.1 hx with c | c
            · exact w2 x c
            · have : x = (y : Int) := by simpa using c
              subst this; exact ⟨by omega, by omega⟩
        · intro j e hj
          rcases at_append hj with a | ⟨a, b⟩
          · rcases ih.par j e a with c | ⟨p, f, h1, h2, h3, h4⟩
            · exact .inl c
            · exact .inr ⟨p, f, h1, by omega, at_left h3, h4⟩
          · obtain ⟨y, hy, rfl⟩ := hall e b
            have hi : i < (runF aft m cap b0 i).length := by
              rcases Nat.lt_or_ge i (runF aft m cap b0 i).length with c | c
              · exact c
              · rw [List.getElem?_eq_none c] at h; cases h
            exact .inr ⟨i, e0, by omega, by omega, at_left h, rfl, rfl, by simp only [newF]; omega, by simp only [newF]; omega⟩
        · intro j k e f hjk hj hk
          rcases at_append hk with a | ⟨a, b⟩
          · rcases at_append hj with c | ⟨c, _⟩
            · exact ih.sorted j k e f hjk c a
            · have : k < (runF aft m cap b0 i).length := by
                rcases Nat.lt_or_ge k (runF aft m cap b0 i).length with d | d
                · exact d
                · rw [List.getElem?_eq_none d] at a; cases a
              omega
          · rw [hlen f b]
            rcases at_append hj with c | ⟨_, c⟩
            · exact ih.near j e0 e h c
            · rw [hlen e c]; exact Nat.le_refl _
        · intro k e f he hf
          have hle : e0.word.length ≤ e.word.length := by
            rcases at_append he with a | ⟨_, a⟩
            · exact ih.sorted i (i + 1) e0 e (by omega) h a
            · rw [hlen e a]; omega
          rcases at_append hf with a | ⟨_, a⟩
          · have := ih.near k e0 f h a; omega
          · rw [hlen f a]; omega
        · intro j e x hj hje hx hcap
          rcases Nat.lt_or_ge j i with a | a
          · rcases at_append hje with b | ⟨b, _⟩
            · obtain ⟨k, f, h1, h2, h3⟩ := ih.closed j e x a b hx hcap
              exact ⟨k, f, at_left h1, h2, h3⟩
            · have hi : i < (runF aft m cap b0 i).length := by
                rcases Nat.lt_or_ge i (runF aft m cap b0 i).length with c | c
                · exact c
                · rw [List.getElem?_eq_none c] at h; cases h
              omega
          · obtain rfl : j = i := by omega
            have he : e = e0 := by
              have := at_left (N := N) h
              rw [this] at hje; exact (Option.some.inj hje).symm
            subst he
            obtain ⟨f, hf, hfs⟩ := List.mem_map.1 (hhas x hx)
            obtain ⟨k, hk⟩ := mem_at hf
            refine ⟨k, f, hk, hfs, ?_⟩
            rcases at_append hk with b | ⟨_, b⟩
            · exact ih.near k e f h b
            · rw [hlen f b]; exact Nat.le_refl _
      · rw [run_cap h hc]
        refine ⟨ih.root, ih.nodup, ih.word, fun j e hj => ?_, ih.sorted, near', ?_⟩
        · rcases ih.par j e hj with a | ⟨p, f, h1, h2, h3⟩
          · exact .inl a
          · exact .inr ⟨p, f, h1, by omega, h3⟩
        · intro j e x hj hje hx hcap
          rcases Nat.lt_or_ge j i with a | a
          · exact ih.closed j e x a hje hx hcap
          · obtain rfl : j = i := by omega
            rw [h] at hje
            obtain rfl := Option.some.inj hje
            exact absurd hcap hc

/-! ### Words are not longer than their places -/
theorem word_le {aft : Nat → Nat → Nat} {m cap b0 i : Nat} {T : List Fnd} (h : Inv aft m cap b0 T i) : ∀ (j : Nat) (e : Fnd), T[j]? = some e → e.word.length ≤ j := by
  intro j
  induction j using Nat.strongRecOn with
  | ind j ih =>
    intro e hj
    rcases h.par j e hj with ⟨_, _, h1⟩ | ⟨p, f, h1, _, h2, _, h3, _⟩
    · rw [h1]; exact Nat.zero_le _
    · have := ih p h1 f h2
      rw [h3, List.length_append]
      simp only [List.length_cons, List.length_nil]
      omega
theorem lt_of_at {T : List Fnd} {j : Nat} {e : Fnd} (h : T[j]? = some e) : j < T.length := by
  rcases Nat.lt_or_ge j T.length with a | a
  · exact a
  · rw [List.getElem?_eq_none a] at h; cases h

/-! ### All that is found -/
theorem goW_lt {aft : Nat → Nat → Nat} {m N b0 : Nat} (ha : ∀ b x, b < N → x < m → aft b x < N) (hb : b0 < N) : ∀ (ws : List Int), (∀ x ∈ ws, 0 ≤ x ∧ x < (m : Int)) → goW aft b0 ws < N := by
  intro ws
  induction ws generalizing b0 with
  | nil => intro _; exact hb
  | cons x ws ih =>
    intro h
    have hx := h x (by simp)
    exact ih (b0 := aft b0 x.toNat) (ha _ _ hb (by omega)) (fun y hy => h y (by simp [hy]))
theorem run_len {aft : Nat → Nat → Nat} {m cap N b0 i : Nat} (ha : ∀ b x, b < N → x < m → aft b x < N) (hb : b0 < N) : (runF aft m cap b0 i).length ≤ N := by
  have hi := inv_run aft m cap b0 i
  have := nodup_sub (L := List.range N) hi.nodup (fun b hb' => by
    obtain ⟨e, he, rfl⟩ := List.mem_map.1 hb'
    obtain ⟨h1, h2⟩ := hi.word e he
    rw [h1, List.mem_range]
    exact goW_lt ha hb _ h2)
  rwa [List.length_map, List.length_range] at this
theorem all_ex (aft : Nat → Nat → Nat) (m cap b0 : Nat) : ∃ T, T = runF aft m cap b0 1024 := ⟨_, rfl⟩
noncomputable def allF (aft : Nat → Nat → Nat) (m cap b0 : Nat) : List Fnd := Classical.choose (all_ex aft m cap b0)
theorem all_eq (aft : Nat → Nat → Nat) (m cap b0 : Nat) : allF aft m cap b0 = runF aft m cap b0 1024 := Classical.choose_spec (all_ex aft m cap b0)
theorem run_stop {aft : Nat → Nat → Nat} {m cap b0 i : Nat} (h : (runF aft m cap b0 i).length ≤ i) : ∀ {k : Nat}, i ≤ k → runF aft m cap b0 k = runF aft m cap b0 i
  | 0, hk => by obtain rfl : i = 0 := by omega
                rfl
  | k + 1, hk => by
    rcases Nat.eq_or_lt_of_le hk with rfl | a
    · rfl
    · have := run_stop h (k := k) (by omega)
      rw [run_none (by rw [this]; omega), this]
structure Small (aft : Nat → Nat → Nat) (m b0 : Nat) : Prop where
  lt : ∀ b x, b < 1024 → x < m → aft b x < 1024
  b0 : b0 < 1024
theorem all_stop {aft : Nat → Nat → Nat} {m cap b0 i : Nat} (hs : Small aft m b0) (h : (runF aft m cap b0 i).length ≤ i) : runF aft m cap b0 i = allF aft m cap b0 := by
  rw [all_eq]
  rcases Nat.lt_or_ge 1024 i with a | a
  · exact run_stop (run_len hs.lt hs.b0) (by omega)
  · exact (run_stop h a).symm
theorem all_at {aft : Nat → Nat → Nat} {m cap b0 i j : Nat} {e : Fnd} (hs : Small aft m b0) (h : (runF aft m cap b0 i)[j]? = some e) : (allF aft m cap b0)[j]? = some e := by
  rw [all_eq]
  rcases Nat.lt_or_ge 1024 i with a | a
  · have h1 : runF aft m cap b0 i = runF aft m cap b0 1024 := run_stop (run_len hs.lt hs.b0) (by omega)
    rw [h1] at h; exact h
  · exact run_at a h
theorem all_inv {aft : Nat → Nat → Nat} {m cap b0 : Nat} : Inv aft m cap b0 (allF aft m cap b0) 1024 := by rw [all_eq]; exact inv_run _ _ _ _ _
theorem all_len {aft : Nat → Nat → Nat} {m cap b0 : Nat} (hs : Small aft m b0) : (allF aft m cap b0).length ≤ 1024 := by rw [all_eq]; exact run_len hs.lt hs.b0
set_option maxRecDepth 100000 in
/-- Each set to which a word of at most cap letters leads is found, by a word that is not longer. -/
theorem all_found {aft : Nat → Nat → Nat} {m cap b0 : Nat} (hs : Small aft m b0) : ∀ (k : Nat) (us : List Int), us.length = k → k ≤ cap → (∀ x ∈ us, 0 ≤ x ∧ x < (m : Int)) → ∃ (j : Nat) (f : Fnd), (allF aft m cap b0)[j]? = some f ∧ f.set = goW aft b0 us ∧ f.word.length ≤ us.length
  | 0, us, hl, _, _ => by
    have h0 : us = [] := List.eq_nil_of_length_eq_zero hl
    subst h0
    exact ⟨0, _, all_inv.root, rfl, Nat.le_refl _⟩
  | k + 1, us, hl, hc, hx => by
    obtain ⟨vs, y, rfl⟩ : ∃ vs y, us = vs ++ [y] := by
      rcases List.eq_nil_or_concat us with h | ⟨vs, y, h⟩
      · subst h; simp at hl
      · exact ⟨vs, y, by simpa using h⟩
    have hl' : vs.length = k := by rw [List.length_append] at hl; simp at hl; exact hl
    have hy := hx y (by simp)
    obtain ⟨j, f, h1, h2, h3⟩ := all_found (cap := cap) hs k vs hl' (by omega) (fun x h => hx x (by simp [h]))
    obtain ⟨z, rfl⟩ : ∃ z : Nat, y = (z : Int) := ⟨y.toNat, by have := hy.1; omega⟩
    have hj : j < 1024 := Nat.lt_of_lt_of_le (lt_of_at h1) (all_len hs)
    obtain ⟨j2, f2, h4, h5, h6⟩ := (all_inv (aft := aft) (m := m) (cap := cap) (b0 := b0)).closed j f z hj h1 (by omega) (by omega)
    exact ⟨j2, f2, h4, by rw [h5, h2, goW_snoc], by rw [List.length_append]; simp; omega⟩

/-! ### A limit for the words' length -/
set_option maxRecDepth 10000 in
theorem cap_pre {aft : Nat → Nat → Nat} {m c d b0 : Nat} (hcd : c ≤ d) : ∀ i, ∃ N, runF aft m d b0 i = runF aft m c b0 i ++ N ∧ ∀ f ∈ N, c < f.word.length
  | 0 => ⟨[], by simp [runF], by simp⟩
  | i + 1 => by
    obtain ⟨N, h1, h2⟩ := cap_pre (aft := aft) (m := m) (b0 := b0) hcd i
    have hid := inv_run aft m d b0 i
    rcases hp : (runF aft m c b0 i)[i]? with _ | e
    · -- the shorter search has ended
      have hl := List.getElem?_eq_none_iff.1 hp
      rw [run_none hl]
      rcases hq : (runF aft m d b0 i)[i]? with _ | e
      · rw [run_none (List.getElem?_eq_none_iff.1 hq)]; exact ⟨N, h1, h2⟩
      · have he : e ∈ N := by
          rw [h1] at hq
          rcases at_append hq with a | ⟨_, a⟩
          · rw [a] at hp; cases hp
          · exact a
        by_cases hc : e.word.length < d
        · obtain ⟨M, hM, hall⟩ := ext_pre aft i e (runF aft m d b0 i) m
          refine ⟨N ++ M, by rw [run_ext hq hc, hM, h1, List.append_assoc], fun f hf => ?_⟩
          rcases List.mem_append.1 hf with a | a
          · exact h2 f a
          · obtain ⟨y, _, rfl⟩ := hall f a
            have := h2 e he
            simp only [newF, List.length_append, List.length_cons, List.length_nil]
            omega
        · rw [run_cap hq hc]; exact ⟨N, h1, h2⟩
    · have hq : (runF aft m d b0 i)[i]? = some e := by rw [h1]; exact at_left hp
      by_cases hc : e.word.length < c
      · have hN : N = [] := by
          rcases N with _ | ⟨f, N⟩
          · rfl
          · have hf := h2 f (by simp)
            obtain ⟨k, hk⟩ := mem_at (T := runF aft m d b0 i) (e := f) (by rw [h1]; simp)
            have := hid.near k e f hq hk
            omega
        subst hN
        rw [List.append_nil] at h1
        exact ⟨[], by rw [List.append_nil, run_ext hq (by omega), run_ext hp hc, h1], by simp⟩
      · rw [run_cap hp hc]
        by_cases hd : e.word.length < d
        · obtain ⟨M, hM, hall⟩ := ext_pre aft i e (runF aft m d b0 i) m
          refine ⟨N ++ M, by rw [run_ext hq hd, hM, h1, List.append_assoc], fun f hf => ?_⟩
          rcases List.mem_append.1 hf with a | a
          · exact h2 f a
          · obtain ⟨y, _, rfl⟩ := hall f a
            simp only [newF, List.length_append, List.length_cons, List.length_nil]
            omega
        · rw [run_cap hq hd]; exact ⟨N, h1, h2⟩
/-- The first set of a list for which g is true. -/
def firstF (g : Nat → Bool) (T : List Fnd) : Option Fnd := T.find? fun f => g f.set
theorem first_cap {aft : Nat → Nat → Nat} {m c d b0 : Nat} {g : Nat → Bool} (hs : Small aft m b0) (hcd : c ≤ d)
    (hb : ∀ f ∈ allF aft m d b0, g f.set = true → ∃ us : List Int, (∀ x ∈ us, 0 ≤ x ∧ x < (m : Int)) ∧ us.length ≤ c ∧ g (goW aft b0 us) = true) : firstF g (allF aft m c b0) = firstF g (allF aft m d b0) := by
  obtain ⟨N, h1, h2⟩ := cap_pre (aft := aft) (m := m) (b0 := b0) hcd 1024
  rw [← all_eq, ← all_eq] at h1
  unfold firstF
  rw [h1, List.find?_append]
  rcases hp : (allF aft m c b0).find? (fun f => g f.set) with _ | f
  · rcases hq : N.find? (fun f => g f.set) with _ | f
    · simp [hp, hq]
    · obtain ⟨us, h3, h4, h5⟩ := hb f (by rw [h1]; exact List.mem_append_right _ (List.mem_of_find?_eq_some hq)) (by have := List.find?_some hq; simpa using this)
      obtain ⟨j, e, h6, h7, _⟩ := all_found hs us.length us rfl h4 h3
      have := List.find?_eq_none.1 hp e (List.mem_of_getElem? h6)
      rw [h7] at this
      exact absurd h5 this
  · simp [hp]
theorem first_hit {g : Nat → Bool} {T : List Fnd} {j : Nat} {e : Fnd} (hj : T[j]? = some e) (hg : g e.set = true) (hn : ∀ k f, k < j → T[k]? = some f → g f.set = false) : firstF g T = some e := by
  unfold firstF
  induction T generalizing j with
  | nil => simp at hj
  | cons a T ih =>
    rcases j with _ | j
    · simp only [List.getElem?_cons_zero, Option.some.injEq] at hj
      subst hj
      rw [List.find?_cons_of_pos (by simpa using hg)]
    · have h0 := hn 0 a (by omega) (by simp)
      rw [List.find?_cons_of_neg (by simp [h0])]
      exact ih (j := j) (by simpa using hj) (fun k f hk hf => hn (k + 1) f (by omega) (by simpa using hf))
theorem first_miss {g : Nat → Bool} {T : List Fnd} (hn : ∀ (k : Nat) f, T[k]? = some f → g f.set = false) : firstF g T = none := by
  unfold firstF
  rw [List.find?_eq_none]
  intro f hf
  obtain ⟨k, hk⟩ := mem_at hf
  rw [hn k f hk]; simp
end Hunt
end Go.Proofs.Ytcglncepmieaaaa
