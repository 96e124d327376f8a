/-
  Stable pairs: words that lead a pair to a pair are no longer than there are pairs; lists alone.
-/
import Derived.Test.YtcglncepmieaaaaPtT
namespace Go.Proofs.Ytcglncepmieaaaa
open Go.RowKit Go.Deep Go.ChangeShapes Go.WideShapes
open Hunt Srch From Moved

theorem set_apart {T : List Fnd} (hn : (T.map Fnd.set).Nodup) {i j : Nat} {e f : Fnd} (hi : T[i]? = some e) (hj : T[j]? = some f) (hs : e.set = f.set) : i = j := by
  have h1 : (T.map Fnd.set)[i]? = some e.set := by rw [List.getElem?_map, hi]; rfl
  have h2 : (T.map Fnd.set)[j]? = some e.set := by rw [List.getElem?_map, hj, hs]; rfl
  have hli : i < (T.map Fnd.set).length := by
    rcases Nat.lt_or_ge i (T.map Fnd.set).length with a | a
    · exact a
    · rw [List.getElem?_eq_none a] at h1; cases h1
  exact (List.getElem?_inj hli hn).1 (h1.trans h2.symm)
/-- The sets ahead of a pair, on the way to it, are pairs. -/
theorem way_pairs {aft δ : Nat → Nat → Nat} {n m c b : Nat} {T : List Fnd} (ha : Acts aft δ n m) (hi : Inv aft m c b T 1024) (hb : In n b) (h2 : ∀ us, okW m us → cnt (goW aft b us) ≤ 2) :
    ∀ (N j : Nat) (e : Fnd), j < N → T[j]? = some e → cnt e.set = 2 → ∃ S : List Nat, S.Nodup ∧ S.length = e.word.length + 1 ∧ (∀ x ∈ S, x ∈ onesOfN 2) ∧ ∀ x ∈ S, ∃ (i : Nat) (f : Fnd), i ≤ j ∧ T[i]? = some f ∧ f.set = x
  | 0, j, e, hj, _, _ => absurd hj (Nat.not_lt_zero _)
  | N + 1, j, e, hj, he, hc => by
    obtain ⟨w1, w2⟩ := hi.word e (List.mem_of_getElem? he)
    have hin : In n e.set := by rw [w1]; exact (goW_in ha _ _ w2 hb).1
    rcases hi.par j e he with ⟨rfl, _, hw⟩ | ⟨p, f, hp, _, hf, _, hw, hl0, hlm⟩
    · exact ⟨[e.set], by simp, by rw [hw]; rfl, fun x hx => by rw [List.mem_singleton.1 hx]; exact mem_ones (hin.lt ha.n10) hc, fun x hx => ⟨0, e, Nat.le_refl _, he, (List.mem_singleton.1 hx).symm⟩⟩
    · obtain ⟨v1, v2⟩ := hi.word f (List.mem_of_getElem? hf)
      have hfin : In n f.set := by rw [v1]; exact (goW_in ha _ _ v2 hb).1
      have hes : e.set = goW aft f.set [e.ltr] := by rw [w1, hw, goW_append, v1]
      have hok : okW m [e.ltr] := fun x hx => by rw [List.mem_singleton.1 hx]; exact ⟨hl0, hlm⟩
      have h3 := cnt_le ha hok hfin
      rw [← hes] at h3
      have h4 := h2 f.word v2
      rw [← v1] at h4
      obtain ⟨S, s1, s2, s3, s4⟩ := way_pairs ha hi hb h2 N p f (by omega) hf (by omega)
      refine ⟨S ++ [e.set], ?_, by rw [List.length_append, s2, hw, List.length_append]; rfl, fun x hx => ?_, fun x hx => ?_⟩
      · rw [List.nodup_append]
        refine ⟨s1, by simp, fun x hx y hy hxy => ?_⟩
        rw [List.mem_singleton.1 hy] at hxy
        obtain ⟨i, f', hi', hf', hfs⟩ := s4 x hx
        have := set_apart hi.nodup hf' he (by rw [hfs, hxy])
        omega
      · rcases List.mem_append.1 hx with h | h
        · exact s3 x h
        · rw [List.mem_singleton.1 h]; exact mem_ones (hin.lt ha.n10) hc
      · rcases List.mem_append.1 hx with h | h
        · obtain ⟨i, f', hi', hf', hfs⟩ := s4 x h
          exact ⟨i, f', by omega, hf', hfs⟩
        · exact ⟨j, e, Nat.le_refl _, he, (List.mem_singleton.1 h).symm⟩
/-- A pair to which a word leads another pair is led to by a word of less than 45 letters. -/
theorem pair_near {n m s t : Nat} {xss : List (List Int)} (hg : Good n m xss) (hs : s < n) (ht : t < n) (ws : List Int) (hw : okW m ws) (hc : cnt (goW (aftF n xss) (pairB s t) ws) = 2) :
    ∃ us, okW m us ∧ us.length ≤ 45 ∧ goW (aftF n xss) (pairB s t) us = goW (aftF n xss) (pairB s t) ws := by
  have ha := acts hg
  have hin := pair_in hs ht
  obtain ⟨j, f, h1, h2, _⟩ := all_found (small hg (hin.lt hg.n10)) ws.length ws rfl (Nat.le_refl _) hw
  have hi : Inv (aftF n xss) m ws.length (pairB s t) (allF (aftF n xss) m ws.length (pairB s t)) 1024 := all_inv
  obtain ⟨w1, w2⟩ := hi.word f (List.mem_of_getElem? h1)
  obtain ⟨S, s1, s2, s3, _⟩ := way_pairs ha hi hin (fun us hu => pair_two ha hs ht hu) (j + 1) j f (Nat.lt_succ_self _) h1 (by rw [h2]; exact hc)
  have h3 := nodup_sub s1 s3
  rw [pairs_len, s2] at h3
  exact ⟨f.word, w2, by omega, by rw [← w1, h2]⟩
/-- A goal that only pairs reach is found within the limit. -/
theorem goal_same {n m s t : Nat} {xss : List (List Int)} {g : Nat → Bool} (hg : Good n m xss) (hs : s < n) (ht : t < n) (h2 : ∀ b, b < 1024 → g b = true → cnt b = 2) :
    firstF g (fnd n m xss 400 (pairB s t)) = firstF g (fnd n m xss 1024 (pairB s t)) := by
  have ha := acts hg
  have hin := pair_in hs ht
  refine first_same hg (hin.lt hg.n10) fun ws hw hm => ?_
  obtain ⟨us, h3, h4, h5⟩ := pair_near hg hs ht ws hw (h2 _ ((goW_in ha ws _ hw hin).1.lt hg.n10) hm)
  exact ⟨us, h3, by omega, by rw [h5]; exact hm⟩

/-- The pairs that have no merging word. -/
noncomputable def apL (n m : Nat) (xss : List (List Int)) : List Nat := ((pwL n m xss).filter fun p => !p.ok).map PW.pair
noncomputable def apB (n m : Nat) (xss : List (List Int)) (b : Nat) : Bool := decide (b ∈ apL n m xss)
theorem apL_mem {n m : Nat} {xss : List (List Int)} (hg : Good n m xss) (b : Nat) : b ∈ apL n m xss ↔ ∃ s t, s < t ∧ t < n ∧ b = pairB s t ∧ lenP n m xss s t < 0 := by
  unfold apL
  rw [pwL_full hg.n10]
  simp only [List.mem_map, List.mem_filter]
  constructor
  · rintro ⟨p, ⟨⟨⟨s, t⟩, hst, rfl⟩, hok⟩, rfl⟩
    have hl := prL_mem hst
    refine ⟨s, t, hl.2.1, hl.2.2, rfl, ?_⟩
    rw [← pwO_len hg (by omega) hl.2.2, if_neg (by simpa using hok)]
    decide
  · rintro ⟨s, t, h1, h2, rfl, h3⟩
    refine ⟨pwO n m xss (pairB s t), ⟨⟨(s, t), prL_has h1 h2, rfl⟩, ?_⟩, rfl⟩
    rw [← pwO_len hg (by omega) h2] at h3
    rcases ho : (pwO n m xss (pairB s t)).ok with _ | _
    · rfl
    · rw [ho, if_pos rfl] at h3; omega
theorem two_of : ∀ b < 1024, (listK b 10).length = 2 → ((List.range 10).any fun p => (List.range 10).any fun q => decide (p < q) && b == pairB p q) = true := by decide +kernel
theorem two_pair {n b : Nat} (hb : b < 1024) (hin : In n b) (h : (listK b 10).length = 2) : ∃ p q, p < q ∧ q < n ∧ b = pairB p q := by
  have h1 := two_of b hb h
  simp only [List.any_eq_true, List.mem_range, Bool.and_eq_true, decide_eq_true_eq, beq_iff_eq] at h1
  obtain ⟨p, _, q, _, hpq, rfl⟩ := h1
  exact ⟨p, q, hpq, hin q (pair_bit.2 (.inr rfl)), rfl⟩
theorem cnt_list (b : Nat) : cnt b = (listK b 10).length := by unfold cnt listK; rw [List.length_map]; rfl
theorem apB_two {n m : Nat} {xss : List (List Int)} (hg : Good n m xss) (b : Nat) (hb : apB n m xss b = true) : cnt b = 2 := by
  have h10 := hg.n10
  unfold apB at hb
  rw [decide_eq_true_eq, apL_mem hg] at hb
  obtain ⟨s, t, h1, h2, rfl, _⟩ := hb
  rw [cnt_list, list_pair s (by omega) t (by omega) h1]
  rfl
/-- What the model asks of a set: it is a pair whose entry is negative. -/
noncomputable def apM (n m : Nat) (xss : List (List Int)) (b : Nat) : Bool := decide ((listK b 10).length = 2) && decide (((tabK n m xss n).getD ((listK b 10).getD 0 0).toNat []).getD ((listK b 10).getD 1 0).toNat 0 < 0)
theorem tabK_at {n m s t : Nat} {xss : List (List Int)} (hs : s < n) (ht : t < n) : ((tabK n m xss n).getD s []).getD t 0 = lenP n m xss s t := by
  unfold tabK rowK
  rw [List.getD_eq_getElem?_getD, List.getD_eq_getElem?_getD, List.getElem?_map, List.getElem?_range hs]
  simp [ht]
theorem apM_eq {n m b : Nat} {xss : List (List Int)} (hg : Good n m xss) (hb : b < 1024) (hin : In n b) : apM n m xss b = apB n m xss b := by
  have h10 := hg.n10
  rw [Bool.eq_iff_iff]
  unfold apM apB
  rw [Bool.and_eq_true, decide_eq_true_eq, decide_eq_true_eq, decide_eq_true_eq, apL_mem hg]
  constructor
  · rintro ⟨h1, h2⟩
    obtain ⟨p, q, hpq, hq, rfl⟩ := two_pair hb hin h1
    rw [list_pair p (by omega) q (by omega) hpq] at h2
    refine ⟨p, q, hpq, hq, rfl, ?_⟩
    rw [← tabK_at (by omega) hq]
    simpa using h2
  · rintro ⟨s, t, h1, h2, rfl, h3⟩
    rw [list_pair s (by omega) t (by omega) h1]
    refine ⟨rfl, ?_⟩
    rw [← tabK_at (by omega) h2] at h3
    simpa using h3

/-- A pair is stable. -/
noncomputable def stB (n m : Nat) (xss : List (List Int)) (s t : Nat) : Bool := !hitB (firstF (apB n m xss) (fnd n m xss 1024 (pairB s t)))
noncomputable def stU (n m : Nat) (xss : List (List Int)) (gs : List (Nat × Nat)) : List (List Int) := (gs.filter fun g => stB n m xss g.1 g.2).map fun g => [((g.1 : Nat) : Int), ((g.2 : Nat) : Int)]
theorem stU_snoc (n m : Nat) (xss : List (List Int)) (gs : List (Nat × Nat)) (s t : Nat) : stU n m xss (gs ++ [(s, t)]) = if stB n m xss s t = true then stU n m xss gs ++ [[(s : Int), (t : Int)]] else stU n m xss gs := by
  unfold stU
  rw [List.filter_append, List.map_append]
  by_cases h : stB n m xss s t = true
  · rw [if_pos h, List.filter_cons_of_pos (by simpa using h)]; rfl
  · rw [if_neg h, List.filter_cons_of_neg (by simpa using h)]; simp
noncomputable def stL (n m : Nat) (xss : List (List Int)) : List (List Int) := stU n m xss (prL n n)
theorem prL_leS (n : Nat) (hn : n ≤ 10) : (prL n n).length ≤ 100 := by
  have h8 := prL_len n n
  have h9 : n * n ≤ 10 * 10 := Nat.mul_le_mul hn hn
  omega
theorem stU_len (n m : Nat) (xss : List (List Int)) (gs : List (Nat × Nat)) : (stU n m xss gs).length ≤ gs.length := by
  unfold stU; rw [List.length_map]; exact List.length_filter_le _ _
theorem stU_row (n m : Nat) (xss : List (List Int)) (gs : List (Nat × Nat)) : ∀ l ∈ stU n m xss gs, l.length = 2 := by
  intro l hl
  unfold stU at hl
  obtain ⟨g, _, rfl⟩ := List.mem_map.1 hl
  rfl

end Go.Proofs.Ytcglncepmieaaaa
