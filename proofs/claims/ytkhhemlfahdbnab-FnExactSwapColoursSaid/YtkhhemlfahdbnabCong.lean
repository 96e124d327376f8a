/-
  Congruences: the contracts of leastStates, l01Congruent and keepsClasses.
-/
import Derived.Test.YtkhhemlfahdbnabDiv
namespace Go.Proofs.Ytkhhemlfahdbnab
open Go.RowKit Go.Deep Go.ChangeShapes Go.WideShapes

/-- The least state of each class among the first k states. -/
def leastK (cls : List Int) : Nat → List Int
  | 0 => []
  | k + 1 => if cls.getD k 0 = (cntK cls k : Int) then leastK cls k ++ [(k : Int)] else leastK cls k
theorem leastK_len (cls : List Int) : ∀ k, (leastK cls k).length = cntK cls k
  | 0 => rfl
  | k + 1 => by
    have := leastK_len cls k
    rw [leastK, cntK]
    split
    · rw [List.length_append, this]; rfl
    · exact this
theorem leastK_eq {cls : List Int} {k : Nat} {c : Int} (hc : cls[k]? = some c) (h : c = (cntK cls k : Int)) : leastK cls (k + 1) = leastK cls k ++ [(k : Int)] := by
  rw [leastK, if_pos (by rw [List.getD, hc]; exact h)]
theorem leastK_ne {cls : List Int} {k : Nat} {c : Int} (hc : cls[k]? = some c) (h : ¬ c = (cntK cls k : Int)) : leastK cls (k + 1) = leastK cls k := by
  rw [leastK, if_neg (by rw [List.getD, hc]; exact h)]

/-! ### The classes of a division -/
def cl (cls : List Int) (j : Nat) : Nat := (cls.getD j 0).toNat
def lst (cls : List Int) (n c : Nat) : Nat := ((leastK cls n).getD c 0).toNat
structure DivOk (n : Nat) (cls : List Int) : Prop where
  len : cls.length = n
  at_ : ∀ j, j < n → cls[j]? = some ((cl cls j : Nat) : Int)
  lt : ∀ j, j < n → cl cls j < cntK cls n
  least : ∀ c, c < cntK cls n → (leastK cls n)[c]? = some ((lst cls n c : Nat) : Int) ∧ lst cls n c < n ∧ cl cls (lst cls n c) = c
theorem divOk_of {n : Nat} {cls : List Int} (h : divB (n : Int) cls = true) : DivOk n cls := by
  simp only [divB, Bool.and_eq_true, List.all_eq_true, List.mem_range, decide_eq_true_eq] at h
  obtain ⟨hall, hlen⟩ := h
  have hl : cls.length = n := by omega
  subst hl
  have hat : ∀ j, j < cls.length → cls[j]? = some ((cl cls j : Nat) : Int) ∧ cl cls j ≤ cntK cls j := by
    intro j hj
    have h1 := hall j hj
    rw [divAt_is (List.getElem?_eq_getElem hj)] at h1
    have h2 : 0 ≤ cls[j] ∧ cls[j] ≤ (cntK cls j : Int) := by simpa [inB] using h1
    have e : cl cls j = (cls[j]).toNat := by simp [cl, List.getD, List.getElem?_eq_getElem hj]
    rw [e, List.getElem?_eq_getElem hj]
    exact ⟨by congr 1; omega, by omega⟩
  have mono : ∀ d k, cntK cls k ≤ cntK cls (k + d) := by
    intro d k
    induction d with
    | zero => exact Nat.le_refl _
    | succ d ih =>
      refine Nat.le_trans ih ?_
      rw [← Nat.add_assoc]
      conv => rhs; unfold cntK
      split <;> omega
  have stp : ∀ k, k ≤ cls.length → ∀ c, c < cntK cls k → ∃ i, i < k ∧ (leastK cls k)[c]? = some (i : Int) ∧ cl cls i = c := by
    intro k
    induction k with
    | zero => intro _ c hc; exact absurd hc (Nat.not_lt_zero _)
    | succ k ih =>
      intro hk c hc
      obtain ⟨ha, hle⟩ := hat k (by omega)
      by_cases hx : ((cl cls k : Nat) : Int) = (cntK cls k : Int)
      · rw [leastK_eq ha hx]
        rw [cntK_eq ha hx] at hc
        rcases Nat.lt_or_ge c (cntK cls k) with hlt | hge
        · obtain ⟨i, hi, h1, h2⟩ := ih (by omega) c hlt
          exact ⟨i, by omega, by rw [List.getElem?_append_left (by rw [leastK_len]; exact hlt)]; exact h1, h2⟩
        · have hce : c = cntK cls k := by omega
          refine ⟨k, by omega, ?_, by omega⟩
          rw [List.getElem?_append_right (by rw [leastK_len]; exact hge), leastK_len, hce, Nat.sub_self]
          rfl
      · rw [leastK_ne ha hx]
        rw [cntK_ne ha hx] at hc
        obtain ⟨i, hi, h1, h2⟩ := ih (by omega) c hc
        exact ⟨i, by omega, h1, h2⟩
  refine ⟨rfl, fun j hj => (hat j hj).1, fun j hj => ?_, fun c hc => ?_⟩
  · obtain ⟨ha, hle⟩ := hat j hj
    have hm := mono (cls.length - (j + 1)) (j + 1)
    rw [show j + 1 + (cls.length - (j + 1)) = cls.length by omega] at hm
    by_cases hx : ((cl cls j : Nat) : Int) = (cntK cls j : Int)
    · rw [cntK_eq ha hx] at hm; omega
    · rw [cntK_ne ha hx] at hm; omega
  · obtain ⟨i, hi, h1, h2⟩ := stp cls.length (Nat.le_refl _) c hc
    have e : lst cls cls.length c = i := by simp [lst, List.getD, h1]
    rw [e]
    exact ⟨h1, hi, h2⟩

def Cong (n m : Nat) (xss : List (List Int)) (cls : List Int) : Prop := ∀ s t x, s < n → t < n → x < m → cl cls s = cl cls t → cl cls (nx xss x s) = cl cls (nx xss x t)
noncomputable def congB (n m : Nat) (xss : List (List Int)) (cls : List Int) : Bool := @decide (Cong n m xss cls) (Classical.propDecidable _)
theorem congB_t {n m : Nat} {xss : List (List Int)} {cls : List Int} (h : Cong n m xss cls) : congB n m xss cls = true := by
  unfold congB; exact @decide_eq_true _ (Classical.propDecidable _) h
theorem congB_f {n m : Nat} {xss : List (List Int)} {cls : List Int} (h : ¬ Cong n m xss cls) : congB n m xss cls = false := by
  unfold congB; exact @decide_eq_false _ (Classical.propDecidable _) h
theorem cong_low {n m : Nat} {xss : List (List Int)} {cls : List Int} (h : ∀ s, s < n → ∀ t, t < s → ∀ x, x < m → cl cls s = cl cls t → cl cls (nx xss x s) = cl cls (nx xss x t)) : Cong n m xss cls := by
  intro s t x hs ht hx e
  rcases Nat.lt_trichotomy s t with a | a | a
  · exact (h t ht s a x hx e.symm).symm
  · rw [a]
  · exact h s hs t a x hx e
theorem cong_least {n m : Nat} {xss : List (List Int)} {cls : List Int} (_hd : DivOk n cls) (h : ∀ x, x < m → ∀ s, s < n → cl cls (nx xss x s) = cl cls (nx xss x (lst cls n (cl cls s)))) : Cong n m xss cls := by
  intro s t x hs ht hx e
  rw [h x hx s hs, h x hx t ht, e]
theorem cong_not {n m : Nat} {xss : List (List Int)} {cls : List Int} {s x : Nat} (hd : DivOk n cls) (hs : s < n) (hx : x < m) (h : ¬ cl cls (nx xss x s) = cl cls (nx xss x (lst cls n (cl cls s)))) : ¬ Cong n m xss cls := by
  intro hc
  obtain ⟨_, h2, h3⟩ := hd.least (cl cls s) (hd.lt s hs)
  exact h (hc s _ x hs h2 hx h3.symm)

end Go.Proofs.Ytkhhemlfahdbnab
