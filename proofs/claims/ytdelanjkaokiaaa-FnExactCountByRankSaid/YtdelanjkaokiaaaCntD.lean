/-
  How many words lead from one set to each other one, on numbers alone: sums over all sets, and over those that can be reached.
-/
import Derived.Test.YtdelanjkaokiaaaDepF
import Derived.Test.YtdelanjkaokiaaaShr
namespace Go.Proofs.Ytdelanjkaokiaaa
open Go.RowKit Go.Deep Go.ChangeShapes Go.WideShapes
open Hunt Srch Moved

/-- How many of the letters below x lead from b to c. -/
def hitN (aft : Nat → Nat → Nat) (b c : Nat) : Nat → Int
  | 0 => 0
  | x + 1 => hitN aft b c x + if aft b x = c then 1 else 0
theorem hitN_zero {aft : Nat → Nat → Nat} {b c : Nat} : ∀ {x : Nat}, (∀ y, y < x → aft b y ≠ c) → hitN aft b c x = 0
  | 0, _ => rfl
  | x + 1, h => by
    rw [hitN, hitN_zero (fun y hy => h y (by omega)), if_neg (h x (by omega))]
    rfl
def sumL (g : Nat → Int) : List Nat → Int
  | [] => 0
  | b :: S => g b + sumL g S
theorem sumL_append (g : Nat → Int) : ∀ S T : List Nat, sumL g (S ++ T) = sumL g S + sumL g T
  | [], T => by simp [sumL]
  | b :: S, T => by
    have ih := sumL_append g S T
    rw [List.cons_append, sumL, sumL, ih]
    omega
theorem sumL_snoc (g : Nat → Int) (S : List Nat) (b : Nat) : sumL g (S ++ [b]) = sumL g S + g b := by rw [sumL_append]; simp [sumL]
theorem sumL_range (g : Nat → Int) (j : Nat) : sumL g (List.range (j + 1)) = sumL g (List.range j) + g j := by rw [List.range_succ, sumL_snoc]
theorem sumL_congr {g h : Nat → Int} : ∀ {S : List Nat}, (∀ b ∈ S, g b = h b) → sumL g S = sumL h S
  | [], _ => rfl
  | b :: S, hh => by rw [sumL, sumL, hh b List.mem_cons_self, sumL_congr (fun c hc => hh c (List.mem_cons_of_mem _ hc))]
theorem sumL_zero {g : Nat → Int} : ∀ {S : List Nat}, (∀ b ∈ S, g b = 0) → sumL g S = 0
  | [], _ => rfl
  | b :: S, h => by rw [sumL, h b List.mem_cons_self, sumL_zero (fun c hc => h c (List.mem_cons_of_mem _ hc))]; rfl
theorem sumL_take {g : Nat → Int} {S : List Nat} {i b : Nat} (h : S[i]? = some b) : sumL g (S.take (i + 1)) = sumL g (S.take i) + g b := by
  rw [List.take_add_one, h]
  exact sumL_snoc g _ b
theorem sum_out (g : Nat → Int) (b : Nat) : ∀ N, sumL g (List.range N) = (if b < N then g b else 0) + sumL (fun c => if c = b then 0 else g c) (List.range N)
  | 0 => by simp [sumL]
  | N + 1 => by
    have ih := sum_out g b N
    rw [sumL_range, sumL_range, ih]
    by_cases h : N = b
    · subst h
      rw [if_neg (Nat.lt_irrefl _), if_pos (Nat.lt_succ_self _), if_pos rfl]
      omega
    · rw [if_neg h]
      by_cases h2 : b < N
      · rw [if_pos h2, if_pos (by omega)]; omega
      · rw [if_neg h2, if_neg (by omega)]; omega
/-- A sum over all numbers below N is that over those where something stands. -/
theorem sum_support {N : Nat} : ∀ {S : List Nat} {g : Nat → Int}, S.Nodup → (∀ b ∈ S, b < N) → (∀ b, b < N → b ∉ S → g b = 0) → sumL g (List.range N) = sumL g S
  | [], g, _, _, h => by
    rw [sumL_zero (fun b hb => h b (List.mem_range.1 hb) (by simp))]; rfl
  | b :: S, g, hn, hl, h => by
    obtain ⟨hb, hS⟩ := List.nodup_cons.1 hn
    have ih := sum_support (N := N) (S := S) (g := fun c => if c = b then 0 else g c) hS (fun c hc => hl c (List.mem_cons_of_mem _ hc)) (fun c hc hcs => by
      by_cases e : c = b
      · simp [e]
      · show (if c = b then 0 else g c) = 0
        rw [if_neg e]
        exact h c hc (fun hm => (List.mem_cons.1 hm).elim e hcs))
    rw [sum_out g b N, if_pos (hl b List.mem_cons_self), ih, sumL]
    congr 1
    exact sumL_congr (fun c hc => by
      show (if c = b then 0 else g c) = g c
      rw [if_neg (fun e : c = b => hb (by rw [← e]; exact hc))])

/-- How many words of length k lead from b0 to each set. -/
def cntF (aft : Nat → Nat → Nat) (m b0 : Nat) : Nat → Nat → Int
  | 0, c => if c = b0 then 1 else 0
  | k + 1, c => sumL (fun b => cntF aft m b0 k b * hitN aft b c m) (List.range 1024)
theorem cntF_succ (aft : Nat → Nat → Nat) (m b0 k c : Nat) : cntF aft m b0 (k + 1) c = sumL (fun b => cntF aft m b0 k b * hitN aft b c m) (List.range 1024) := rfl
theorem cntF_out {aft : Nat → Nat → Nat} {m b0 : Nat} {S : List Nat} (h0 : b0 ∈ S) (hc : ∀ b ∈ S, ∀ x, x < m → aft b x ∈ S) : ∀ k c, c ∉ S → cntF aft m b0 k c = 0
  | 0, c, h => by unfold cntF; rw [if_neg (fun e : c = b0 => h (by rw [e]; exact h0))]
  | k + 1, c, h => by
    rw [cntF_succ]
    refine sumL_zero (fun b _ => ?_)
    by_cases hb : b ∈ S
    · rw [hitN_zero (x := m) (fun y hy (e : aft b y = c) => h (by rw [← e]; exact hc b hb y hy))]; simp
    · rw [cntF_out h0 hc k b hb]; simp
theorem hit_step {aft : Nat → Nat → Nat} {b c x : Nat} (F v : Int) : F + v * hitN aft b c (x + 1) = if c = aft b x then F + v * hitN aft b c x + v else F + v * hitN aft b c x := by
  rw [show hitN aft b c (x + 1) = hitN aft b c x + if aft b x = c then 1 else 0 from rfl]
  by_cases h : aft b x = c
  · rw [if_pos h, if_pos h.symm, Int.mul_add, Int.mul_one]; omega
  · rw [if_neg h, if_neg (fun e => h e.symm)]; simp

/-- A number as 64 bits hold it. -/
def wr64 (x : Int) : Int := wrap64 x
theorem wr64_add (a b : Int) : wrap64 (wr64 a + wr64 b) = wr64 (a + b) := by
  unfold wr64 wrap64
  omega
theorem wrap_wr (x : Int) : IntKind.i64.wrap x = wrap64 x := by
  unfold wrap64
  simp [IntKind.wrap, IntKind.bits, IntKind.signed]
  split <;> omega
theorem wr64_0 : wr64 0 = 0 := by unfold wr64 wrap64; omega
theorem wr64_1 : wr64 1 = 1 := by unfold wr64 wrap64; omega

/-- The sets that a search finds are closed, and the first one is among them. -/
theorem found_sets {n m b0 : Nat} {xss : List (List Int)} (hg : Good n m xss) (hb : b0 < 1024) : b0 ∈ (fnd n m xss 1024 b0).map Fnd.set ∧ ((fnd n m xss 1024 b0).map Fnd.set).Nodup ∧ (∀ b ∈ (fnd n m xss 1024 b0).map Fnd.set, b < 1024) ∧ ∀ b ∈ (fnd n m xss 1024 b0).map Fnd.set, ∀ x, x < m → aftF n xss b x ∈ (fnd n m xss 1024 b0).map Fnd.set := by
  have hs := small hg hb
  have hinv := all_inv (aft := aftF n xss) (m := m) (cap := 1024) (b0 := b0)
  have hlen : (fnd n m xss 1024 b0).length ≤ 1024 := all_len (cap := 1024) hs
  refine ⟨?_, hinv.nodup, ?_, ?_⟩
  · have := List.mem_of_getElem? hinv.root
    exact List.mem_map.2 ⟨_, this, rfl⟩
  · intro b hbm
    obtain ⟨f, hf, rfl⟩ := List.mem_map.1 hbm
    obtain ⟨h1, h2⟩ := hinv.word f hf
    rw [h1]
    exact goW_lt (fun b x hb hx => aftF_lt hg b x hb hx) hb _ h2
  · intro b hbm x hx
    obtain ⟨f, hf, rfl⟩ := List.mem_map.1 hbm
    obtain ⟨j, hj⟩ := List.getElem?_of_mem hf
    have hjl := lt_of_at hj
    have hw := word_le hinv j f hj
    obtain ⟨k, e, hk, he, _⟩ := hinv.closed j f x (by omega) hj hx (by omega)
    exact List.mem_map.2 ⟨e, List.mem_of_getElem? hk, he⟩

end Go.Proofs.Ytdelanjkaokiaaa
