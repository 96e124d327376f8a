/-
  The search in breadth as both texts do it, and the distances that it tells.
-/
import Derived.Test.YtkhhemlfahdbnabQueue
namespace Go.Proofs.Ytkhhemlfahdbnab
open Go.RowKit Go.Deep Go.ChangeShapes Go.WideShapes

def updI (d : Nat → Int) (k : Nat) (v : Int) : Nat → Int := fun j => if j = k then v else d j
def stepB (xss : List (List Int)) (now : Nat) (r : (Nat → Int) × List Nat) (x : Nat) : (Nat → Int) × List Nat :=
  if r.1 (nx xss x now) < 0 then (updI r.1 (nx xss x now) (r.1 now + 1), r.2 ++ [nx xss x now]) else r
def rowB (x : Nat) (xss : List (List Int)) (now : Nat) (r : (Nat → Int) × List Nat) : (Nat → Int) × List Nat := (List.range x).foldl (stepB xss now) r
theorem rowB_0 (xss : List (List Int)) (now : Nat) (r : (Nat → Int) × List Nat) : rowB 0 xss now r = r := rfl
theorem rowB_succ (x : Nat) (xss : List (List Int)) (now : Nat) (r : (Nat → Int) × List Nat) : rowB (x + 1) xss now r = stepB xss now (rowB x xss now r) x := by
  unfold rowB; rw [List.range_succ, List.foldl_append]; rfl
theorem rowB_new {x : Nat} {xss : List (List Int)} {now : Nat} {r : (Nat → Int) × List Nat} {d : Nat → Int} {T : List Nat} (h : rowB x xss now r = (d, T)) (hd : d (nx xss x now) < 0) :
    rowB (x + 1) xss now r = (updI d (nx xss x now) (d now + 1), T ++ [nx xss x now]) := by rw [rowB_succ, h]; unfold stepB; rw [if_pos hd]
theorem rowB_old {x : Nat} {xss : List (List Int)} {now : Nat} {r : (Nat → Int) × List Nat} {d : Nat → Int} {T : List Nat} (h : rowB x xss now r = (d, T)) (hd : ¬ d (nx xss x now) < 0) :
    rowB (x + 1) xss now r = (d, T) := by rw [rowB_succ, h]; unfold stepB; rw [if_neg hd]
def popB (m : Nat) (xss : List (List Int)) (r : (Nat → Int) × List Nat) : (Nat → Int) × List Nat :=
  match r.2 with
  | [] => r
  | t :: T => rowB m xss t (r.1, T)
def bfs (m : Nat) (xss : List (List Int)) (s : Nat) : Nat → (Nat → Int) × List Nat
  | 0 => (updI (fun _ => -1) s 0, [s])
  | k + 1 => popB m xss (bfs m xss s k)
theorem bfs_pop {m : Nat} {xss : List (List Int)} {s k t : Nat} {d : Nat → Int} {T : List Nat} (h : bfs m xss s k = (d, t :: T)) : bfs m xss s (k + 1) = rowB m xss t (d, T) := by
  show popB m xss (bfs m xss s k) = _
  rw [h]; rfl
theorem bfs_stay {m : Nat} {xss : List (List Int)} {s k : Nat} {d : Nat → Int} (h : bfs m xss s k = (d, [])) : ∀ j, bfs m xss s (k + j) = (d, [])
  | 0 => h
  | j + 1 => by
    show popB m xss (bfs m xss s (k + j)) = _
    rw [bfs_stay h j]; rfl
theorem bfs_one {m : Nat} {xss : List (List Int)} {s k k' : Nat} {d d' : Nat → Int} (h : bfs m xss s k = (d, [])) (h' : bfs m xss s k' = (d', [])) : d = d' := by
  have h1 := bfs_stay h k'
  have h2 := bfs_stay h' k
  rw [Nat.add_comm] at h2
  rw [h1] at h2
  exact (Prod.mk.inj h2).1
/-- What the search tells at its end. -/
def Far (m : Nat) (xss : List (List Int)) (s : Nat) (d : Nat → Int) : Prop := ∃ k, bfs m xss s k = (d, [])

structure BInv (m : Nat) (xss : List (List Int)) (d : Nat → Int) (Q : List Nat) : Prop where
  sort : Q.Pairwise fun a b => d a ≤ d b
  known : ∀ q ∈ Q, 0 ≤ d q
  near : ∀ t ∈ Q.head?, ∀ q, d q ≤ d t + 1
  past : ∀ q, 0 ≤ d q → q ∉ Q → ∀ x, x < m → 0 ≤ d (nx xss x q) ∧ d (nx xss x q) ≤ d q + 1
structure RInv (m : Nat) (xss : List (List Int)) (t x : Nat) (d : Nat → Int) (T : List Nat) : Prop where
  sort : T.Pairwise fun a b => d a ≤ d b
  known : ∀ q ∈ T, d t ≤ d q
  pos : 0 ≤ d t
  near : ∀ q, d q ≤ d t + 1
  mine : ∀ y, y < x → 0 ≤ d (nx xss y t)
  past : ∀ q, 0 ≤ d q → q ∉ T → q ≠ t → ∀ y, y < m → 0 ≤ d (nx xss y q) ∧ d (nx xss y q) ≤ d q + 1
theorem updI_same (d : Nat → Int) (k : Nat) (v : Int) : updI d k v k = v := by simp [updI]
theorem updI_other {d : Nat → Int} {k q : Nat} (v : Int) (h : q ≠ k) : updI d k v q = d q := by simp [updI, h]
theorem RInv.step {m : Nat} {xss : List (List Int)} {t x : Nat} {d : Nat → Int} {T : List Nat} (h : RInv m xss t x d T) : RInv m xss t (x + 1) (stepB xss t (d, T) x).1 (stepB xss t (d, T) x).2 := by
  unfold stepB
  by_cases hd : d (nx xss x t) < 0
  · rw [if_pos hd]
    show RInv m xss t (x + 1) (updI d (nx xss x t) (d t + 1)) (T ++ [nx xss x t])
    have hne : ∀ q, 0 ≤ d q → q ≠ nx xss x t := fun q hq e => by rw [e] at hq; omega
    have hsame : ∀ q, 0 ≤ d q → updI d (nx xss x t) (d t + 1) q = d q := fun q hq => updI_other _ (hne q hq)
    have hp := h.pos
    have ht := hsame t h.pos
    have hle : ∀ q ∈ T, 0 ≤ d q := fun q hq => by have := h.known q hq; omega
    refine ⟨?_, fun q hq => ?_, by rw [ht]; exact hp, fun q => ?_, fun y hy => ?_, fun q hq hn hne' y hy => ?_⟩
    · rw [List.pairwise_append]
      refine ⟨?_, by simp, fun a ha b hb => ?_⟩
      · refine h.sort.imp_of_mem fun {a b} ha hb hab => ?_
        rw [hsame a (hle a ha), hsame b (hle b hb)]; exact hab
      · simp only [List.mem_singleton] at hb
        subst hb
        rw [updI_same, hsame a (hle a ha)]
        exact h.near a
    · rw [ht]
      simp only [List.mem_append, List.mem_singleton] at hq
      rcases hq with hq | rfl
      · rw [hsame q (hle q hq)]; exact h.known q hq
      · rw [updI_same]; omega
    · rw [ht]
      by_cases e : q = nx xss x t
      · subst e; rw [updI_same]; omega
      · rw [updI_other _ e]; exact h.near q
    · by_cases e : nx xss y t = nx xss x t
      · rw [e, updI_same]; omega
      · rw [updI_other _ e]
        refine h.mine y ?_
        rcases Nat.lt_or_ge y x with a | a
        · exact a
        · obtain rfl : y = x := by omega
          exact absurd rfl e
    · simp only [List.mem_append, List.mem_singleton, not_or] at hn
      rw [updI_other _ hn.2] at hq ⊢
      obtain ⟨h1, h2⟩ := h.past q hq hn.1 hne' y hy
      rw [hsame _ h1]
      exact ⟨h1, h2⟩
  · rw [if_neg hd]
    exact ⟨h.sort, h.known, h.pos, h.near, fun y hy => by
      rcases Nat.lt_or_ge y x with a | a
      · exact h.mine y a
      · obtain rfl : y = x := by omega
        show 0 ≤ d (nx xss y t)
        omega, h.past⟩
theorem RInv.row {m : Nat} {xss : List (List Int)} {t : Nat} {d : Nat → Int} {T : List Nat} (h : RInv m xss t 0 d T) : ∀ x, RInv m xss t x (rowB x xss t (d, T)).1 (rowB x xss t (d, T)).2
  | 0 => h
  | x + 1 => by rw [rowB_succ]; exact (h.row x).step
theorem BInv.pop {m : Nat} {xss : List (List Int)} {d : Nat → Int} {Q : List Nat} (h : BInv m xss d Q) : BInv m xss (popB m xss (d, Q)).1 (popB m xss (d, Q)).2 := by
  rcases Q with _ | ⟨t, T⟩
  · exact h
  · show BInv m xss (rowB m xss t (d, T)).1 (rowB m xss t (d, T)).2
    have hs := List.pairwise_cons.1 h.sort
    have h0 : RInv m xss t 0 d T := ⟨hs.2, hs.1, h.known t (by simp), h.near t (by simp), fun y hy => by omega, fun q hq hn hne => h.past q hq (by simp [hn, hne])⟩
    have h1 := h0.row m
    generalize rowB m xss t (d, T) = r at h1 ⊢
    refine ⟨h1.sort, fun q hq => Int.le_trans h1.pos (h1.known q hq), fun u hu q => ?_, fun q hq hn x hx => ?_⟩
    · have := h1.known u (List.mem_of_mem_head? hu)
      have := h1.near q
      omega
    · by_cases e : q = t
      · subst e
        exact ⟨h1.mine x hx, h1.near _⟩
      · exact h1.past q hq hn e x hx
theorem bfs_inv (m : Nat) (xss : List (List Int)) (s : Nat) : ∀ k, BInv m xss (bfs m xss s k).1 (bfs m xss s k).2
  | 0 => by
    refine ⟨by simp [bfs], fun q hq => ?_, fun t ht q => ?_, fun q hq hn => ?_⟩
    · simp only [bfs, List.mem_singleton] at hq; subst hq; simp [bfs, updI]
    · simp only [bfs, List.head?_cons, Option.mem_some_iff] at ht; subst ht
      simp only [bfs, updI, if_true]; split <;> omega
    · simp only [bfs, List.mem_singleton] at hn
      simp [bfs, updI, hn] at hq
  | k + 1 => (bfs_inv m xss s k).pop
/-- A letter leads at most one letter further. -/
theorem Far.step {m : Nat} {xss : List (List Int)} {s : Nat} {d : Nat → Int} (h : Far m xss s d) {q x : Nat} (hq : 0 ≤ d q) (hx : x < m) : d (nx xss x q) ≤ d q + 1 := by
  obtain ⟨k, hk⟩ := h
  have hi := bfs_inv m xss s k
  rw [hk] at hi
  exact (hi.past q hq (by simp) x hx).2
theorem Far.one {m : Nat} {xss : List (List Int)} {s : Nat} {d d' : Nat → Int} (h : Far m xss s d) (h' : Far m xss s d') : d = d' := by
  obtain ⟨k, hk⟩ := h
  obtain ⟨k', hk'⟩ := h'
  exact bfs_one hk hk'

/-! ### Common divisors -/
def gcdL (l : List Nat) : Nat := l.foldl Nat.gcd 0
theorem gcdL_snoc (l : List Nat) (y : Nat) : gcdL (l ++ [y]) = Nat.gcd (gcdL l) y := by unfold gcdL; rw [List.foldl_append]; rfl
theorem dvd_foldl_gcd (k : Nat) : ∀ (l : List Nat) (a : Nat), k ∣ l.foldl Nat.gcd a ↔ k ∣ a ∧ ∀ y ∈ l, k ∣ y
  | [], a => by simp
  | y :: l, a => by
    rw [List.foldl_cons, dvd_foldl_gcd k l, Nat.dvd_gcd_iff]
    simp [and_assoc]
theorem dvd_gcdL (k : Nat) (l : List Nat) : k ∣ gcdL l ↔ ∀ y ∈ l, k ∣ y := by unfold gcdL; rw [dvd_foldl_gcd]; simp
theorem gcdL_same {l l' : List Nat} (h : ∀ y, y ∈ l ↔ y ∈ l') : gcdL l = gcdL l' := by
  apply Nat.dvd_antisymm
  · rw [dvd_gcdL]; intro y hy; exact (dvd_gcdL _ _).1 (Nat.dvd_refl _) y ((h y).2 hy)
  · rw [dvd_gcdL]; intro y hy; exact (dvd_gcdL _ _).1 (Nat.dvd_refl _) y ((h y).1 hy)
theorem gcdL_le {l : List Nat} {b : Nat} (h : ∀ y ∈ l, y ≤ b) : gcdL l ≤ b := by
  by_cases h0 : ∃ y ∈ l, 0 < y
  · obtain ⟨y, hy, hp⟩ := h0
    exact Nat.le_trans (Nat.le_of_dvd hp ((dvd_gcdL _ _).1 (Nat.dvd_refl _) y hy)) (h y hy)
  · have : ∀ y ∈ l, y = 0 := fun y hy => by
      rcases Nat.eq_zero_or_pos y with e | e
      · exact e
      · exact absurd ⟨y, hy, e⟩ h0
    have h2 : gcdL l = 0 := by
      have : 0 ∣ gcdL l := (dvd_gcdL 0 l).2 (fun y hy => by rw [this y hy]; exact Nat.dvd_refl _)
      exact Nat.eq_zero_of_zero_dvd this
    omega

end Go.Proofs.Ytkhhemlfahdbnab
