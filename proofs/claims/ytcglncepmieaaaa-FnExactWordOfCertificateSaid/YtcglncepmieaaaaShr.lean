/-
  What the searches of chapter 2 answer: the first words that lead to few states, with a limit for the words and without one.
-/
import Derived.Test.YtcglncepmieaaaaBits
import Derived.Test.YtcglncepmieaaaaBound
namespace Go.Proofs.Ytcglncepmieaaaa
open Go.RowKit Go.Deep Go.ChangeShapes Go.WideShapes

namespace Srch
open Hunt

def aftF (n : Nat) (xss : List (List Int)) (b x : Nat) : Nat := aftB b (xss.getD x []) n
theorem row_lt {n m x j : Nat} {xss : List (List Int)} (hg : Good n m xss) (hx : x < m) (hj : j < n) : ((xss.getD x []).getD j 0).toNat < 10 := by
  have h1 := hg.nextD hx hj
  have h2 := hg.n10
  unfold nx at h1
  omega
theorem aftF_lt {n m : Nat} {xss : List (List Int)} (hg : Good n m xss) (b x : Nat) (_hb : b < 1024) (hx : x < m) : aftF n xss b x < 1024 := aftB_lt n (fun _ hj => row_lt hg hx hj)
theorem acts {n m : Nat} {xss : List (List Int)} (hg : Good n m xss) : Acts (aftF n xss) (nx xss) n m := by
  refine ⟨hg.n1, hg.n10, fun x q hx hq => hg.nextD hx hq, fun b x q hx hb => ?_⟩
  unfold aftF
  rw [aftB_bit]
  simp only [List.any_eq_true, List.mem_range, Bool.and_eq_true, decide_eq_true_eq]
  constructor
  · rintro ⟨j, _, h1, h2⟩; exact ⟨j, h1, h2⟩
  · rintro ⟨j, h1, h2⟩; exact ⟨j, hb j h1, h1, h2⟩
theorem small {n m b : Nat} {xss : List (List Int)} (hg : Good n m xss) (hb : b < 1024) : Small (aftF n xss) m b := ⟨aftF_lt hg, hb⟩
theorem goW_aftW (n : Nat) (xss : List (List Int)) (b : Nat) (ws : List Int) : goW (aftF n xss) b ws = aftW b n xss ws := rfl
theorem ones_cnt {b : Nat} (hb : b < 1024) : Lib.onesCount b = cnt b := by
  rw [count_ok hb, List.length_map]; rfl

/-- At most one state. -/
def mergedB (b : Nat) : Bool := decide (Lib.onesCount b ≤ 1)
theorem merged_iff {b : Nat} (hb : b < 1024) : mergedB b = true ↔ cnt b ≤ 1 := by unfold mergedB; rw [decide_eq_true_eq, ones_cnt hb]
/-- All that the search finds: the words have at most cap letters. -/
noncomputable def fnd (n m : Nat) (xss : List (List Int)) (cap b : Nat) : List Fnd := allF (aftF n xss) m cap b
def toldW : Option Fnd → List Int × Int
  | some f => (f.word, 0)
  | none => ([], 6)
theorem found_word {n m b cap : Nat} {xss : List (List Int)} {f : Fnd} (hf : f ∈ fnd n m xss cap b) : f.set = goW (aftF n xss) b f.word ∧ okW m f.word := (all_inv (cap := cap)).word f hf
theorem first_same {n m b : Nat} {xss : List (List Int)} {g : Nat → Bool} (hg : Good n m xss) (hb : b < 1024)
    (h : ∀ ws, okW m ws → g (goW (aftF n xss) b ws) = true → ∃ us, okW m us ∧ us.length ≤ 400 ∧ g (goW (aftF n xss) b us) = true) :
    firstF g (fnd n m xss 400 b) = firstF g (fnd n m xss 1024 b) :=
  first_cap (small hg hb) (by decide) fun f hf hgf => by
    obtain ⟨h1, h2⟩ := found_word hf
    obtain ⟨us, h3, h4, h5⟩ := h f.word h2 (by rw [← h1]; exact hgf)
    exact ⟨us, h3, h4, h5⟩
/-- From all states to at most one. -/
theorem full_same {n m : Nat} {xss : List (List Int)} (hg : Good n m xss) : firstF mergedB (fnd n m xss 400 (2 ^ n - 1)) = firstF mergedB (fnd n m xss 1024 (2 ^ n - 1)) := by
  have ha := acts hg
  refine first_same hg ((full_in n).lt hg.n10) fun ws hw hm => ?_
  rw [merged_iff ((goW_in ha ws _ hw (full_in n)).1.lt hg.n10)] at hm
  obtain ⟨us, h1, h2, h3⟩ := rank_bound ha (aftF_lt hg) ws hw
  exact ⟨us, h1, by omega, (merged_iff ((goW_in ha us _ h1 (full_in n)).1.lt hg.n10)).2 (by omega)⟩
/-- From two states to one. -/
theorem pair_same {n m p q : Nat} {xss : List (List Int)} (hg : Good n m xss) (hp : p < n) (hq : q < n) : firstF mergedB (fnd n m xss 400 (pairB p q)) = firstF mergedB (fnd n m xss 1024 (pairB p q)) := by
  have ha := acts hg
  have hin := pair_in hp hq
  refine first_same hg (hin.lt hg.n10) fun ws hw hm => ?_
  rw [merged_iff ((goW_in ha ws _ hw hin).1.lt hg.n10), pair_key ha hp hq hw] at hm
  obtain ⟨us, h1, h2, h3⟩ := pair_bound ha (aftF_lt hg) hp hq ws hw hm
  exact ⟨us, h1, by omega, (merged_iff ((goW_in ha us _ h1 hin).1.lt hg.n10)).2 ((pair_key ha hp hq h1).2 h3)⟩
/-- From all states to a set of one state. -/
theorem single_same {n m s : Nat} {xss : List (List Int)} (hg : Good n m xss) (_hs : s < n) : firstF (fun b => b == 1 <<< s) (fnd n m xss 400 (2 ^ n - 1)) = firstF (fun b => b == 1 <<< s) (fnd n m xss 1024 (2 ^ n - 1)) := by
  have ha := acts hg
  refine first_same hg ((full_in n).lt hg.n10) fun ws hw hm => ?_
  rw [beq_iff_eq] at hm
  have hc : cnt (goW (aftF n xss) (2 ^ n - 1) ws) ≤ 1 := by
    rw [hm]
    have := nodup_sub (L := [s]) (bits_nodup (1 <<< s)) (fun t ht => by
      rw [List.mem_filter, testBit_one_shift, decide_eq_true_eq] at ht
      simp [ht.2])
    exact this
  obtain ⟨us, h1, h2, h3⟩ := single_bound ha (aftF_lt hg) ws hw hc
  exact ⟨us, h1, by omega, by rw [h3, hm]; simp⟩
theorem word_400 {n m b : Nat} {xss : List (List Int)} {f : Fnd} (hg : Good n m xss) (hb : b < 1024) (hf : f ∈ fnd n m xss 1024 b) : f.word.length ≤ 1024 := by
  obtain ⟨j, hj⟩ := mem_at hf
  have h1 := word_le all_inv j f hj
  have h2 := lt_of_at hj
  have h3 := all_len (cap := 1024) (small hg hb)
  unfold fnd at h2
  omega
theorem told_len {n m b : Nat} {xss : List (List Int)} {g : Nat → Bool} (hg : Good n m xss) (hb : b < 1024) : (toldW (firstF g (fnd n m xss 1024 b))).1.length ≤ 1024 := by
  rcases h : firstF g (fnd n m xss 1024 b) with _ | f
  · simp [toldW]
  · exact word_400 hg hb (List.mem_of_find?_eq_some h)
end Srch

end Go.Proofs.Ytcglncepmieaaaa
