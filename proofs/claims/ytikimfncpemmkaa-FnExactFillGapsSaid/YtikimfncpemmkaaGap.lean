/-
  Partial automata: which are valid, and where words lead that can be read (lists alone).
-/
import Derived.Test.YtikimfncpemmkaaFill
import Derived.Test.YtikimfncpemmkaaPart
import Derived.Test.YtikimfncpemmkaaWords
import Derived.Test.YtikimfncpemmkaaLst
namespace Go.Proofs.Ytikimfncpemmkaa
open Go.RowKit Go.Deep Go.ChangeShapes Go.WideShapes
open Hunt Moved

def okP (s : Int) (xss : List (List Int)) : Bool := okF s (inB (-1) (s - 1)) xss

/-- A valid partial automaton with n states and m letters. -/
structure GoodP (n m : Nat) (xss : List (List Int)) : Prop where
  n1 : 1 ≤ n
  n10 : n ≤ 10
  m1 : 1 ≤ m
  m3 : m ≤ 3
  len : xss.length = m
  row : ∀ x, x < m → ∃ row, xss[x]? = some row ∧ row.length = n ∧ ∀ y ∈ row, -1 ≤ y ∧ y < (n : Int)
theorem goodP_of {s : Int} {m : Nat} {xss : List (List Int)} (h : okP s xss = true) (hm : xss.length = m) : ∃ n : Nat, s = (n : Int) ∧ GoodP n m xss := by
  simp only [okP, okF, Bool.and_eq_true, inB, decide_eq_true_eq, List.all_eq_true] at h
  obtain ⟨⟨h1, h2⟩, h3⟩ := h
  refine ⟨s.toNat, by omega, by omega, by omega, by omega, by omega, hm, fun x hx => ?_⟩
  have hx' : x < xss.length := by omega
  have := h3 xss[x] (List.getElem_mem hx')
  simp only [lineF, Bool.and_eq_true, decide_eq_true_eq, List.all_eq_true, inB] at this
  exact ⟨xss[x], List.getElem?_eq_getElem hx', by omega, fun y hy => by have := this.1 y hy; omega⟩
theorem GoodP.at_ {n m : Nat} {xss : List (List Int)} (h : GoodP n m xss) {x : Nat} (hx : x < m) : (xss.getD x []).length = n ∧ ∀ y ∈ xss.getD x [], -1 ≤ y ∧ y < (n : Int) := by
  obtain ⟨row, h1, h2⟩ := h.row x hx
  rw [List.getD_eq_getElem?_getD, h1]
  exact h2

/-- Where a letter leads from the states of a list, one by one; (0, false) if it cannot be read in one of them. -/
def carL (row : List Int) : List Int → Nat → Nat × Bool
  | [], c => (c, true)
  | s :: L, c => if row.getD s.toNat 0 = -1 then (0, false) else carL row L (c ||| 2 ^ (row.getD s.toNat 0).toNat)
def carB (row : List Int) (b : Nat) : Nat × Bool := carL row (listK b 10) 0
def carW (xss : List (List Int)) : List Int → Nat → Nat × Bool
  | [], b => (b, true)
  | x :: ws, b => if (carB (xss.getD x.toNat []) b).2 = true then carW xss ws (carB (xss.getD x.toNat []) b).1 else (0, false)

theorem carL_lt {row : List Int} (hr : ∀ y ∈ row, -1 ≤ y ∧ y < 10) : ∀ (L : List Int) (c : Nat), (∀ s ∈ L, s.toNat < row.length) → c < 1024 → (carL row L c).1 < 1024
  | [], c, _, hc => hc
  | s :: L, c, hl, hc => by
    unfold carL
    split
    · exact Nat.zero_lt_succ _
    · have hs := hl s (by simp)
      have hy := hr row[s.toNat] (List.getElem_mem hs)
      have e : row.getD s.toNat 0 = row[s.toNat] := by rw [List.getD_eq_getElem?_getD, List.getElem?_eq_getElem hs]; rfl
      have h3 : 2 ^ (row.getD s.toNat 0).toNat ≤ 2 ^ 9 := Nat.pow_le_pow_right (by decide) (by rw [e]; omega)
      exact carL_lt hr L _ (fun t ht => hl t (by simp [ht])) (Nat.or_lt_two_pow (n := 10) hc (by omega))
theorem listK_mem {b k : Nat} {s : Int} (h : s ∈ listK b k) : ∃ q : Nat, s = (q : Int) ∧ q < k ∧ b.testBit q = true := by
  unfold listK at h
  rw [List.mem_map] at h
  obtain ⟨q, hq, rfl⟩ := h
  rw [List.mem_filter, List.mem_range] at hq
  exact ⟨q, rfl, hq.1, hq.2⟩
theorem bit_lt {b n q : Nat} (hb : b < 2 ^ n) (h : b.testBit q = true) : q < n := by
  rcases Nat.lt_or_ge q n with a | a
  · exact a
  · rw [Nat.testBit_lt_two_pow (Nat.lt_of_lt_of_le hb (Nat.pow_le_pow_right (by decide) a))] at h; cases h
theorem carB_lt {n : Nat} {row : List Int} {b : Nat} (hl : row.length = n) (hn : n ≤ 10) (hr : ∀ y ∈ row, -1 ≤ y ∧ y < (n : Int)) (hb : b < 2 ^ n) : (carB row b).1 < 1024 :=
  carL_lt (fun y hy => by have := hr y hy; omega) _ _ (fun s hs => by
    obtain ⟨q, rfl, _, hq⟩ := listK_mem hs
    have := bit_lt hb hq
    omega) (by decide)
/-- States alone are reached. -/
theorem carL_in {n : Nat} {row : List Int} (hr : ∀ y ∈ row, -1 ≤ y ∧ y < (n : Int)) : ∀ (L : List Int) (c : Nat), (∀ s ∈ L, s.toNat < row.length) → c < 2 ^ n → (carL row L c).1 < 2 ^ n
  | [], c, _, hc => hc
  | s :: L, c, hl, hc => by
    unfold carL
    split
    · exact Nat.pow_pos (by decide)
    · rename_i hne
      have hs := hl s (by simp)
      have hy := hr row[s.toNat] (List.getElem_mem hs)
      have e : row.getD s.toNat 0 = row[s.toNat] := by rw [List.getD_eq_getElem?_getD, List.getElem?_eq_getElem hs]; rfl
      have h3 : 2 ^ (row.getD s.toNat 0).toNat < 2 ^ n := Nat.pow_lt_pow_right (by decide) (by rw [e] at hne ⊢; omega)
      exact carL_in hr L _ (fun t ht => hl t (by simp [ht])) (Nat.or_lt_two_pow hc h3)
theorem carB_in {n : Nat} {row : List Int} {b : Nat} (hl : row.length = n) (hr : ∀ y ∈ row, -1 ≤ y ∧ y < (n : Int)) (hb : b < 2 ^ n) : (carB row b).1 < 2 ^ n :=
  carL_in hr _ _ (fun s hs => by
    obtain ⟨q, rfl, _, hq⟩ := listK_mem hs
    have := bit_lt hb hq
    omega) (Nat.pow_pos (by decide))
theorem carW_in {n m : Nat} {xss : List (List Int)} (hg : GoodP n m xss) : ∀ (ws : List Int) (b : Nat), (∀ x ∈ ws, 0 ≤ x ∧ x < (m : Int)) → b < 2 ^ n → (carW xss ws b).1 < 2 ^ n
  | [], b, _, hb => hb
  | x :: ws, b, hw, hb => by
    unfold carW
    have hx := hw x (by simp)
    obtain ⟨h1, h2⟩ := hg.at_ (x := x.toNat) (by omega)
    split
    · exact carW_in hg ws _ (fun y hy => hw y (by simp [hy])) (carB_in h1 h2 hb)
    · exact Nat.pow_pos (by decide)

/-- The states of a set from k on, d of them. -/
def listS (b k : Nat) : Nat → List Int
  | 0 => []
  | d + 1 => if b.testBit k = true then (k : Int) :: listS b (k + 1) d else listS b (k + 1) d
theorem listK_add (b : Nat) : ∀ (d k : Nat), listK b (k + d) = listK b k ++ listS b k d
  | 0, k => by simp [listS]
  | d + 1, k => by
    rw [show k + (d + 1) = (k + 1) + d from by omega, listK_add b d (k + 1), listK_succ, listS]
    split
    · simp
    · rfl
theorem listK_all {b n : Nat} (hb : b < 2 ^ n) (hn : n ≤ 10) : listK b 10 = listS b 0 n := by
  rw [listK_stop hb 10 hn]
  have := listK_add b n 0
  rw [Nat.zero_add] at this
  rw [this]
  simp [listK]
theorem carL_drop {row : List Int} {L : List Int} {i : Nat} {s : Int} (c : Nat) (hs : L[i]? = some s) : carL row (L.drop i) c = if row.getD s.toNat 0 = -1 then (0, false) else carL row (L.drop (i + 1)) (c ||| 2 ^ (row.getD s.toNat 0).toNat) := by
  have hi : i < L.length := by
    rcases Nat.lt_or_ge i L.length with a | a
    · exact a
    · rw [List.getElem?_eq_none a] at hs; cases hs
  rw [List.getElem?_eq_getElem hi] at hs
  rw [List.drop_eq_getElem_cons hi, Option.some.inj hs, carL]
theorem carW_drop {xss : List (List Int)} {ws : List Int} {i : Nat} {x : Int} (b : Nat) (hx : ws[i]? = some x) : carW xss (ws.drop i) b = if (carB (xss.getD x.toNat []) b).2 = true then carW xss (ws.drop (i + 1)) (carB (xss.getD x.toNat []) b).1 else (0, false) := by
  have hi : i < ws.length := by
    rcases Nat.lt_or_ge i ws.length with a | a
    · exact a
    · rw [List.getElem?_eq_none a] at hx; cases hx
  rw [List.getElem?_eq_getElem hi] at hx
  rw [List.drop_eq_getElem_cons hi, Option.some.inj hx, carW]

/-- What IsCareful answers. -/
def isCareful (s : Int) (xss : List (List Int)) (ws : List Int) : Bool × Int :=
  if okP s xss = true then (if isWordB (xss.length : Int) ws = true then ((carW xss ws (2 ^ s.toNat - 1)).2 && decide (Lib.onesCount (carW xss ws (2 ^ s.toNat - 1)).1 ≤ 1), 0) else (false, 2)) else (false, 1)
theorem isCareful_1 {s : Int} {xss : List (List Int)} {ws : List Int} (h : okP s xss = false) : isCareful s xss ws = (false, 1) := by unfold isCareful; rw [if_neg (by simp [h])]
theorem isCareful_2 {s : Int} {m : Nat} {xss : List (List Int)} {ws : List Int} (h : okP s xss = true) (hm : xss.length = m) (h' : isWordB (m : Int) ws = false) : isCareful s xss ws = (false, 2) := by unfold isCareful; rw [if_pos h, hm, if_neg (by simp [h'])]
theorem isCareful_0 {n m : Nat} {xss : List (List Int)} {ws : List Int} (h : okP (n : Int) xss = true) (hm : xss.length = m) (h' : isWordB (m : Int) ws = true) :
    isCareful (n : Int) xss ws = ((carW xss ws (2 ^ n - 1)).2 && decide (Lib.onesCount (carW xss ws (2 ^ n - 1)).1 ≤ 1), 0) := by
  unfold isCareful; rw [if_pos h, hm, if_pos h', Int.toNat_natCast]

end Go.Proofs.Ytikimfncpemmkaa
