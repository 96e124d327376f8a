/-
  An adaptive run, on numbers alone: its letters and its last state; the list of a valid set is that of its bits.
-/
import Derived.Test.YtdelanjkaokiaaaLetD
namespace Go.Proofs.Ytdelanjkaokiaaa
open Go.RowKit Go.Deep Go.ChangeShapes Go.WideShapes

theorem incr_lt {xs : List Int} (h : ∀ j, j + 1 < xs.length → xs.getD j 0 < xs.getD (j + 1) 0) : ∀ (d i : Nat), i + d + 1 < xs.length → xs.getD i 0 < xs.getD (i + d + 1) 0
  | 0, i, hi => h i hi
  | d + 1, i, hi => by
    have h1 := incr_lt h d i (by omega)
    have h2 := h (i + d + 1) (by omega)
    rw [show i + (d + 1) + 1 = i + d + 1 + 1 from by omega]
    omega
theorem listK_below {b c : Nat} : ∀ k, (∀ q, q < k → b.testBit q = c.testBit q) → listK b k = listK c k
  | 0, _ => rfl
  | k + 1, h => by
    rw [listK_succ, listK_succ, h k (by omega), listK_below k (fun q hq => h q (by omega))]
theorem listK_setI : ∀ (k : Nat) (xs : List Int), xs.length = k → (∀ x ∈ xs, 0 ≤ x ∧ x < 10) → (∀ j, j + 1 < xs.length → xs.getD j 0 < xs.getD (j + 1) 0) → listK (setN xs) 10 = xs
  | 0, xs, hl, _, _ => by rw [List.eq_nil_of_length_eq_zero hl]; decide
  | k + 1, xs, hl, hx, hi => by
    obtain ⟨ys, y, rfl⟩ : ∃ ys y, xs = ys ++ [y] := by
      rcases List.eq_nil_or_concat xs with h | ⟨ys, y, h⟩
      · subst h; simp at hl
      · exact ⟨ys, y, by rw [h, List.concat_eq_append]⟩
    have hyl : ys.length = k := by simpa using hl
    have hys : ∀ x ∈ ys, 0 ≤ x ∧ x < 10 := fun x h => hx x (List.mem_append_left _ h)
    have hgl : ∀ j, j < k → (ys ++ [y]).getD j 0 = ys.getD j 0 := fun j hj => by
      rw [List.getD_eq_getElem?_getD, List.getD_eq_getElem?_getD, List.getElem?_append_left (by omega)]
    have hgy : (ys ++ [y]).getD k 0 = y := by
      rw [List.getD_eq_getElem?_getD, List.getElem?_append_right (by omega)]
      simp [hyl]
    have ih := listK_setI k ys hyl hys (fun j hj => by
      have h1 := hi j (by simp; omega)
      rw [hgl j (by omega), hgl (j + 1) (by omega)] at h1
      exact h1)
    have hy := hx y (by simp)
    obtain ⟨t, rfl⟩ : ∃ t : Nat, y = (t : Int) := ⟨y.toNat, by omega⟩
    have hlt : ∀ z ∈ ys, z < (t : Int) := by
      intro z hz
      obtain ⟨i, hi1, hi2⟩ := List.mem_iff_getElem.1 hz
      have h1 := incr_lt hi (k - 1 - i) i (by simp; omega)
      rw [show i + (k - 1 - i) + 1 = k from by omega, hgy, hgl i (by omega), List.getD_eq_getElem?_getD, List.getElem?_eq_getElem hi1] at h1
      have h2 : ys[i] < (t : Int) := h1
      rw [hi2] at h2
      exact h2
    have hb : setN ys < 2 ^ t := by
      rcases Nat.lt_or_ge (setN ys) (2 ^ t) with h1 | h1
      · exact h1
      · exfalso
        obtain ⟨q, hq1, hq2⟩ := Nat.exists_ge_and_testBit_of_ge_two_pow h1
        have h2 := hlt _ ((setN_bit _ _ rfl (fun x h => (hys x h).1) q).1 hq2)
        omega
    rw [setN_snoc, Int.toNat_natCast]
    have hb2 : setN ys ||| 2 ^ t < 2 ^ (t + 1) := Nat.or_lt_two_pow (Nat.lt_trans hb (Nat.pow_lt_pow_right (by decide) (by omega))) (Nat.pow_lt_pow_right (by decide) (by omega))
    rw [listK_stop hb2 10 (by omega), listK_succ, if_pos (by rw [Nat.testBit_or, Nat.testBit_two_pow_self]; simp)]
    congr 1
    rw [listK_below (b := setN ys ||| 2 ^ t) (c := setN ys) t (fun q hq => by
      rw [Nat.testBit_or, Nat.testBit_two_pow]
      have : decide (t = q) = false := by simp; omega
      rw [this, Bool.or_false]), ← listK_stop hb 10 (by omega)]
    exact ih
theorem set_list {n : Nat} {xs : List Int} (h : setB (n : Int) xs = true) (hn : n ≤ 10) : listK (setN xs) 10 = xs := by
  refine listK_setI _ xs rfl (fun x hx => by have := setB_mem h x hx; omega) (fun j hj => ?_)
  have h1 := List.all_eq_true.1 h (j + 1) (List.mem_range.2 hj)
  simp only [setAt, Bool.and_eq_true, Bool.or_eq_true, decide_eq_true_eq, Nat.add_sub_cancel] at h1
  omega

/-- The letters of a run from the state s of the set b, and its last state. -/
def runA (n : Nat) (xss : List (List Int)) (ls : List Int) : Nat → Nat → Nat → List Int × Int
  | 0, _, s => ([], (s : Int))
  | k + 1, b, s => if Lib.onesCount b ≤ 1 then ([], (s : Int)) else
    (letZ n xss ls b :: (runA n xss ls k (belB n xss ls b (letZ n xss ls b).toNat (ls.getD (nx xss (letZ n xss ls b).toNat s) 0).toNat) (nx xss (letZ n xss ls b).toNat s)).1,
      (runA n xss ls k (belB n xss ls b (letZ n xss ls b).toNat (ls.getD (nx xss (letZ n xss ls b).toNat s) 0).toNat) (nx xss (letZ n xss ls b).toNat s)).2)
theorem runA_len (n : Nat) (xss : List (List Int)) (ls : List Int) : ∀ k b s, (runA n xss ls k b s).1.length ≤ k
  | 0, _, _ => Nat.le_refl _
  | k + 1, b, s => by
    unfold runA
    split
    · exact Nat.zero_le _
    · have := runA_len n xss ls k (belB n xss ls b (letZ n xss ls b).toNat (ls.getD (nx xss (letZ n xss ls b).toNat s) 0).toNat) (nx xss (letZ n xss ls b).toNat s)
      simp only [List.length_cons]
      omega
theorem runA_end {n : Nat} {xss : List (List Int)} {ls : List Int} {k b s : Nat} (h : Lib.onesCount b ≤ 1) : runA n xss ls k b s = ([], (s : Int)) := by
  rcases k with _ | k
  · rfl
  · unfold runA; rw [if_pos h]

/-- The middle of a run: the letters os have been taken, the set b and the state s are reached, and at most k letters follow. -/
structure RunAt (n m : Nat) (xss : List (List Int)) (ls : List Int) (L : List Int) (S : Int) (os : List Int) (b s k : Nat) : Prop where
  letters : os ++ (runA n xss ls k b s).1 = L
  last : (runA n xss ls k b s).2 = S
  known : 0 ≤ depF m (belB n xss ls) b
  least : depF m (belB n xss ls) b ≤ (k : Int)
  bits : b < 2 ^ n
  state : s < n
  room : os.length + k ≤ 1024
theorem RunAt.start {n m : Nat} {xss : List (List Int)} {ls : List Int} {b s : Nat} (hd : 0 ≤ depF m (belB n xss ls) b) (hb : b < 2 ^ n) (hs : s < n) :
    RunAt n m xss ls (runA n xss ls 1024 b s).1 (runA n xss ls 1024 b s).2 [] b s 1024 :=
  ⟨List.nil_append _, rfl, hd, depN_le 1024 b, hb, hs, Nat.le_refl _⟩
theorem RunAt.done {n m : Nat} {xss : List (List Int)} {ls L os : List Int} {S : Int} {b s k : Nat} (h : RunAt n m xss ls L S os b s k) (hb : Lib.onesCount b ≤ 1) : os = L ∧ (s : Int) = S := by
  have h1 := h.letters
  have h2 := h.last
  rw [runA_end hb] at h1 h2
  exact ⟨by simpa using h1, h2⟩
theorem RunAt.next {n m : Nat} {xss : List (List Int)} {ls L os : List Int} {S : Int} {b s k : Nat} (hg : GoodL n m xss ls) (hm : m = xss.length) (h : RunAt n m xss ls L S os b s k) (hb : ¬ Lib.onesCount b ≤ 1) :
    0 < depF m (belB n xss ls) b ∧ ∃ p v j : Nat, k = j + 1 ∧ p < m ∧ letZ n xss ls b = (p : Int) ∧ nx xss p s < n ∧ v < 4 ∧ ls[nx xss p s]? = some (v : Int) ∧ RunAt n m xss ls L S (os ++ [(p : Int)]) (belB n xss ls b p v) (nx xss p s) j := by
  have hne := depN_pos (m := m) (bel := belB n xss ls) hb 1024
  have hk0 := h.known
  have hpos : 0 < depF m (belB n xss ls) b := by
    unfold depF at hk0 ⊢
    omega
  obtain ⟨p, hp, hz, _, _, hv⟩ := letZ_hit hg hm hpos
  have hle := h.least
  obtain ⟨j, rfl⟩ : ∃ j, k = j + 1 := ⟨k - 1, by omega⟩
  have hs := h.state
  have hnx : nx xss p s < n := hg.good.to [(p : Int)] s (fun z hz => by rw [List.mem_singleton.1 hz]; omega) hs
  obtain ⟨y, hy⟩ : ∃ y, ls[nx xss p s]? = some y := ⟨_, List.getElem?_eq_getElem (by rw [hg.len]; exact hnx)⟩
  have hyb := hg.lamp _ y hy
  obtain ⟨v, rfl⟩ : ∃ v : Nat, y = (v : Int) := ⟨y.toNat, by omega⟩
  have hv4 : v < 4 := by omega
  have hd := hv v hv4
  have hu : runA n xss ls (j + 1) b s = ((p : Int) :: (runA n xss ls j (belB n xss ls b p v) (nx xss p s)).1, (runA n xss ls j (belB n xss ls b p v) (nx xss p s)).2) := by
    have e : (ls.getD (nx xss p s) 0).toNat = v := by rw [List.getD_eq_getElem?_getD, hy]; simp
    rw [runA, if_neg hb, hz, Int.toNat_natCast, e]
  refine ⟨hpos, p, v, j, rfl, hp, hz, hnx, hv4, hy, ?_, ?_, hd.1, by omega, belB_lt hg b p v hp, hnx, by have := h.room; simp; omega⟩
  · have h1 := h.letters
    rw [hu] at h1
    rw [← h1]; simp
  · have h1 := h.last
    rw [hu] at h1
    exact h1

/-- What AdaptiveRun answers. -/
def adaptiveRun (s : Int) (xss : List (List Int)) (ls set : List Int) (x : Int) : List Int × Int × Int :=
  if okL s xss ls = true then (if (setB s set && hasB set x) = true then (if deepN s.toNat xss ls set < 0 then ([], 0, 6) else ((runA s.toNat xss ls 1024 (setN set) x.toNat).1, (runA s.toNat xss ls 1024 (setN set) x.toNat).2, 0)) else ([], 0, 2)) else ([], 0, 1)
theorem adaptiveRun_1 {s : Int} {xss : List (List Int)} {ls set : List Int} {x : Int} (h : okL s xss ls = false) : adaptiveRun s xss ls set x = ([], 0, 1) := by unfold adaptiveRun; rw [if_neg (by simp [h])]
theorem adaptiveRun_2 {s : Int} {xss : List (List Int)} {ls set : List Int} {x : Int} (h : okL s xss ls = true) (h' : setB s set = false) : adaptiveRun s xss ls set x = ([], 0, 2) := by unfold adaptiveRun; rw [if_pos h, if_neg (by simp [h'])]
theorem adaptiveRun_3 {s : Int} {xss : List (List Int)} {ls set : List Int} {x : Int} (h : okL s xss ls = true) (h' : hasB set x = false) : adaptiveRun s xss ls set x = ([], 0, 2) := by unfold adaptiveRun; rw [if_pos h, if_neg (by simp [h'])]
theorem adaptiveRun_6 {n : Nat} {xss : List (List Int)} {ls set : List Int} {x : Int} (h : okL (n : Int) xss ls = true) (h1 : setB (n : Int) set = true) (h2 : hasB set x = true) (hd : deepN n xss ls set < 0) : adaptiveRun (n : Int) xss ls set x = ([], 0, 6) := by
  unfold adaptiveRun; rw [if_pos h, h1, h2, if_pos (by rfl), Int.toNat_natCast, if_pos hd]
theorem adaptiveRun_0 {n s : Nat} {xss : List (List Int)} {ls set : List Int} (h : okL (n : Int) xss ls = true) (h1 : setB (n : Int) set = true) (h2 : hasB set (s : Int) = true) (hd : ¬ deepN n xss ls set < 0) :
    adaptiveRun (n : Int) xss ls set (s : Int) = ((runA n xss ls 1024 (setN set) s).1, (runA n xss ls 1024 (setN set) s).2, 0) := by
  unfold adaptiveRun; rw [if_pos h, h1, h2, if_pos (by rfl), Int.toNat_natCast, Int.toNat_natCast, if_neg hd]
theorem adaptiveRun_at {n m s : Nat} {xss : List (List Int)} {ls set : List Int} (h : okL (n : Int) xss ls = true) (hm : xss.length = m) (h1 : setB (n : Int) set = true) (h2 : hasB set (s : Int) = true) (hd : ¬ deepN n xss ls set < 0) (hs : s < n) :
    ∃ L T k, adaptiveRun (n : Int) xss ls set (s : Int) = (L, T, 0) ∧ RunAt n m xss ls L T [] (setN set) s k := by
  refine ⟨_, _, 1024, adaptiveRun_0 h h1 h2 hd, RunAt.start ?_ (setN_ltN h1) hs⟩
  unfold deepN at hd
  rw [hm] at hd
  omega
theorem adaptiveRun_len (s : Int) (xss : List (List Int)) (ls set : List Int) (x : Int) : (adaptiveRun s xss ls set x).1.length ≤ 1024 := by
  have h := runA_len s.toNat xss ls 1024 (setN set) x.toNat
  unfold adaptiveRun
  generalize runA s.toNat xss ls 1024 (setN set) x.toNat = Q at h ⊢
  by_cases h1 : okL s xss ls = true
  · rw [if_pos h1]
    by_cases h2 : (setB s set && hasB set x) = true
    · rw [if_pos h2]
      by_cases h3 : deepN s.toNat xss ls set < 0
      · rw [if_pos h3]; exact Nat.zero_le _
      · rw [if_neg h3]; exact h
    · rw [if_neg h2]; exact Nat.zero_le _
  · rw [if_neg h1]; exact Nat.zero_le _
/-- A function that answers a list, a number and a code. -/
def Lists3To (r : List Int × Int × Int) (w : World) (e : Ending) (w' : World) : Prop :=
  ∃ v, e = .returned (.tuple #[v, .int .i64 r.2.1, .int .i64 r.2.2]) ∧ w'.ownsRow w.heap.size 2 1 v r.1.length (r.1.map (Value.int .i64)) ∧ Below w.heap.size w w'
theorem lists3To_mk {r : List Int × Int × Int} {w w' : World} {xs : List Int} {v : Value} {x c : Int} (h : r = (xs, x, c)) (ho : w'.ownsRow w.heap.size 2 1 v xs.length (xs.map (Value.int .i64))) (hb : Below w.heap.size w w') :
    Lists3To r w (.returned (.tuple #[v, .int .i64 x, .int .i64 c])) w' := by subst h; exact ⟨v, rfl, ho, hb⟩
theorem hasB_in {n : Nat} {set : List Int} {x : Int} (h : setB (n : Int) set = true) (hx : hasB set x = true) : 0 ≤ x ∧ x < (n : Int) := by
  unfold hasB at hx
  obtain ⟨y, hy, he⟩ := List.any_eq_true.1 hx
  have := setB_mem h y hy
  have := of_decide_eq_true he
  omega

end Go.Proofs.Ytdelanjkaokiaaa
