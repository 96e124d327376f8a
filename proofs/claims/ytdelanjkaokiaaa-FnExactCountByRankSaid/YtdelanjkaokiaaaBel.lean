/-
  What is believed behind a letter and a lamp: the contracts of both Believed.
-/
import Derived.Test.YtdelanjkaokiaaaWith
import Derived.Test.YtdelanjkaokiaaaLst
namespace Go.Proofs.Ytdelanjkaokiaaa
open Go.RowKit Go.Deep Go.ChangeShapes Go.WideShapes

theorem setB_geB {s : Int} {xs : List Int} (h : setB s xs = true) : ∀ k, k < xs.length → (k : Int) ≤ xs.getD k 0 ∧ xs.getD k 0 < s
  | 0, hk => by
    have h1 := List.all_eq_true.1 h 0 (List.mem_range.2 hk)
    simp only [setAt, belowB, Bool.and_eq_true, decide_eq_true_eq] at h1
    omega
  | k + 1, hk => by
    have h0 := setB_geB h k (by omega)
    have h1 := List.all_eq_true.1 h (k + 1) (List.mem_range.2 hk)
    simp only [setAt, belowB, Bool.and_eq_true, Bool.or_eq_true, decide_eq_true_eq, Nat.add_sub_cancel] at h1
    omega
theorem setB_len10 {n : Nat} {xs : List Int} (h : setB (n : Int) xs = true) : xs.length ≤ n := by
  rcases Nat.eq_zero_or_pos xs.length with h0 | h0
  · omega
  · have := setB_geB h (xs.length - 1) (by omega)
    omega
/-- The bits of the set that is believed for the letter x and the lamp v. -/
def belB (n : Nat) (xss : List (List Int)) (ls : List Int) (b x v : Nat) : Nat := lampB (aftB b (xss.getD x []) n) ls v n

theorem withL_setL (ls : List Int) (v : Int) (f : Nat → Bool) (k : Nat) : withL ls v (setL f k) = setL (fun q => f q && decide (ls.getD q 0 = v)) k := by
  induction k with
  | zero => rfl
  | succ k ih =>
    rcases hf : f k with _ | _
    · rw [setL_f hf, ih, setL_f (f := fun q => f q && decide (ls.getD q 0 = v)) (by simp [hf])]
    · rw [setL_t hf, withL_snoc, ih, Int.toNat_natCast]
      by_cases hv : ls.getD k 0 = v
      · rw [if_pos hv, setL_t (f := fun q => f q && decide (ls.getD q 0 = v)) (by rw [hf, decide_eq_true hv]; rfl)]
      · rw [if_neg hv, setL_f (f := fun q => f q && decide (ls.getD q 0 = v)) (by rw [hf, decide_eq_false hv]; rfl)]
theorem setL_congr {f g : Nat → Bool} : ∀ k, (∀ q, q < k → f q = g q) → setL f k = setL g k
  | 0, _ => rfl
  | k + 1, h => by
    have ih := setL_congr k (fun q hq => h q (by omega))
    have hk := h k (by omega)
    rcases hf : f k with _ | _
    · rw [setL_f hf, setL_f (by rw [← hk]; exact hf), ih]
    · rw [setL_t hf, setL_t (by rw [← hk]; exact hf), ih]
theorem belB_listM {n m : Nat} {xss : List (List Int)} {ls set : List Int} {x v : Nat} (hg : GoodL n m xss ls) (hmem : ∀ y ∈ set, 0 ≤ y ∧ y < (n : Int)) (hx : x < m) : withL ls (v : Int) (imageL xss set [(x : Int)]) = listK (belB n xss ls (setN set) x v) 10 := by
  unfold imageL
  rw [withL_setL]
  show _ = setL (bitF _) 10
  refine setL_congr 10 (fun q _ => ?_)
  show (imM xss set [(x : Int)] set.length q && decide (ls.getD q 0 = (v : Int))) = (belB n xss ls (setN set) x v).testBit q
  unfold belB
  rw [lampB_bit, aftB_bit]
  have e1 : imM xss set [(x : Int)] set.length q = (decide (q < n) && (List.range n).any fun j => (setN set).testBit j && decide (((xss.getD x []).getD j 0).toNat = q)) := by
    rw [Bool.eq_iff_iff, Bool.and_eq_true, decide_eq_true_eq, List.any_eq_true]
    unfold imM
    rw [List.take_length, List.any_eq_true]
    constructor
    · rintro ⟨y, hy, he⟩
      have hy' := hmem y hy
      have he' := of_decide_eq_true he
      have hq : toS xss [(x : Int)] y.toNat < n := hg.good.to _ _ (fun z hz => by rw [List.mem_singleton.1 hz]; omega) (by omega)
      refine ⟨by omega, y.toNat, List.mem_range.2 (by omega), ?_⟩
      rw [Bool.and_eq_true, decide_eq_true_eq]
      refine ⟨(setN_bit _ _ rfl (fun z hz => (hmem z hz).1) _).2 (by rw [show ((y.toNat : Nat) : Int) = y from by omega]; exact hy), ?_⟩
      rw [← he']
      simp [toS, nx]
    · rintro ⟨_, j, hj, he⟩
      rw [Bool.and_eq_true, decide_eq_true_eq] at he
      refine ⟨(j : Int), (setN_bit _ _ rfl (fun z hz => (hmem z hz).1) _).1 he.1, ?_⟩
      rw [decide_eq_true_eq, Int.toNat_natCast, ← he.2]
      simp [toS, nx]
  rw [e1]
  rw [Bool.and_assoc]

theorem belB_list {n m : Nat} {xss : List (List Int)} {ls set : List Int} {x v : Nat} (hg : GoodL n m xss ls) (hs : setB (n : Int) set = true) (hx : x < m) : withL ls (v : Int) (imageL xss set [(x : Int)]) = listK (belB n xss ls (setN set) x v) 10 :=
  belB_listM hg (setB_mem hs) hx

/-- What Believed answers. -/
def believed (s : Int) (xss : List (List Int)) (ls set : List Int) (x v : Int) : List Int × Int :=
  if okL s xss ls = true then (if (setB s set && (belowB (xss.length : Int) x && belowB 4 v)) = true then (listK (belB s.toNat xss ls (setN set) x.toNat v.toNat) 10, 0) else ([], 2)) else ([], 1)
theorem believed_1 {s : Int} {xss : List (List Int)} {ls set : List Int} {x v : Int} (h : okL s xss ls = false) : believed s xss ls set x v = ([], 1) := by unfold believed; rw [if_neg (by simp [h])]
theorem believed_2 {s : Int} {xss : List (List Int)} {ls set : List Int} {x v : Int} (h : okL s xss ls = true) (h' : setB s set = false) : believed s xss ls set x v = ([], 2) := by unfold believed; rw [if_pos h, if_neg (by simp [h'])]
theorem believed_3 {s : Int} {m : Nat} {xss : List (List Int)} {ls set : List Int} {x v : Int} (h : okL s xss ls = true) (hm : xss.length = m) (h' : belowB (m : Int) x = false) : believed s xss ls set x v = ([], 2) := by unfold believed; rw [if_pos h, hm, if_neg (by simp [h'])]
theorem believed_4 {s : Int} {xss : List (List Int)} {ls set : List Int} {x v : Int} (h : okL s xss ls = true) (h' : belowB 4 v = false) : believed s xss ls set x v = ([], 2) := by unfold believed; rw [if_pos h, if_neg (by simp [h'])]
theorem believed_0 {n m x v : Nat} {xss : List (List Int)} {ls set : List Int} (h : okL (n : Int) xss ls = true) (hm : xss.length = m) (hs : setB (n : Int) set = true) (hx : belowB (m : Int) (x : Int) = true) (hv : belowB 4 (v : Int) = true) : believed (n : Int) xss ls set (x : Int) (v : Int) = (listK (belB n xss ls (setN set) x v) 10, 0) := by
  unfold believed; rw [if_pos h, hm, if_pos (by simp [hs, hx, hv]), Int.toNat_natCast, Int.toNat_natCast, Int.toNat_natCast]
theorem believed_len (s : Int) (xss : List (List Int)) (ls set : List Int) (x v : Int) : (believed s xss ls set x v).1.length ≤ 10 := by
  unfold believed
  split
  · split
    · exact setL_len _ _
    · simp
  · simp


theorem run_index_lamp (M : Array Value) (k P : Nat) (w : World) (hk : k < 4) (hM : M[k]? = some (.int .u16 (P : Int))) :
    Sem.run Try.prog (Instr.index 87 (.agg M) (.int .i64 (k : Int))) w = .ok (.int .u16 (P : Int)) w := by
  have hu : Try.prog.underlying 87 = some (.array 4 80) := Try.underlying87
  have h1 : (0 : Int) ≤ (k : Int) := by omega
  simp [Instr.index, run_underlying hu, asIntOf, h1, hk, hM, go_sem]

end Go.Proofs.Ytdelanjkaokiaaa
