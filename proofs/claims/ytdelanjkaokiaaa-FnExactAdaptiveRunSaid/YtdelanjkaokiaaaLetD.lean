/-
  The best letter for a set, on numbers alone: the first letter behind which the greatest depth is one less; it is the same for a table that has 1024 where there is no depth.
-/
import Derived.Test.YtdelanjkaokiaaaAdI
import Derived.Test.YtdelanjkaokiaaaPlace
namespace Go.Proofs.Ytdelanjkaokiaaa

theorem placeOf_same {v v' : Int} : ∀ {xs ys : List Int} {k : Nat}, xs.length = ys.length → (∀ (j : Nat) (x y : Int), xs[j]? = some x → ys[j]? = some y → (x = v ↔ y = v')) → placeOf xs v k = placeOf ys v' k
  | [], [], _, _, _ => rfl
  | [], _ :: _, _, h, _ => by simp at h
  | _ :: _, [], _, h, _ => by simp at h
  | x :: xs, y :: ys, k, h, hh => by
    have h0 := hh 0 x y rfl rfl
    have ih := placeOf_same (v := v) (v' := v') (xs := xs) (ys := ys) (k := k + 1) (by simpa using h) (fun j a b ha hb => hh (j + 1) a b (by simpa using ha) (by simpa using hb))
    unfold placeOf
    by_cases e : x = v
    · rw [if_pos e, if_pos (h0.1 e)]
    · rw [if_neg e, if_neg (fun k => e (h0.2 k)), ih]

theorem worstN_congr {f g : Nat → Int} {be : Nat → Nat} : ∀ k, (∀ v, v < k → g (be v) = f (be v)) → worstN g be k = worstN f be k
  | 0, _ => rfl
  | k + 1, h => by
    have ih := worstN_congr (f := f) (g := g) (be := be) k (fun v hv => h v (by omega))
    unfold worstN
    rw [ih, h k (by omega)]
theorem worstN_le {f : Nat → Int} {be : Nat → Nat} {K : Int} (hK : 0 ≤ K) : ∀ k, worstN f be k ≤ K ↔ ∀ v, v < k → f (be v) ≤ K := by
  intro k
  have h := worstN_lt (f := f) (be := be) (D := K + 1) (by omega) k
  constructor
  · intro h1 v hv
    have := h.1 (by omega) v hv
    omega
  · intro h1
    have := h.2 (fun v hv => by have := h1 v hv; omega)
    omega
theorem worst_iff {f g : Nat → Int} {be : Nat → Nat} {K : Int} (hK : K < 1024) (hK0 : 0 ≤ K) (hg : ∀ v, v < 4 → g (be v) = if 0 ≤ f (be v) then f (be v) else 1024) : worstN g be 4 = K ↔ worstS f be = K := by
  rcases Classical.em (∀ v, v < 4 → 0 ≤ f (be v)) with h | h
  · rw [worstS_all h, worstN_congr (f := f) (g := g) 4 (fun v hv => by rw [hg v hv, if_pos (h v hv)])]
  · obtain ⟨v, hv⟩ := Classical.not_forall.1 h
    obtain ⟨hv4, hv0⟩ := Classical.not_imp.1 hv
    rw [worstS_no hv4 (by omega)]
    constructor
    · intro h1
      have h2 := (worstN_le (f := g) (be := be) hK0 4).1 (by omega) v hv4
      rw [hg v hv4, if_neg hv0] at h2
      omega
    · intro h1; omega

/-- The place of the best letter for the set b. -/
def letZ (n : Nat) (xss : List (List Int)) (ls : List Int) (b : Nat) : Int :=
  placeOf (rowF xss.length (fun x => worstS (depF xss.length (belB n xss ls)) (belB n xss ls b x))) (depF xss.length (belB n xss ls) b - 1) 0
/-- Where a set has a depth that is not 0, there is a best letter, and what is believed behind it has a lesser depth. -/
theorem letZ_hit {n m : Nat} {xss : List (List Int)} {ls : List Int} {b : Nat} (_hg : GoodL n m xss ls) (hm : m = xss.length) (hd : 0 < depF m (belB n xss ls) b) :
    ∃ p, p < m ∧ letZ n xss ls b = (p : Int) ∧ worstS (depF m (belB n xss ls)) (belB n xss ls b p) = depF m (belB n xss ls) b - 1 ∧ (∀ j, j < p → ¬ worstS (depF m (belB n xss ls)) (belB n xss ls b j) = depF m (belB n xss ls) b - 1) ∧
      ∀ v, v < 4 → 0 ≤ depF m (belB n xss ls) (belB n xss ls b p v) ∧ depF m (belB n xss ls) (belB n xss ls b p v) < depF m (belB n xss ls) b := by
  obtain ⟨bel, hbel⟩ : ∃ bel, bel = belB n xss ls := ⟨_, rfl⟩
  unfold letZ
  rw [← hm, ← hbel]
  rw [← hbel] at hd
  obtain ⟨k, hk⟩ : ∃ k : Nat, depF m bel b = ((k + 1 : Nat) : Int) := ⟨(depF m bel b).toNat - 1, by omega⟩
  obtain ⟨⟨x, hx, hx1, vv, hv4, hv⟩, hx3⟩ := depN_letter (d := 1024) hk
  have hx1 : ∀ v, v < 4 → 0 ≤ depF m bel (bel b x v) ∧ depF m bel (bel b x v) ≤ (k : Int) := hx1
  have hv : depF m bel (bel b x vv) = (k : Int) := hv
  have hw : worstS (depF m bel) (bel b x) = depF m bel b - 1 := by
    have h0 := (lead_worst (f := depF m bel) (be := bel b x)).2 (fun v hv => (hx1 v hv).1)
    rw [worstS_all (fun v hv => (hx1 v hv).1)] at h0
    rw [worstS_all (fun v hv => (hx1 v hv).1), hk]
    have h1 := (worstN_le (f := depF m bel) (be := bel b x) (K := (k : Int)) (by omega) 4).2 (fun v hv => (hx1 v hv).2)
    have h2 := (worstN_le (f := depF m bel) (be := bel b x) (K := worstN (depF m bel) (bel b x) 4) h0 4).1 (Int.le_refl _) vv hv4
    push_cast
    omega
  obtain ⟨p, hp1, hp2, hp3, hp4⟩ := placeOf_le (xs := rowF m (fun x => worstS (depF m bel) (bel b x))) (v := depF m bel b - 1) (i := x) (k0 := 0) (by rw [rowF_at _ hx, hw])
  have hpm : p < m := by omega
  have hpw : worstS (depF m bel) (bel b p) = depF m bel b - 1 := by
    rw [rowF_at _ hpm] at hp2
    exact Option.some.inj hp2
  refine ⟨p, hpm, by rw [hp4, Nat.zero_add], hpw, fun j hj => ?_, ?_⟩
  · have := hp3 j hj
    rw [rowF_at _ (by omega)] at this
    exact fun e => this (by rw [e])
  · have h0 : 0 ≤ worstS (depF m bel) (bel b p) := by rw [hpw]; omega
    have h1 := lead_worst.1 h0
    rw [worstS_all h1] at hpw
    intro v hv
    refine ⟨h1 v hv, ?_⟩
    have h2 := (worstN_le (f := depF m bel) (be := bel b p) (K := depF m bel b - 1) (by omega) 4).1 (by omega) v hv
    omega
/-- The program's table has the same best letter. -/
theorem letZ_tab {n m : Nat} {xss : List (List Int)} {ls : List Int} {b : Nat} (hg : GoodL n m xss ls) (hm : m = xss.length) (hb : b < 2 ^ n) (hd : 0 < depF m (belB n xss ls) b) :
    placeOf (rowF m (fun x => worstN (tabF m (belB n xss ls) (2 ^ n) 1024) (belB n xss ls b x) 4)) (tabF m (belB n xss ls) (2 ^ n) 1024 b - 1) 0 = letZ n xss ls b := by
  unfold letZ
  rw [← hm]
  have hbl : ∀ b x v, b < 2 ^ n → x < m → v < 4 → belB n xss ls b x v < 2 ^ n := fun b x v _ hx _ => belB_lt hg b x v hx
  have hsm : depF m (belB n xss ls) b < 1024 := depN_small (pow_le hg.good.n10) hb hbl
  have hbv : tabF m (belB n xss ls) (2 ^ n) 1024 b = depF m (belB n xss ls) b := by
    unfold tabF depF at *
    rw [if_pos hb, if_pos (by omega)]
  rw [hbv]
  refine placeOf_same (by rw [rowF_len, rowF_len]) (fun j x y hx hy => ?_)
  have hjm : j < m := by
    have := List.getElem?_eq_some_iff.1 hx
    obtain ⟨h, _⟩ := this
    rw [rowF_len] at h; exact h
  rw [rowF_at _ hjm] at hx hy
  obtain rfl := Option.some.inj hx
  obtain rfl := Option.some.inj hy
  refine worst_iff (by omega) (by omega) (fun v hv => ?_)
  unfold tabF depF
  rw [if_pos (hbl b j v hb hjm hv)]

/-- What AdaptiveLetter answers. -/
def adaptiveLetter (s : Int) (xss : List (List Int)) (ls set : List Int) : Int × Int :=
  if checkCode s xss ls set = 0 then (if deepN s.toNat xss ls set = 0 then (0, 4) else (letZ s.toNat xss ls (setN set), 0)) else (0, checkCode s xss ls set)
theorem adaptiveLetter_no {s : Int} {xss : List (List Int)} {ls set : List Int} {C : Int} (h : checkCode s xss ls set = C) (hc : ¬ C = 0) : adaptiveLetter s xss ls set = (0, C) := by
  unfold adaptiveLetter; rw [h, if_neg hc]
theorem adaptiveLetter_4 {n : Nat} {xss : List (List Int)} {ls set : List Int} (h : checkCode (n : Int) xss ls set = 0) (hd : deepN n xss ls set = 0) : adaptiveLetter (n : Int) xss ls set = (0, 4) := by
  unfold adaptiveLetter; rw [if_pos h, Int.toNat_natCast, if_pos hd]
theorem adaptiveLetter_0 {n : Nat} {xss : List (List Int)} {ls set : List Int} (h : checkCode (n : Int) xss ls set = 0) (hd : ¬ deepN n xss ls set = 0) : adaptiveLetter (n : Int) xss ls set = (letZ n xss ls (setN set), 0) := by
  unfold adaptiveLetter; rw [if_pos h, Int.toNat_natCast, if_neg hd]
theorem check_1 {s : Int} {xss : List (List Int)} {ls set : List Int} (h : okL s xss ls = false) : checkCode s xss ls set = 1 := by unfold checkCode; rw [adaptiveDepth_1 h]
theorem check_2 {s : Int} {xss : List (List Int)} {ls set : List Int} (h : okL s xss ls = true) (h' : setB s set = false) : checkCode s xss ls set = 2 := by unfold checkCode; rw [adaptiveDepth_2 h h']
theorem check_6 {n : Nat} {xss : List (List Int)} {ls set : List Int} (h : okL (n : Int) xss ls = true) (h' : setB (n : Int) set = true) (hd : deepN n xss ls set < 0) : checkCode (n : Int) xss ls set = 6 := by unfold checkCode; rw [adaptiveDepth_6 h h' hd]
theorem check_0 {n : Nat} {xss : List (List Int)} {ls set : List Int} (h : okL (n : Int) xss ls = true) (h' : setB (n : Int) set = true) (hd : ¬ deepN n xss ls set < 0) : checkCode (n : Int) xss ls set = 0 := by unfold checkCode; rw [adaptiveDepth_0 h h' hd]

end Go.Proofs.Ytdelanjkaokiaaa
