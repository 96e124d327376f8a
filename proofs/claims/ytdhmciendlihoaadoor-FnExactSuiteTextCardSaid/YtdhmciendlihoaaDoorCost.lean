/-
  The cost of a suite: the contracts of l07Text (whether there is a text) and of both SuiteCost.
-/
import Derived.Test.YtdhmciendlihoaaDoorSuit
import Derived.Test.YtdhmciendlihoaaDoorWText
import Derived.Lib.Bytes
namespace Go.Proofs.YtdhmciendlihoaaDoor
open Go.RowKit Go.Deep Go.ChangeShapes Go.WideShapes

theorem wtext_empty {ws : List Int} : wtext ws = [] ↔ isWordB 3 ws = false := by
  unfold wtext isWordB
  by_cases h : ws.length ≤ 400 ∧ ws.all (belowB 3) = true
  · rw [if_pos h]
    simp only [h.1, h.2, decide_true, Bool.and_self, Bool.true_eq_false, iff_false]
    split
    · simp
    · rename_i h0
      simpa [letters] using h0
  · rw [if_neg h]
    simp only [true_iff]
    rw [Bool.and_eq_false_iff]
    by_cases h1 : ws.length ≤ 400
    · exact .inr (by simpa [h1] using h)
    · exact .inl (by simp; omega)
theorem sumLens_cons (x : List Int) (xs : List (List Int)) : sumLens (x :: xs) = x.length + sumLens xs := by simp [sumLens]
theorem sumLens_le {k : Nat} : ∀ {xss : List (List Int)}, (∀ x ∈ xss, x.length ≤ k) → sumLens xss ≤ k * xss.length
  | [], _ => by simp [sumLens]
  | x :: xs, h => by
    have h1 := h x (List.mem_cons_self ..)
    have h2 := sumLens_le (xss := xs) (fun y hy => h y (List.mem_cons_of_mem _ hy))
    rw [sumLens_cons, List.length_cons, Nat.mul_add, Nat.mul_one]
    omega
theorem isSuiteB_sum {m : Int} {wss : List (List Int)} (h : isSuiteB m wss = true) : sumLens wss ≤ 160000 := by
  have h1 := isSuiteB_len h
  have h2 := sumLens_le (k := 400) (xss := wss) (fun x hx => by
    obtain ⟨r, hr⟩ := List.getElem?_of_mem hx
    have := isSuiteB_at h hr
    simp only [isWordB, Bool.and_eq_true, decide_eq_true_eq] at this
    exact this.1)
  have := Nat.mul_le_mul_left 400 h1
  omega

theorem strOfNums_app (a b : List Int) : strOfNums (a ++ b) = strOfNums a ++ strOfNums b := by
  apply ByteArray.ext
  simp [strOfNums]
theorem wtext_len (ws : List Int) : (wtext ws).length ≤ 400 := by
  unfold wtext
  split
  · split
    · simp
    · rename_i h _
      simp only [letters, List.length_map]
      exact h.1
  · simp
/-- The text of a suite, as numbers of bytes. -/
def textS : List (List Int) → List Int
  | [] => []
  | ws :: wss => wtext ws ++ [10] ++ textS wss
theorem textS_snoc : ∀ (wss : List (List Int)) (ws : List Int), textS (wss ++ [ws]) = textS wss ++ (wtext ws ++ [10])
  | [], ws => by simp [textS]
  | w :: wss, ws => by
    show wtext w ++ [10] ++ textS (wss ++ [ws]) = _
    rw [textS_snoc wss ws]
    simp [textS]
theorem textS_take {wss : List (List Int)} {k : Nat} {ws : List Int} (h : wss[k]? = some ws) : textS (wss.take (k + 1)) = textS (wss.take k) ++ (wtext ws ++ [10]) := by rw [take_snoc h, textS_snoc]
theorem textS_len : ∀ (wss : List (List Int)), (textS wss).length ≤ 401 * wss.length
  | [] => by simp [textS]
  | w :: wss => by
    have h1 := textS_len wss
    have h2 := wtext_len w
    simp only [textS, List.length_append, List.length_cons, List.length_nil, Nat.mul_add]
    omega
theorem empty_no {xs : List Int} (h : ¬ xs = []) : (strOfNums xs).toList.isEmpty = false := by
  cases xs with
  | nil => exact absurd rfl h
  | cons a t =>
    rw [Lib.strOfNums_toList]
    rfl

set_option maxRecDepth 100000 in
set_option maxHeartbeats 2000000 in
theorem l07Text_any (A' : Option Addr) (l cap' : Nat) (wss : List (List Int)) (w : World) (h : RowsAt w A' l wss) (hl : l ≤ 4611686018427387904) (hrows : ∀ (r : Nat) (xs : List Int), wss[r]? = some xs → xs.length ≤ 4611686018427387904) :
    Calls Tryd.prog 36 #[.slice A' l cap'] w fun e w' => ((isSuiteB 3 wss = true ∧ e = .returned (.tuple #[.string (strOfNums (textS wss)), .bool true])) ∨ (isSuiteB 3 wss = false ∧ e = .returned (.tuple #[.string ByteArray.empty, .bool false]))) ∧ Below w.heap.size w w' := by
  have HR := Lib.hid hrows
  have HL := Lib.hid h.1
  have HX := Lib.hid h
  clear hrows h
  go_enter Tryd.func36, Tryd.ntmps36
  go_wp2_with fail
  go_loopw [4, 5] (fun sv i wr => ∃ (k : Nat) (T : ByteArray), k ≤ l ∧ k ≤ 400 ∧ i = .int .i64 k ∧ sv = .string T ∧ T = strOfNums (textS (wss.take k)) ∧ Below w.heap.size w wr ∧ (wss.take k).all (isWordB 3) = true) (fun _ i _ => l - (intOf i).toNat)
  case atStart => exact ⟨0, ByteArray.empty, Nat.zero_le _, Nat.zero_le _, rfl, rfl, rfl, Below.refl _ _, by simp⟩
  case round =>
    obtain ⟨k, T, hk, hk4, rfl, rfl, hT, hbel, hall⟩ := hrel
    have HW := Lib.hid hbel
    have HA := Lib.hid hall
    have hTs : T.size ≤ 401 * 400 := by
      rw [hT, strOfNums_size]
      have := textS_len (wss.take k)
      rw [List.length_take] at this
      omega
    have HT := Lib.hid hT
    have h1 := HX.out.below hbel
    clear hbel hall hT
    by_cases hlt : k < l
    · obtain ⟨ws, b, off, A1, a1, hx, rfl, hc1, hnum1⟩ := h1.at_ hlt
      have HXX := Lib.hid hx
      have HN := Lib.hid hnum1
      have hlw := HR.out _ _ hx
      have hk0 : (0 : Int) ≤ (k : Int) := by omega
      have hkl : (k : Int) < (l : Int) := by omega
      clear hx hnum1 h1
      go_wp2_with fail
      refine (specWordText_any A1 ws.length a1 ws wr HN.out hlw).mono ?_
      rintro e w2 ⟨rfl, b2⟩
      have HW2 := Lib.hid (below_then HW.out b2)
      clear b2
      rcases hwd : isWordB 3 ws with _ | _
      · have e0 : strOfNums (wtext ws) = ByteArray.empty := by rw [wtext_empty.2 hwd]; rfl
        rw [e0]
        go_wp2_with fail
        go_ret2
        exact ⟨.inr ⟨isSuiteB_g (allS_stop HXX.out hwd), rfl⟩, HW2.out⟩
      · have hne := empty_no (xs := wtext ws) (by rw [wtext_empty, hwd]; simp)
        obtain ⟨S, hS⟩ : ∃ S, S = strOfNums (wtext ws) := ⟨_, rfl⟩
        rw [← hS] at hne ⊢
        have hSs : S.size ≤ 400 := by rw [hS, strOfNums_size]; exact wtext_len ws
        have HS := Lib.hid hS
        clear hS
        by_cases h4 : k = 400
        · subst h4
          go_wp2_with fail
          go_ret2
          exact ⟨.inr ⟨isSuiteB_f (by have := HL.out; omega), rfl⟩, HW2.out⟩
        · have h4' : ((k : Int) == 400) = false := by rw [beq_eq_false_iff_ne]; omega
          have g1 : ¬ 9223372036854775807 < S.size + 1 := by omega
          have g2 : ¬ 9223372036854775807 < T.size + (S.size + 1) := by omega
          go_wp2_with fail
          go_roundw
          case rel =>
            refine ⟨k + 1, T ++ (S ++ { data := #[10] }), by omega, by omega, by go_num, rfl, ?_, HW2.out, allR_snoc HA.out HXX.out hwd⟩
            rw [textS_take HXX.out, strOfNums_app, strOfNums_app, HT.out, HS.out]
            rfl
          case measure => simp [intOf]; omega
    · clear h1
      go_wp2_with fail
      go_ret2
      have hkl : k = l := by omega
      subst hkl
      have ht := HT.out
      rw [List.take_of_length_le (Nat.le_of_eq HL.out)] at ht
      subst ht
      exact ⟨.inl ⟨isSuiteB_t (by rw [HL.out]; exact hk4) (allR_done HL.out HA.out), rfl⟩, HW.out⟩

/-- What SuiteCost answers. -/
def suiteCost (wss : List (List Int)) : Int × Int := if isSuiteB 3 wss = true then ((wss.length : Int) + (sumLens wss : Int), 0) else (0, 2)
theorem suiteCost_2 {wss : List (List Int)} (h : isSuiteB 3 wss = false) : suiteCost wss = (0, 2) := by simp [suiteCost, h]
theorem suiteCost_0 {wss : List (List Int)} (h : isSuiteB 3 wss = true) : suiteCost wss = ((wss.length : Int) + (sumLens wss : Int), 0) := by simp [suiteCost, h]
theorem two_cost {r : Int × Int} {b c : Int} (h : r = (b, c)) : Ending.returned (.tuple #[.int .i64 b, .int .i64 c]) = .returned (.tuple #[.int .i64 r.1, .int .i64 r.2]) := by rw [h]

set_option maxRecDepth 100000 in
set_option maxHeartbeats 2000000 in
theorem specSuiteCost_any (A' : Option Addr) (l cap' : Nat) (wss : List (List Int)) (w : World) (h : RowsAt w A' l wss) (hl : l ≤ 4611686018427387904) (hrows : ∀ (r : Nat) (xs : List Int), wss[r]? = some xs → xs.length ≤ 4611686018427387904) :
    Calls Tryd.prog 19 #[.slice A' l cap'] w fun e w' => e = .returned (.tuple #[.int .i64 (suiteCost wss).1, .int .i64 (suiteCost wss).2]) ∧ Below w.heap.size w w' := by
  have HR := Lib.hid hrows
  have HL := Lib.hid h.1
  have HX := Lib.hid h
  clear hrows h
  go_enter Tryd.func19, Tryd.ntmps19
  go_wp2_with fail
  refine (l07Text_any A' l cap' wss w HX.out hl HR.out).mono ?_
  rintro e w1 ⟨⟨hs, rfl⟩ | ⟨hs, rfl⟩, b1⟩
  · have W1 := Lib.hid b1
    have HS := Lib.hid hs
    have hl4 : l ≤ 400 := by have h1 := isSuiteB_len hs; have := HL.out; omega
    have HSUM := Lib.hid (isSuiteB_sum hs)
    clear b1 hs
    go_wp2_with fail
    go_loopw [6, 7] (fun sv i wr => ∃ k : Nat, k ≤ l ∧ i = .int .i64 k ∧ sv = .int .i64 ((l : Int) + (sumLens (wss.take k) : Int)) ∧ wr = w1) (fun _ i _ => l - (intOf i).toNat)
    case atStart => exact ⟨0, Nat.zero_le _, rfl, by simp [sumLens], rfl⟩
    case round =>
      obtain ⟨k, hk, rfl, rfl, rfl⟩ := hrel
      by_cases hlt : k < l
      · obtain ⟨ws, b, off, A1, a1, hx, rfl, hc1, hnum1⟩ := (HX.out.below W1.out).at_ hlt
        have HXX := Lib.hid hx
        have hk0 : (0 : Int) ≤ (k : Int) := by omega
        have hkl : (k : Int) < (l : Int) := by omega
        have hsum := sumLens_snoc hx
        have hsum2 := sumLens_take wss (k + 1)
        have hs3 := HSUM.out
        have HQ := Lib.hid hsum
        obtain ⟨M, hM⟩ : ∃ M, M = sumLens (wss.take k) := ⟨_, rfl⟩
        rw [← hM] at hsum ⊢
        have hb : (l : Int) + (M : Int) + (ws.length : Int) ≤ 4611686018427387904 := by omega
        have hw : IntKind.i64.wrap ((l : Int) + (M : Int) + (ws.length : Int)) = (l : Int) + (M : Int) + (ws.length : Int) := IntWalk.i64_in _ (by omega)
        have HM := Lib.hid hM
        clear hx hnum1 hsum hsum2 hs3 hM
        go_wp2_with fail
        go_roundw
        case rel => exact ⟨k + 1, by omega, by go_num, by rw [HQ.out, ← HM.out]; go_num, by first | rfl | trivial⟩
        case measure => simp [intOf]; omega
      · go_wp2_with fail
        go_ret2
        have hkl : k = l := by omega
        subst hkl
        rw [List.take_of_length_le (Nat.le_of_eq HL.out)]
        exact ⟨two_cost (by rw [suiteCost_0 HS.out, HL.out]), W1.out⟩
  · go_wp2_with fail
    go_ret2
    exact ⟨two_cost (suiteCost_2 hs), b1⟩

set_option maxRecDepth 100000 in
set_option maxHeartbeats 2000000 in
theorem implSuiteCost_any (A' : Option Addr) (l cap' : Nat) (wss : List (List Int)) (w : World) (hH : HandleAt w) (h : RowsAt w A' l wss) (hl : l ≤ 4611686018427387904) (hrows : ∀ (r : Nat) (xs : List Int), wss[r]? = some xs → xs.length ≤ 4611686018427387904) :
    Calls Tryd.prog 20 #[.slice A' l cap'] w fun e w' => e = .returned (.tuple #[.int .i64 (suiteCost wss).1, .int .i64 (suiteCost wss).2]) ∧ Below w.heap.size w w' := by
  have HR := Lib.hid hrows
  have HL := Lib.hid h.1
  have HX := Lib.hid h
  clear hrows h
  go_enter Tryd.func20, Tryd.ntmps20
  go_wp2_with fail
  refine (isSuite_any 3 A' l cap' wss w hH HX.out (by omega) hl HR.out).mono ?_
  rintro e w1 ⟨rfl, b1⟩
  rcases hs : isSuiteB ((3 : Nat) : Int) wss with _ | _
  · go_wp2_with fail
    go_ret2
    exact ⟨two_cost (suiteCost_2 hs), b1⟩
  · have W1 := Lib.hid b1
    have HS := Lib.hid hs
    have hl4 : l ≤ 400 := by have h1 := isSuiteB_len hs; have := HL.out; omega
    have HSUM := Lib.hid (isSuiteB_sum hs)
    clear b1 hs
    go_wp2_with fail
    go_loopw [4, 14] (fun sv i wr => ∃ k : Nat, k ≤ l ∧ i = .int .i64 k ∧ sv = .int .i64 ((l : Int) + (sumLens (wss.take k) : Int)) ∧ wr = w1) (fun _ i _ => l - (intOf i).toNat)
    case atStart => exact ⟨0, Nat.zero_le _, rfl, by simp [sumLens], rfl⟩
    case round =>
      obtain ⟨k, hk, rfl, rfl, rfl⟩ := hrel
      by_cases hlt : k < l
      · obtain ⟨ws, b, off, A1, a1, hx, rfl, hc1, hnum1⟩ := (HX.out.below W1.out).at_ hlt
        have HXX := Lib.hid hx
        have hk0 : (0 : Int) ≤ (k : Int) := by omega
        have hkl : (k : Int) < (l : Int) := by omega
        have hsum := sumLens_snoc hx
        have hsum2 := sumLens_take wss (k + 1)
        have hs3 := HSUM.out
        have HQ := Lib.hid hsum
        obtain ⟨M, hM⟩ : ∃ M, M = sumLens (wss.take k) := ⟨_, rfl⟩
        rw [← hM] at hsum ⊢
        have hb : (l : Int) + (M : Int) + (ws.length : Int) ≤ 4611686018427387904 := by omega
        have hw : IntKind.i64.wrap ((l : Int) + (M : Int) + (ws.length : Int)) = (l : Int) + (M : Int) + (ws.length : Int) := IntWalk.i64_in _ (by omega)
        have HM := Lib.hid hM
        clear hx hnum1 hsum hsum2 hs3 hM
        go_wp2_with fail
        go_roundw
        case rel => exact ⟨k + 1, by omega, by go_num, by rw [HQ.out, ← HM.out]; go_num, by first | rfl | trivial⟩
        case measure => simp [intOf]; omega
      · go_wp2_with fail
        go_ret2
        have hkl : k = l := by omega
        subst hkl
        rw [List.take_of_length_le (Nat.le_of_eq HL.out)]
        exact ⟨two_cost (by rw [suiteCost_0 HS.out, HL.out]), W1.out⟩

end Go.Proofs.YtdhmciendlihoaaDoor
