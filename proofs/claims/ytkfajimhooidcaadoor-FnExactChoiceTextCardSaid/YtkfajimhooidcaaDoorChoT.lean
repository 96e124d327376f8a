/-
  The text of an automaton with choices: the contracts of l04ChoiceText and both ChoiceText.
-/
import Derived.Test.YtkfajimhooidcaaDoorLettC
import Derived.Test.YtkfajimhooidcaaDoorLaw
import Derived.Deep.DeepCutAuto
namespace Go.Proofs.YtkfajimhooidcaaDoor
open Go.RowKit Go.Deep Go.ChangeShapes Go.WideShapes

def kindC : List Int := [99, 104, 111, 105, 99, 101]
/-- A valid automaton with choices: n states, m letters. -/
structure GoodC (n m : Nat) (xss : List (List (List Int))) : Prop where
  n10 : n ≤ 10
  m3 : m ≤ 3
  small : SmallCC xss
theorem goodC_of {s : Int} {m : Nat} {xss : List (List (List Int))} (h : okC s xss = true) (hm : xss.length = m) : ∃ n : Nat, s = (n : Int) ∧ GoodC n m xss := by
  simp only [okC, okFC, Bool.and_eq_true, inB, decide_eq_true_eq, List.all_eq_true] at h
  obtain ⟨⟨h1, h2⟩, h3⟩ := h
  refine ⟨s.toNat, by omega, by omega, by omega, fun r xs hx => ?_⟩
  have h4 := h3 xs (List.mem_of_getElem? hx)
  simp only [lineFC, Bool.and_eq_true, decide_eq_true_eq, List.all_eq_true] at h4
  exact ⟨by omega, fun x hx' => setB_small (h4.1 x hx') h1.2⟩
/-- The text of an automaton with choices, as numbers of bytes. -/
def textC (s : Int) (xss : List (List (List Int))) : List Int := kindC ++ (lineT ([s] ++ [(xss.length : Int)]) ++ [10]) ++ lettersC xss
/-- What ChoiceText answers. -/
def choiceText (s : Int) (xss : List (List (List Int))) : List Int := if okC s xss = true then textC s xss else []
theorem choiceText_1 {s : Int} {xss : List (List (List Int))} (h : okC s xss = false) : choiceText s xss = [] := by simp [choiceText, h]
theorem choiceText_0 {s : Int} {xss : List (List (List Int))} (h : okC s xss = true) : choiceText s xss = textC s xss := by simp [choiceText, h]

set_option maxRecDepth 100000 in
set_option maxHeartbeats 2000000 in
theorem implChoiceText_any (s : Int) (A : Option Addr) (n cap : Nat) (xss : List (List (List Int))) (w : World) (h : TabsAt w A n xss) (hn : n ≤ 4611686018427387904)
    (hrows : Wide3 4611686018427387904 xss) :
    Calls Tryd.prog 18 #[.agg #[.int .i64 s, .slice A n cap]] w fun e w' => e = .returned (.string (strOfNums (choiceText s xss))) ∧ Below w.heap.size w w' := by
  have HR := Lib.hid hrows
  have HL := Lib.hid h.1
  obtain ⟨w1, hw1⟩ : ∃ w1, w1 = w.alloc (.cells #[.int .i64 s, .slice A n cap] 38) := ⟨_, rfl⟩
  have b1 : Below w.heap.size w w1 := by rw [hw1]; exact (Below.refl _ _).alloc (Nat.le_refl _) _
  have HB := Lib.hid (show Box w1 w.heap.size [.int .i64 s, .slice A n cap] by rw [hw1]; exact Box.new _ _ _)
  have HX := Lib.hid (h.below b1)
  have W1 := Lib.hid b1
  have HW := Lib.hid hw1
  clear h b1 hw1 hrows
  go_enter Tryd.func18, Tryd.ntmps18
  go_wp2_with fail
  rw [← HW.out]
  refine (implValidChoice_any s A n cap xss w1 HX.out hn HR.out).mono ?_
  rintro e w2 ⟨rfl, b2⟩
  have HX2 := Lib.hid (HX.out.below b2)
  have W2 := Lib.hid (below_then W1.out b2)
  rcases hok : okC s xss with _ | _
  · have HF := Lib.hid (choiceText_1 hok)
    clear b2
    go_wp2_with fail
    go_ret
    exact ⟨ret_strC (by rw [HF.out]; rfl), W2.out⟩
  · obtain ⟨N, rfl, hg⟩ := goodC_of hok HL.out
    have HG := Lib.hid hg
    have HF := Lib.hid (choiceText_0 hok)
    have hN := hg.n10
    have hm3 := hg.m3
    obtain ⟨w3, hw3⟩ : ∃ w3, w3 = w2.alloc (.cells #[.int .i64 (N : Int)] 2) := ⟨_, rfl⟩
    have b3 : Below w2.heap.size w2 w3 := by rw [hw3]; exact (Below.refl _ _).alloc (Nat.le_refl _) _
    have y0 := Box.below HB.out b2 0 _ rfl
    have y1 : (w2.alloc (.cells #[.int .i64 (N : Int)] 2)).cell? ⟨w.heap.size, 1, none⟩ = some (.slice A n cap) := by rw [← hw3]; exact Box.below (Box.below HB.out b2) b3 1 _ rfl
    have HO := Lib.hid (show w3.ownsRow w2.heap.size 2 1 (.slice (some ⟨w2.heap.size, 0, none⟩) 1 1) 1 ([(N : Int)].map (Value.int .i64)) by
      rw [hw3]
      exact World.ownsRow_lit (e := 2) w2 #[.int .i64 (N : Int)] 1 (Nat.le_refl _) (by unfold maxLen; omega) rfl)
    have HW3 := Lib.hid hw3
    have B3 := Lib.hid b3
    clear hw3 b3 b2 hg hok
    go_wp2_with fail
    rw [← HW3.out]
    refine (lettersTextC_any kindC (by decide) _ (by apply ByteArray.ext; rfl) w2.heap.size (some ⟨w2.heap.size, 0, none⟩) 1 1 [(N : Int)] A n cap xss w2 w3 HO.out rfl (by omega) B3.out.size ?s1 HX2.out B3.out (Nat.le_refl _) (by omega) HG.out.small).mono ?_
    case s1 =>
      intro k x hx
      rcases k with _ | _ | k
      · exact ⟨N, by simpa using hx.symm, hN⟩
      · exact ⟨n, by simpa using hx.symm, by omega⟩
      · simp at hx
    rintro e w4 ⟨rfl, b4⟩
    obtain ⟨R, hR⟩ : ∃ R, R = strOfNums (kindC ++ (lineT ([(N : Int)] ++ [(n : Int)]) ++ [10]) ++ lettersC xss) := ⟨_, rfl⟩
    rw [← hR]
    have HRR := Lib.hid hR
    have W4 := Lib.hid (below_then W2.out (B3.out.trans b4))
    clear hR b4
    go_wp2_with fail
    go_ret
    exact ⟨ret_strC (by rw [HF.out, HRR.out, textC, HL.out]), W4.out⟩

theorem headC_str (a b : List Int) : ⟨#[99, 104, 111, 105, 99, 101, 32]⟩ ++ strOfNums a ++ ⟨#[32]⟩ ++ strOfNums b ++ (⟨#[10]⟩ : ByteArray) = strOfNums (kindC ++ ((32 :: a ++ (32 :: b ++ [])) ++ [10])) := by
  rw [show (⟨#[99, 104, 111, 105, 99, 101, 32]⟩ : ByteArray) = strOfNums (kindC ++ [32]) from by apply ByteArray.ext; rfl, show (⟨#[32]⟩ : ByteArray) = strOfNums [32] from by apply ByteArray.ext; rfl, show (⟨#[10]⟩ : ByteArray) = strOfNums [10] from by apply ByteArray.ext; rfl]
  rw [← strNums_app, ← strNums_app, ← strNums_app, ← strNums_app]
  congr 1
  simp

set_option maxRecDepth 100000 in
set_option maxHeartbeats 4000000 in
theorem l04ChoiceText_any (p N : Nat) (A : Option Addr) (n cap : Nat) (xss : List (List (List Int))) (w : World) (hb : Box w p [.int .i64 (N : Int), .slice A n cap]) (hg : GoodC N n xss) (h : TabsAt w A n xss) :
    Calls Tryd.prog 32 #[.pointer (some ⟨p, 0, none⟩)] w fun e w' => e = .returned (.string (strOfNums (textC (N : Int) xss))) ∧ Below w.heap.size w w' := by
  have HL := Lib.hid h.1
  have HB := Lib.hid hb
  have HX := Lib.hid h
  have HG := Lib.hid hg
  have hN := hg.n10
  have hm3 := hg.m3
  have hM : n ≤ 10 := by omega
  clear hg h hb
  go_enter Tryd.func32, Tryd.ntmps32
  obtain ⟨X, hX⟩ : ∃ X, X = strOfNums (decT N) := ⟨_, rfl⟩
  obtain ⟨Y, hY⟩ : ∃ Y, Y = strOfNums (decT n) := ⟨_, rfl⟩
  obtain ⟨T0, hT0⟩ : ∃ T0 : ByteArray, T0 = strOfNums (kindC ++ (lineT ([(N : Int)] ++ [(n : Int)]) ++ [10])) := ⟨_, rfl⟩
  have hXs : X.size ≤ 2 := by rw [hX, strOfNums_size]; exact decT_len N
  have hYs : Y.size ≤ 2 := by rw [hY, strOfNums_size]; exact decT_len n
  have hTT : ⟨#[99, 104, 111, 105, 99, 101, 32]⟩ ++ X ++ ⟨#[32]⟩ ++ Y ++ (⟨#[10]⟩ : ByteArray) = T0 := by rw [hX, hY, hT0, headC_str]; rfl
  have HXD := Lib.hid hX
  have HYD := Lib.hid hY
  have HT0 := Lib.hid hT0
  have HTT := Lib.hid hTT
  have g1 : ¬ 9223372036854775807 < 7 + X.size := by omega
  have g2 : ¬ 9223372036854775807 < 7 + X.size + 1 := by omega
  have g3 : ¬ 9223372036854775807 < 7 + X.size + 1 + Y.size := by omega
  have g4 : ¬ 9223372036854775807 < 7 + X.size + 1 + Y.size + 1 := by omega
  have HB2 := HB
  have r0 := Box.rule HB2.out (j := 0) rfl
  have r1 := Box.rule HB2.out (j := 1) rfl
  have c9 : Below w.heap.size w w := Below.refl _ _
  clear hX hY hT0 hTT
  go_upto_region 1 with fail
  go_cut [3] (fun sp wx => sp = .string T0 ∧ Below w.heap.size w wx)
  case first =>
    go_region_held3 (fun w' => Below w.heap.size w w') (first | assumption | exact below_drewN' (by assumption) _)
      (first
        | (go_at_call_of 23 (Value.int IntKind.i64 (N : Int)); refine (decimal_any N _ hN).mono ?_; rintro e wa ⟨rfl, ba⟩; rw [← HXD.out]; have ca : Below w.heap.size w wa := below_then (by first | assumption | exact below_drewN' (by assumption) _) ba; clear ba)
        | (go_at_call_of 23 (Value.int IntKind.i64 (n : Int)); refine (decimal_any n _ hM).mono ?_; rintro e wb ⟨rfl, bb⟩; rw [← HYD.out]; have cb : Below w.heap.size w wb := below_then (by first | assumption | exact below_drewN' (by assumption) _) bb; clear bb)
        | fail)
    all_goals (go_wp2_with fail; go_meet; exact ⟨by rw [← HTT.out], by first | assumption | exact below_drewN' (by assumption) _⟩)
  case rest =>
    obtain ⟨rfl, hbw⟩ := hcut
    obtain ⟨w3, h3⟩ : ∃ w3, w3 = wc := ⟨_, rfl⟩
    rw [← h3] at hbw ⊢
    have W3 := Lib.hid hbw
    clear h3 hbw r0 r1 c9 g1 g2 g3 g4
    have hT0s : T0.size ≤ 20 := by
      rw [HT0.out, strOfNums_size]
      have := lineT_len ([(N : Int)] ++ [(n : Int)])
      simp only [List.length_append, List.length_cons, List.length_nil, kindC] at this ⊢
      omega
    go_wp2_with fail
    go_loopw [3, 4] (fun sv i wr => ∃ (k : Nat) (T : ByteArray), k ≤ n ∧ i = .int .i64 k ∧ sv = .string T ∧ T = T0 ++ strOfNums (lettersC (xss.take k)) ∧ Below w.heap.size w wr) (fun _ i _ => n - (intOf i).toNat)
    case atStart => exact ⟨0, T0, Nat.zero_le _, rfl, rfl, by apply ByteArray.ext; simp [lettersC, strOfNums], W3.out⟩
    case round =>
      obtain ⟨k, T, hk, rfl, rfl, hT, hbel⟩ := hrel
      have HWR := Lib.hid hbel
      have HROOM := Lib.hid (lettersC_room HL.out hM HG.out.small k)
      have hTs : T.size ≤ 3200 := by
        have := HROOM.out
        rw [hT, ByteArray.size_append, strOfNums_size]
        omega
      have HT := Lib.hid hT
      have c1 : wr.cell? ⟨p, 1, none⟩ = some (.slice A n cap) := Box.below HB.out hbel 1 _ rfl
      clear hbel hT
      by_cases hlt : k < n
      · obtain ⟨xs, b, off, A1, a1, hx, rfl, hc2, hnum1⟩ := HX.out.at_ hlt
        have HXX := Lib.hid hx
        have HN := Lib.hid hnum1
        have HC2 := Lib.hid hc2
        have HSM := Lib.hid (HG.out.small _ _ hx)
        have hl3 := HSM.out.1
        have hk0 : (0 : Int) ≤ (k : Int) := by omega
        have hkl : (k : Int) < (n : Int) := by omega
        have g1 : ¬ 9223372036854775807 < T.size + 6 := by omega
        clear hx hnum1 hc2
        go_wp2_with fail
        clear g1
        go_loopw [3, 5] (fun sv j wi => ∃ (q : Nat) (U : ByteArray), q ≤ xs.length ∧ j = .int .i64 q ∧ sv = .string U ∧ U = T ++ strOfNums ([108, 101, 116, 116, 101, 114] ++ blankC (xs.take q)) ∧ Below w.heap.size w wi) (fun _ j _ => xs.length - (intOf j).toNat)
        case atStart => exact ⟨0, _, Nat.zero_le _, rfl, rfl, by apply ByteArray.ext; simp [strOfNums, blankC], HWR.out⟩
        case round =>
          obtain ⟨q, U, hq, rfl, rfl, hU, hbi⟩ := hrel
          have hUs : U.size ≤ 3600 := by
            rw [hU, ByteArray.size_append, strOfNums_size, List.length_append]
            have h2 := blankC_len (xs.take q) (fun y hy => (HSM.out.2 y (List.mem_of_mem_take hy)).1)
            rw [List.length_take] at h2
            simp only [List.length_cons, List.length_nil]
            omega
          have HU := Lib.hid hU
          have HWI := Lib.hid hbi
          have d1 : World.cell? ‹World› ⟨p, 1, none⟩ = some (.slice (some ⟨b, off, none⟩) n cap) := Box.below HB.out hbi 1 _ rfl
          have d2 : World.cell? ‹World› ⟨b, off + k, none⟩ = some (.slice A1 xs.length a1) := (hbi.cell (cell_lt HC2.out)).trans HC2.out
          have gn : RowsAt ‹World› A1 xs.length xs := HN.out.below hbi
          clear hbi hU
          by_cases hqn : q < xs.length
          · obtain ⟨x, b3, off3, A4, a4, hxq, rfl, hcx, hnx⟩ := gn.at_ hqn
            have HXQ := Lib.hid hxq
            have HNX := Lib.hid hnx
            have HSX := Lib.hid (HSM.out.2 x (List.mem_of_getElem? hxq))
            have hq0 : (0 : Int) ≤ (q : Int) := by omega
            have hqn' : (q : Int) < (xs.length : Int) := by omega
            clear hxq gn hnx
            go_wp2_with fail
            refine (l04Cell_any A4 x.length a4 x _ HNX.out HSX.out.1 HSX.out.2).mono ?_
            rintro e w4 ⟨rfl, b4⟩
            have HW4 := Lib.hid (below_then HWI.out b4)
            obtain ⟨S, hS⟩ : ∃ S, S = strOfNums (cellT x) := ⟨_, rfl⟩
            rw [← hS]
            have hSs : S.size ≤ 30 := by rw [hS, strOfNums_size]; exact cellT_len HSX.out.1
            have HS := Lib.hid hS
            have g1 : ¬ 9223372036854775807 < 1 + S.size := by omega
            have g2 : ¬ 9223372036854775807 < U.size + (1 + S.size) := by omega
            clear hS b4
            go_wp2_with fail
            go_roundw
            case rel =>
              refine ⟨q + 1, _, by omega, by go_num, rfl, ?_, HW4.out⟩
              rw [blankC_take HXQ.out, ← List.append_assoc, strNums_app _ (32 :: cellT x), HU.out, HS.out, show (32 :: cellT x) = [32] ++ cellT x from rfl, strNums_app [32], ByteArray.append_assoc]
              rfl
            case measure => simp [intOf]; omega
          · have hqe : q = xs.length := by omega
            subst hqe
            have g1 : ¬ 9223372036854775807 < U.size + 1 := by omega
            clear gn
            go_wp2_with fail
            go_roundw
            case rel =>
              refine ⟨k + 1, _, by omega, by go_num, rfl, ?_, HWI.out⟩
              rw [lettersC_take HXX.out, letterC, ← List.append_assoc [108, 101, 116, 116, 101, 114], strNums_app (lettersC _), strNums_app _ [10], HU.out, List.take_of_length_le (Nat.le_refl _), HT.out, ByteArray.append_assoc, ByteArray.append_assoc]
              rfl
            case measure => simp [intOf]; omega
      · have hkl : k = n := by omega
        subst hkl
        have ht := HT.out
        rw [List.take_of_length_le (Nat.le_of_eq HL.out)] at ht
        have HT2 := Lib.hid ht
        clear ht
        go_wp2_with fail
        go_ret
        exact ⟨ret_strC (by rw [HT2.out, textC, HL.out, strNums_app _ (lettersC xss), ← HT0.out]), HWR.out⟩

set_option maxRecDepth 100000 in
set_option maxHeartbeats 1000000 in
theorem specChoiceText_any (s : Int) (A : Option Addr) (n cap : Nat) (xss : List (List (List Int))) (w : World) (h : TabsAt w A n xss) (hn : n ≤ 4611686018427387904)
    (hrows : Wide3 4611686018427387904 xss) :
    Calls Tryd.prog 16 #[.agg #[.int .i64 s, .slice A n cap]] w fun e w' => e = .returned (.string (strOfNums (choiceText s xss))) ∧ Below w.heap.size w w' := by
  have HR := Lib.hid hrows
  have HL := Lib.hid h.1
  obtain ⟨w1, hw1⟩ : ∃ w1, w1 = w.alloc (.cells #[.int .i64 s, .slice A n cap] 38) := ⟨_, rfl⟩
  have b1 : Below w.heap.size w w1 := by rw [hw1]; exact (Below.refl _ _).alloc (Nat.le_refl _) _
  have HB := Lib.hid (show Box w1 w.heap.size [.int .i64 s, .slice A n cap] by rw [hw1]; exact Box.new _ _ _)
  have HX := Lib.hid (h.below b1)
  have W1 := Lib.hid b1
  have HW := Lib.hid hw1
  clear h b1 hw1 hrows
  go_enter Tryd.func16, Tryd.ntmps16
  go_wp2_with fail
  rw [← HW.out]
  refine (l04Choices_any w.heap.size s A n cap xss w1 (HB.out 0 _ rfl) (HB.out 1 _ rfl) HX.out hn HR.out).mono ?_
  rintro e w2 ⟨rfl, q0, hw2⟩
  have W2 := Lib.hid (show Below w1.heap.size w1 w2 by rw [hw2]; exact below_drewN' (Below.refl _ _) _)
  clear hw2
  rcases hok : okC s xss with _ | _
  · have HF := Lib.hid (choiceText_1 hok)
    go_wp2_with fail
    go_ret
    exact ⟨ret_strC (by rw [HF.out]; rfl), below_then W1.out W2.out⟩
  · obtain ⟨N, rfl, hg⟩ := goodC_of hok HL.out
    have HG := Lib.hid hg
    have HF := Lib.hid (choiceText_0 hok)
    clear hg hok
    go_wp2_with fail
    refine (l04ChoiceText_any w.heap.size N A n cap xss w2 (Box.below HB.out W2.out) HG.out (HX.out.below W2.out)).mono ?_
    rintro e w3 ⟨rfl, b3⟩
    obtain ⟨R, hR⟩ : ∃ R, R = strOfNums (textC (N : Int) xss) := ⟨_, rfl⟩
    rw [← hR]
    have HRR := Lib.hid hR
    have W3 := Lib.hid (below_then W1.out (below_then W2.out b3))
    clear hR b3
    go_wp2_with fail
    go_ret
    exact ⟨ret_strC (by rw [HF.out, HRR.out]), W3.out⟩

end Go.Proofs.YtkfajimhooidcaaDoor
