/-
  The text of a partial automaton: the contracts of nextText, l04Text and both PartialText.
-/
import Derived.Test.YtogbglbmkkbhcaaDoorLett
import Derived.Test.YtogbglbmkkbhcaaDoorLaw
import Derived.Test.YtogbglbmkkbhcaaDoorGapV
import Derived.Deep.DeepCutAuto
namespace Go.Proofs.YtogbglbmkkbhcaaDoor
open Go.RowKit Go.Deep Go.ChangeShapes Go.WideShapes

def kindP : List Int := [112, 97, 114, 116, 105, 97, 108]
/-- The word for a state, or for none. -/
def partT (x : Int) : List Int := if x = -1 then [46] else decT x.toNat
theorem partT_len (x : Int) : (partT x).length ≤ 2 := by
  unfold partT
  split
  · simp
  · exact decT_len _
theorem partT_gap : partT (-1) = [46] := if_pos rfl
theorem partT_num (q : Nat) : partT (q : Int) = decT q := by
  unfold partT
  rw [if_neg (by omega), Int.toNat_natCast]
/-- The text of an automaton, as numbers of bytes. -/
def textP (s : Int) (xss : List (List Int)) : List Int := kindP ++ (lineT ([s] ++ [(xss.length : Int)]) ++ [10]) ++ lettersF partT xss
/-- What PartialText answers. -/
def partialText (s : Int) (xss : List (List Int)) : List Int := if okP s xss = true then textP s xss else []
theorem partialText_1 {s : Int} {xss : List (List Int)} (h : okP s xss = false) : partialText s xss = [] := by simp [partialText, h]
theorem partialText_0 {s : Int} {xss : List (List Int)} (h : okP s xss = true) : partialText s xss = textP s xss := by simp [partialText, h]
theorem ret_strP {a b : ByteArray} (h : a = b) : Ending.returned (.string a) = .returned (.string b) := by rw [h]
theorem goodP_small {n m : Nat} {xss : List (List Int)} (h : GoodP n m xss) {r : Nat} {xs : List Int} (hr : xss[r]? = some xs) : xs.length ≤ 10 ∧ ∀ x, x ∈ xs → x = -1 ∨ ∃ q : Nat, x = (q : Int) ∧ q ≤ 10 := by
  have hrl : r < m := by
    rw [← h.len]
    rcases Nat.lt_or_ge r xss.length with hlt | hge
    · exact hlt
    · rw [List.getElem?_eq_none hge] at hr; cases hr
  obtain ⟨ys, hy, hyl, hys⟩ := h.row r hrl
  rw [hr] at hy
  cases hy
  have := h.n10
  refine ⟨by omega, fun x hx => ?_⟩
  have := hys x hx
  rcases Int.lt_or_le x 0 with h0 | h0
  · exact .inl (by omega)
  · exact .inr ⟨x.toNat, by omega, by omega⟩

set_option maxRecDepth 100000 in
theorem nextText_any (x : Int) (w : World) (hx : x = -1 ∨ ∃ q : Nat, x = (q : Int) ∧ q ≤ 10) :
    Calls Tryd.prog 44 #[.int .i64 x] w fun e w' => e = .returned (.string (strOfNums (partT x))) ∧ w' = w := by
  rcases hx with rfl | ⟨q, rfl, hq⟩
  · go_enter Tryd.func44, Tryd.ntmps44
    go_wp2_with fail
    go_ret
    exact ⟨ret_strP (by apply ByteArray.ext; rfl), rfl⟩
  · have hne : ((q : Int) == -1) = false := by rw [beq_eq_false_iff_ne]; omega
    go_enter Tryd.func44, Tryd.ntmps44
    go_wp2_with fail
    refine (numberText_any q w hq).mono ?_
    rintro e w1 ⟨rfl, rfl⟩
    obtain ⟨S, hS⟩ : ∃ S, S = strOfNums (decT q) := ⟨_, rfl⟩
    rw [← hS]
    have HS := Lib.hid hS
    clear hS
    go_wp2_with fail
    go_ret
    exact ⟨ret_strP (by rw [partT_num, HS.out]), rfl⟩

set_option maxRecDepth 100000 in
set_option maxHeartbeats 2000000 in
theorem implPartialText_any (s : Int) (A : Option Addr) (n cap : Nat) (xss : List (List Int)) (w : World) (h : RowsAt w A n xss) (hn : n ≤ 4611686018427387904)
    (hrows : ∀ (r : Nat) (xs : List Int), xss[r]? = some xs → xs.length ≤ 4611686018427387904) :
    Calls Tryd.prog 16 #[.agg #[.int .i64 s, .slice A n cap]] w fun e w' => e = .returned (.string (strOfNums (partialText s xss))) ∧ Below w.heap.size w w' := by
  have HR := Lib.hid hrows
  have HL := Lib.hid h.1
  obtain ⟨w1, hw1⟩ : ∃ w1, w1 = w.alloc (.cells #[.int .i64 s, .slice A n cap] 34) := ⟨_, rfl⟩
  have b1 : Below w.heap.size w w1 := by rw [hw1]; exact (Below.refl _ _).alloc (Nat.le_refl _) _
  have HB := Lib.hid (show Box w1 w.heap.size [.int .i64 s, .slice A n cap] by rw [hw1]; exact Box.new _ _ _)
  have HX := Lib.hid (h.below b1)
  have W1 := Lib.hid b1
  have HW := Lib.hid hw1
  clear h b1 hw1 hrows
  go_enter Tryd.func16, Tryd.ntmps16
  go_wp2_with fail
  rw [← HW.out]
  refine (implValidPartial_any s A n cap xss w1 HX.out hn HR.out).mono ?_
  rintro e w2 ⟨rfl, b2⟩
  have HX2 := Lib.hid (HX.out.below b2)
  have W2 := Lib.hid (below_then W1.out b2)
  rcases hok : okP s xss with _ | _
  · have HF := Lib.hid (partialText_1 hok)
    clear b2
    go_wp2_with fail
    go_ret
    exact ⟨ret_strP (by rw [HF.out]; rfl), W2.out⟩
  · obtain ⟨N, rfl, hg⟩ := goodP_of hok HL.out
    have HG := Lib.hid hg
    have HF := Lib.hid (partialText_0 hok)
    have hN := hg.n10
    have hm3 := hg.m3
    obtain ⟨w3, hw3⟩ : ∃ w3, w3 = w2.alloc (.cells #[.int .i64 (N : Int)] 2) := ⟨_, rfl⟩
    have b3 : Below w2.heap.size w2 w3 := by rw [hw3]; exact (Below.refl _ _).alloc (Nat.le_refl _) _
    have y0 := Box.below HB.out b2 0 _ rfl
    have y1 : (w2.alloc (.cells #[.int .i64 (N : Int)] 2)).cell? ⟨w.heap.size, 1, none⟩ = some (.slice A n cap) := by rw [← hw3]; exact Box.below (Box.below HB.out b2) b3 1 _ rfl
    have HO := Lib.hid (show w3.ownsRow w2.heap.size 2 1 (.slice (some ⟨w2.heap.size, 0, none⟩) 1 1) 1 ([(N : Int)].map (Value.int .i64)) by
      rw [hw3]
      exact World.ownsRow_lit (e := 2) w2 #[.int .i64 (N : Int)] 1 (Nat.le_refl _) (by unfold maxLen; omega) rfl)
    have HW3 := Lib.hid hw3
    have B3 := Lib.hid b3
    clear hw3 b3 b2 hg hok
    go_wp2_with fail
    rw [← HW3.out]
    refine (lettersText_any 44 partT partT_len kindP (by decide) _ (by apply ByteArray.ext; rfl) w2.heap.size (some ⟨w2.heap.size, 0, none⟩) 1 1 [(N : Int)] A n cap xss w2 w3 HO.out rfl (by omega) B3.out.size ?s1 HX2.out B3.out (Nat.le_refl _) (by omega) (fun r xs hr => (goodP_small HG.out hr).1) (fun _ _ => rfl) ?s2).mono ?_
    case s1 =>
      intro k x hx
      rcases k with _ | _ | k
      · exact ⟨N, by simpa using hx.symm, hN⟩
      · exact ⟨n, by simpa using hx.symm, by omega⟩
      · simp at hx
    case s2 =>
      intro r xs hr x hx W
      exact nextText_any x W ((goodP_small HG.out hr).2 x hx)
    rintro e w4 ⟨rfl, b4⟩
    obtain ⟨R, hR⟩ : ∃ R, R = strOfNums (kindP ++ (lineT ([(N : Int)] ++ [(n : Int)]) ++ [10]) ++ lettersF partT xss) := ⟨_, rfl⟩
    rw [← hR]
    have HRR := Lib.hid hR
    have W4 := Lib.hid (below_then W2.out (B3.out.trans b4))
    clear hR b4
    go_wp2_with fail
    go_ret
    exact ⟨ret_strP (by rw [HF.out, HRR.out, textP, HL.out]), W4.out⟩

theorem headP_str (a b : List Int) : ⟨#[112, 97, 114, 116, 105, 97, 108, 32]⟩ ++ strOfNums a ++ ⟨#[32]⟩ ++ strOfNums b ++ (⟨#[10]⟩ : ByteArray) = strOfNums (kindP ++ ((32 :: a ++ (32 :: b ++ [])) ++ [10])) := by
  rw [show (⟨#[112, 97, 114, 116, 105, 97, 108, 32]⟩ : ByteArray) = strOfNums (kindP ++ [32]) from by apply ByteArray.ext; rfl, show (⟨#[32]⟩ : ByteArray) = strOfNums [32] from by apply ByteArray.ext; rfl, show (⟨#[10]⟩ : ByteArray) = strOfNums [10] from by apply ByteArray.ext; rfl]
  rw [← strNums_app, ← strNums_app, ← strNums_app, ← strNums_app]
  congr 1
  simp

set_option maxRecDepth 100000 in
set_option maxHeartbeats 4000000 in
theorem l04Text_any (p N : Nat) (A : Option Addr) (n cap : Nat) (xss : List (List Int)) (w : World) (hb : Box w p [.int .i64 (N : Int), .slice A n cap]) (hg : GoodP N n xss) (h : RowsAt w A n xss) :
    Calls Tryd.prog 42 #[.pointer (some ⟨p, 0, none⟩)] w fun e w' => e = .returned (.string (strOfNums (textP (N : Int) xss))) ∧ Below w.heap.size w w' := by
  have HL := Lib.hid h.1
  have HB := Lib.hid hb
  have HX := Lib.hid h
  have HG := Lib.hid hg
  have hN := hg.n10
  have hm3 := hg.m3
  have hM : n ≤ 10 := by omega
  clear hg h hb
  go_enter Tryd.func42, Tryd.ntmps42
  obtain ⟨X, hX⟩ : ∃ X, X = strOfNums (decT N) := ⟨_, rfl⟩
  obtain ⟨Y, hY⟩ : ∃ Y, Y = strOfNums (decT n) := ⟨_, rfl⟩
  obtain ⟨T0, hT0⟩ : ∃ T0 : ByteArray, T0 = strOfNums (kindP ++ (lineT ([(N : Int)] ++ [(n : Int)]) ++ [10])) := ⟨_, rfl⟩
  have hXs : X.size ≤ 2 := by rw [hX, strOfNums_size]; exact decT_len N
  have hYs : Y.size ≤ 2 := by rw [hY, strOfNums_size]; exact decT_len n
  have hTT : ⟨#[112, 97, 114, 116, 105, 97, 108, 32]⟩ ++ X ++ ⟨#[32]⟩ ++ Y ++ (⟨#[10]⟩ : ByteArray) = T0 := by rw [hX, hY, hT0, headP_str]; rfl
  have HXD := Lib.hid hX
  have HYD := Lib.hid hY
  have HT0 := Lib.hid hT0
  have HTT := Lib.hid hTT
  have g1 : ¬ 9223372036854775807 < 8 + X.size := by omega
  have g2 : ¬ 9223372036854775807 < 8 + X.size + 1 := by omega
  have g3 : ¬ 9223372036854775807 < 8 + X.size + 1 + Y.size := by omega
  have g4 : ¬ 9223372036854775807 < 8 + X.size + 1 + Y.size + 1 := by omega
  have HB2 := HB
  have r0 := Box.rule HB2.out (j := 0) rfl
  have r1 := Box.rule HB2.out (j := 1) rfl
  have c9 : Below w.heap.size w w := Below.refl _ _
  clear hX hY hT0 hTT
  go_upto_region 1 with fail
  go_cut [3] (fun sp wx => sp = .string T0 ∧ Below w.heap.size w wx)
  case first =>
    go_region_held3 (fun w' => Below w.heap.size w w') (first | assumption | exact below_drewN' (by assumption) _)
      (first
        | (go_at_call_of 35 (Value.int IntKind.i64 (N : Int)); refine (decimal_any N _ hN).mono ?_; rintro e wa ⟨rfl, ba⟩; rw [← HXD.out]; have ca : Below w.heap.size w wa := below_then (by first | assumption | exact below_drewN' (by assumption) _) ba; clear ba)
        | (go_at_call_of 35 (Value.int IntKind.i64 (n : Int)); refine (decimal_any n _ hM).mono ?_; rintro e wb ⟨rfl, bb⟩; rw [← HYD.out]; have cb : Below w.heap.size w wb := below_then (by first | assumption | exact below_drewN' (by assumption) _) bb; clear bb)
        | fail)
    all_goals (go_wp2_with fail; go_meet; exact ⟨by rw [← HTT.out], by first | assumption | exact below_drewN' (by assumption) _⟩)
  case rest =>
    obtain ⟨rfl, hbw⟩ := hcut
    obtain ⟨w3, h3⟩ : ∃ w3, w3 = wc := ⟨_, rfl⟩
    rw [← h3] at hbw ⊢
    have W3 := Lib.hid hbw
    clear h3 hbw r0 r1 c9 g1 g2 g3 g4
    have hT0s : T0.size ≤ 20 := by
      rw [HT0.out, strOfNums_size]
      have := lineT_len ([(N : Int)] ++ [(n : Int)])
      simp only [List.length_append, List.length_cons, List.length_nil, kindP] at this ⊢
      omega
    go_wp2_with fail
    go_loopw [3, 4] (fun sv i wr => ∃ (k : Nat) (T : ByteArray), k ≤ n ∧ i = .int .i64 k ∧ sv = .string T ∧ T = T0 ++ strOfNums (lettersF partT (xss.take k)) ∧ Below w.heap.size w wr) (fun _ i _ => n - (intOf i).toNat)
    case atStart => exact ⟨0, T0, Nat.zero_le _, rfl, rfl, by apply ByteArray.ext; simp [lettersF, strOfNums], W3.out⟩
    case round =>
      obtain ⟨k, T, hk, rfl, rfl, hT, hbel⟩ := hrel
      have HWR := Lib.hid hbel
      have HROOM := Lib.hid (lettersF_room partT_len HL.out hM (fun r xs hr => (goodP_small HG.out hr).1) k)
      have hTs : T.size ≤ 400 := by
        have := HROOM.out
        rw [hT, ByteArray.size_append, strOfNums_size]
        omega
      have HT := Lib.hid hT
      have c1 : wr.cell? ⟨p, 1, none⟩ = some (.slice A n cap) := Box.below HB.out hbel 1 _ rfl
      clear hbel hT
      by_cases hlt : k < n
      · obtain ⟨xs, b, off, A1, a1, hx, rfl, hc2, hnum1⟩ := HX.out.at_ hlt
        have HXX := Lib.hid hx
        have HN := Lib.hid hnum1
        have HC2 := Lib.hid hc2
        have HSM := Lib.hid (goodP_small HG.out hx)
        have hl3 := HSM.out.1
        have hk0 : (0 : Int) ≤ (k : Int) := by omega
        have hkl : (k : Int) < (n : Int) := by omega
        have g1 : ¬ 9223372036854775807 < T.size + 6 := by omega
        clear hx hnum1 hc2
        go_wp2_with fail
        clear g1
        go_loopw [3, 5] (fun sv j wi => ∃ (q : Nat) (U : ByteArray), q ≤ xs.length ∧ j = .int .i64 q ∧ sv = .string U ∧ U = T ++ strOfNums ([108, 101, 116, 116, 101, 114] ++ blankF partT (xs.take q)) ∧ Below w.heap.size w wi) (fun _ j _ => xs.length - (intOf j).toNat)
        case atStart => exact ⟨0, _, Nat.zero_le _, rfl, rfl, by apply ByteArray.ext; simp [strOfNums, blankF], HWR.out⟩
        case round =>
          obtain ⟨q, U, hq, rfl, rfl, hU, hbi⟩ := hrel
          have hUs : U.size ≤ 500 := by
            rw [hU, ByteArray.size_append, strOfNums_size, List.length_append]
            have h2 := blankF_len partT partT_len (xs.take q)
            rw [List.length_take] at h2
            simp only [List.length_cons, List.length_nil]
            omega
          have HU := Lib.hid hU
          have HWI := Lib.hid hbi
          have d1 : World.cell? ‹World› ⟨p, 1, none⟩ = some (.slice (some ⟨b, off, none⟩) n cap) := Box.below HB.out hbi 1 _ rfl
          have d2 : World.cell? ‹World› ⟨b, off + k, none⟩ = some (.slice A1 xs.length a1) := (hbi.cell (cell_lt HC2.out)).trans HC2.out
          have gn : NumsAt ‹World› A1 xs.length xs := HN.out.below hbi
          clear hbi hU
          by_cases hqn : q < xs.length
          · obtain ⟨x, b3, off3, hxq, rfl, hcx⟩ := gn.at_ hqn
            have HXQ := Lib.hid hxq
            have hq0 : (0 : Int) ≤ (q : Int) := by omega
            have hqn' : (q : Int) < (xs.length : Int) := by omega
            have hcase := HSM.out.2 _ (List.mem_of_getElem? hxq)
            clear hxq gn
            rcases hcase with rfl | ⟨v, rfl, hv⟩
            · have g1 : ¬ 9223372036854775807 < U.size + 2 := by omega
              go_wp2_with fail
              go_roundw
              case rel =>
                refine ⟨q + 1, _, by omega, by go_num, rfl, ?_, HWI.out⟩
                rw [blankF_take partT HXQ.out, ← List.append_assoc, strNums_app _ (32 :: partT (-1)), HU.out, partT_gap, ByteArray.append_assoc]
                rfl
              case measure => simp [intOf]; omega
            · have hv0 : ¬ (v : Int) < 0 := by omega
              go_wp2_with fail
              refine (decimal_any v _ hv).mono ?_
              rintro e w4 ⟨rfl, b4⟩
              have HW4 := Lib.hid (below_then HWI.out b4)
              obtain ⟨S, hS⟩ : ∃ S, S = strOfNums (decT v) := ⟨_, rfl⟩
              rw [← hS]
              have hSs : S.size ≤ 2 := by rw [hS, strOfNums_size]; exact decT_len v
              have HS := Lib.hid hS
              have g1 : ¬ 9223372036854775807 < 1 + S.size := by omega
              have g2 : ¬ 9223372036854775807 < U.size + (1 + S.size) := by omega
              clear hS b4
              go_wp2_with fail
              go_roundw
              case rel =>
                refine ⟨q + 1, _, by omega, by go_num, rfl, ?_, HW4.out⟩
                rw [blankF_take partT HXQ.out, ← List.append_assoc, strNums_app _ (32 :: partT (v : Int)), HU.out, HS.out, partT_num, show (32 :: decT v) = [32] ++ decT v from rfl, strNums_app [32], ByteArray.append_assoc]
                rfl
              case measure => simp [intOf]; omega
          · have hqe : q = xs.length := by omega
            subst hqe
            have g1 : ¬ 9223372036854775807 < U.size + 1 := by omega
            clear gn
            go_wp2_with fail
            go_roundw
            case rel =>
              refine ⟨k + 1, _, by omega, by go_num, rfl, ?_, HWI.out⟩
              rw [lettersF_take partT HXX.out, letterT, ← List.append_assoc [108, 101, 116, 116, 101, 114], strNums_app (lettersF partT _), strNums_app _ [10], HU.out, List.take_of_length_le (Nat.le_refl _), HT.out, ByteArray.append_assoc, ByteArray.append_assoc]
              rfl
            case measure => simp [intOf]; omega
      · have hkl : k = n := by omega
        subst hkl
        have ht := HT.out
        rw [List.take_of_length_le (Nat.le_of_eq HL.out)] at ht
        have HT2 := Lib.hid ht
        clear ht
        go_wp2_with fail
        go_ret
        exact ⟨ret_strP (by rw [HT2.out, textP, HL.out, strNums_app _ (lettersF partT xss), ← HT0.out]), HWR.out⟩

set_option maxRecDepth 100000 in
set_option maxHeartbeats 1000000 in
theorem specPartialText_any (s : Int) (A : Option Addr) (n cap : Nat) (xss : List (List Int)) (w : World) (h : RowsAt w A n xss) (hn : n ≤ 4611686018427387904)
    (hrows : ∀ (r : Nat) (xs : List Int), xss[r]? = some xs → xs.length ≤ 4611686018427387904) :
    Calls Tryd.prog 14 #[.agg #[.int .i64 s, .slice A n cap]] w fun e w' => e = .returned (.string (strOfNums (partialText s xss))) ∧ Below w.heap.size w w' := by
  have HR := Lib.hid hrows
  have HL := Lib.hid h.1
  obtain ⟨w1, hw1⟩ : ∃ w1, w1 = w.alloc (.cells #[.int .i64 s, .slice A n cap] 34) := ⟨_, rfl⟩
  have b1 : Below w.heap.size w w1 := by rw [hw1]; exact (Below.refl _ _).alloc (Nat.le_refl _) _
  have HB := Lib.hid (show Box w1 w.heap.size [.int .i64 s, .slice A n cap] by rw [hw1]; exact Box.new _ _ _)
  have HX := Lib.hid (h.below b1)
  have W1 := Lib.hid b1
  have HW := Lib.hid hw1
  clear h b1 hw1 hrows
  go_enter Tryd.func14, Tryd.ntmps14
  go_wp2_with fail
  rw [← HW.out]
  refine (l04Ok_any w.heap.size s A n cap xss w1 (HB.out 0 _ rfl) (HB.out 1 _ rfl) HX.out hn HR.out).mono ?_
  rintro e w2 ⟨rfl, q0, hw2⟩
  have W2 := Lib.hid (show Below w1.heap.size w1 w2 by rw [hw2]; exact below_drewN' (Below.refl _ _) _)
  clear hw2
  rcases hok : okP s xss with _ | _
  · have HF := Lib.hid (partialText_1 hok)
    go_wp2_with fail
    go_ret
    exact ⟨ret_strP (by rw [HF.out]; rfl), below_then W1.out W2.out⟩
  · obtain ⟨N, rfl, hg⟩ := goodP_of hok HL.out
    have HG := Lib.hid hg
    have HF := Lib.hid (partialText_0 hok)
    clear hg hok
    go_wp2_with fail
    refine (l04Text_any w.heap.size N A n cap xss w2 (Box.below HB.out W2.out) HG.out (HX.out.below W2.out)).mono ?_
    rintro e w3 ⟨rfl, b3⟩
    obtain ⟨R, hR⟩ : ∃ R, R = strOfNums (textP (N : Int) xss) := ⟨_, rfl⟩
    rw [← hR]
    have HRR := Lib.hid hR
    have W3 := Lib.hid (below_then W1.out (below_then W2.out b3))
    clear hR b3
    go_wp2_with fail
    go_ret
    exact ⟨ret_strP (by rw [HF.out, HRR.out]), W3.out⟩

end Go.Proofs.YtogbglbmkkbhcaaDoor
