/-
  The text of a suite: the contracts of both SuiteText.
-/
import Derived.Test.YtdhmciendlihoaaDoorCost
import Derived.Test.YtdhmciendlihoaaDoorBldr
import Derived.Test.YtdhmciendlihoaaDoorShelf
namespace Go.Proofs.YtdhmciendlihoaaDoor
open Go.RowKit Go.Deep Go.ChangeShapes Go.WideShapes

theorem strCells_ten : Lib.strCells (strOfNums [10]) = [.int .u8 10] := rfl

/-- What SuiteText answers, as numbers of bytes. -/
def suiteText (wss : List (List Int)) : List Int := if isSuiteB 3 wss = true then textS wss else []
theorem suiteText_1 {wss : List (List Int)} (h : isSuiteB 3 wss = false) : suiteText wss = [] := by simp [suiteText, h]
theorem suiteText_0 {wss : List (List Int)} (h : isSuiteB 3 wss = true) : suiteText wss = textS wss := by simp [suiteText, h]
theorem ret_str {a b : ByteArray} (h : a = b) : Ending.returned (.string a) = .returned (.string b) := by rw [h]

set_option maxRecDepth 100000 in
theorem specSuiteText_any (A' : Option Addr) (l cap' : Nat) (wss : List (List Int)) (w : World) (h : RowsAt w A' l wss) (hl : l ≤ 4611686018427387904) (hrows : ∀ (r : Nat) (xs : List Int), wss[r]? = some xs → xs.length ≤ 4611686018427387904) :
    Calls Tryd.prog 17 #[.slice A' l cap'] w fun e w' => e = .returned (.string (strOfNums (suiteText wss))) ∧ Below w.heap.size w w' := by
  go_enter Tryd.func17, Tryd.ntmps17
  go_wp2_with fail
  refine (l07Text_any A' l cap' wss w h hl hrows).mono ?_
  rintro e w1 ⟨⟨hs, rfl⟩ | ⟨hs, rfl⟩, b1⟩
  · have HF := Lib.hid (suiteText_0 hs)
    obtain ⟨S, hS⟩ : ∃ S, S = strOfNums (textS wss) := ⟨_, rfl⟩
    rw [← hS]
    have HS := Lib.hid hS
    clear hS
    go_wp2_with fail
    go_ret
    exact ⟨ret_str (by rw [HF.out, HS.out]), b1⟩
  · have HF := Lib.hid (suiteText_1 hs)
    go_wp2_with fail
    go_ret
    exact ⟨ret_str (by rw [HF.out]; rfl), b1⟩

set_option maxRecDepth 100000 in
set_option maxHeartbeats 2000000 in
theorem implSuiteText_any (A' : Option Addr) (l cap' : Nat) (wss : List (List Int)) (w : World) (hH : HandleAt w) (h : RowsAt w A' l wss) (hl : l ≤ 4611686018427387904) (hrows : ∀ (r : Nat) (xs : List Int), wss[r]? = some xs → xs.length ≤ 4611686018427387904) :
    Calls Tryd.prog 18 #[.slice A' l cap'] w fun e w' => e = .returned (.string (strOfNums (suiteText wss))) ∧ Below w.heap.size w w' := by
  have HR := Lib.hid hrows
  have HL := Lib.hid h.1
  have HX := Lib.hid h
  clear hrows h
  go_enter Tryd.func18, Tryd.ntmps18
  go_wp2_with fail
  refine (isSuite_any 3 A' l cap' wss w hH HX.out (by omega) hl HR.out).mono ?_
  rintro e w1 ⟨rfl, b1⟩
  rcases hs : isSuiteB ((3 : Nat) : Int) wss with _ | _
  · have HF := Lib.hid (suiteText_1 hs)
    go_wp2_with fail
    go_ret
    exact ⟨ret_str (by rw [HF.out]; rfl), b1⟩
  · have HS := Lib.hid hs
    have HF := Lib.hid (suiteText_0 hs)
    have hl4 : l ≤ 400 := by have h1 := isSuiteB_len hs; have := HL.out; omega
    obtain ⟨w2, hw2⟩ : ∃ w2, w2 = w1.alloc (.cells #[.pointer none, .slice none 0 0] 60) := ⟨_, rfl⟩
    have hb0 : Bldr w1.heap.size [] w2 := by rw [hw2]; exact bldr_new w1
    have b2 : Below w1.heap.size w1 w2 := by rw [hw2]; exact (Below.refl _ _).alloc (Nat.le_refl _) _
    obtain ⟨B, hB⟩ : ∃ B, B = w1.heap.size := ⟨_, rfl⟩
    rw [← hB] at hb0
    have hBw : w.heap.size ≤ B := by rw [hB]; exact b1.size
    have hB2 : B ≤ w2.heap.size := by rw [hB]; exact b2.size
    have W2 := Lib.hid (below_then b1 b2)
    have HB0 := Lib.hid hb0
    have HW2 := Lib.hid hw2
    have HBB := Lib.hid hB
    clear b1 b2 hb0 hw2 hB hs
    go_wp2_with fail
    rw [← HW2.out, ← HBB.out]
    go_loopw [11] (fun i wr => ∃ k : Nat, k ≤ l ∧ i = .int .i64 k ∧ Bldr B (Lib.strCells (strOfNums (textS (wss.take k)))) wr ∧ Below w.heap.size w wr ∧ B ≤ wr.heap.size) (fun i _ => l - (intOf i).toNat)
    case atStart => exact ⟨0, Nat.zero_le _, rfl, HB0.out, W2.out, hB2⟩
    case round =>
      obtain ⟨k, hk, rfl, hbd, hbel, hbs⟩ := hrel
      have HBD := Lib.hid hbd
      have HW := Lib.hid hbel
      have HBS := Lib.hid hbs
      clear hbd hbel hbs
      by_cases hlt : k < l
      · obtain ⟨ws, b, off, A1, a1, hx, rfl, hc1, hnum1⟩ := (HX.out.below HW.out).at_ hlt
        have HXX := Lib.hid hx
        have HN := Lib.hid hnum1
        have hlw := HR.out _ _ hx
        have hk0 : (0 : Int) ≤ (k : Int) := by omega
        have hkl : (k : Int) < (l : Int) := by omega
        have hTl : (textS (wss.take k)).length ≤ 160400 := by
          have := textS_len (wss.take k)
          rw [List.length_take] at this
          omega
        have HTL := Lib.hid hTl
        clear hx hnum1 hTl
        go_wp2_with fail
        refine (implWordText_any A1 ws.length a1 ws wr HN.out hlw).mono ?_
        rintro e w3 ⟨rfl, b3⟩
        have HW3 := Lib.hid (below_then HW.out b3)
        have HBD3 := Lib.hid (bldr_below HBD.out b3)
        have HBS3 := Lib.hid (Nat.le_trans HBS.out b3.size)
        clear b3 hc1
        go_wp2_with fail
        refine (writeString_any B _ (strOfNums (wtext ws)) w3 HBD3.out (by rw [Lib.strCells_length, strOfNums_size, strOfNums_size]; have := HTL.out; have := wtext_len ws; omega) HBS3.out).mono ?_
        rintro e w4 ⟨rfl, hat4, b4⟩
        have HBD4 := Lib.hid hat4
        have HW4 := Lib.hid (HW3.out.trans (b4.mono hBw))
        have HBS4 := Lib.hid (Nat.le_trans HBS3.out b4.size)
        clear hat4 b4
        go_wp2_with fail
        refine (writeByte_any B _ 10 w4 HBD4.out (by rw [List.length_append, Lib.strCells_length, Lib.strCells_length, strOfNums_size, strOfNums_size]; have := HTL.out; have := wtext_len ws; omega) HBS4.out).mono ?_
        rintro e w5 ⟨rfl, hat5, b5⟩
        have HBD5 := Lib.hid hat5
        have HW5 := Lib.hid (HW4.out.trans (b5.mono hBw))
        have HBS5 := Lib.hid (Nat.le_trans HBS4.out b5.size)
        clear hat5 b5
        go_wp2_with fail
        go_roundw
        case rel =>
          refine ⟨k + 1, by omega, by go_num, ?_, HW5.out, HBS5.out⟩
          rw [textS_take HXX.out, strOfNums_app, strOfNums_app, strCells_app, strCells_app, strCells_ten, ← List.append_assoc]
          exact HBD5.out
        case measure => simp [intOf]; omega
      · have hkl : k = l := by omega
        subst hkl
        have hbd := HBD.out
        rw [List.take_of_length_le (Nat.le_of_eq HL.out), Lib.strCells_eq] at hbd
        have HBE := Lib.hid hbd
        clear hbd
        go_wp2_with fail
        refine (Tryd.Builder_String_any B B _ wr HBE.out HBS.out).mono ?_
        rintro e w3 ⟨rfl, b3⟩
        rw [str_back]
        have HW3 := Lib.hid (HW.out.trans (b3.mono hBw))
        obtain ⟨S, hS⟩ : ∃ S, S = strOfNums (textS wss) := ⟨_, rfl⟩
        rw [← hS]
        have HSS := Lib.hid hS
        clear hS b3
        go_wp2_with fail
        go_ret
        exact ⟨ret_str (by rw [HF.out, HSS.out]), HW3.out⟩

end Go.Proofs.YtdhmciendlihoaaDoor
