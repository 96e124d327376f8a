/-
  A line of small numbers behind blanks: the contract of the program's writeWords for numbers.
-/
import Derived.Test.YtogbglbmkkbhcaaDoorNumT
import Derived.Test.YtogbglbmkkbhcaaDoorBldr
namespace Go.Proofs.YtogbglbmkkbhcaaDoor
open Go.RowKit Go.Deep Go.ChangeShapes Go.WideShapes

theorem strNums_app (a b : List Int) : strOfNums (a ++ b) = strOfNums a ++ strOfNums b := by
  apply ByteArray.ext
  simp [strOfNums]
theorem strNums_cells (a : List Int) : Lib.strCells (strOfNums (a ++ [10])) = Lib.strCells (strOfNums a) ++ [.int .u8 10] := by
  rw [strNums_app, strCells_app]; rfl
/-- The text of a list of numbers, a blank in front of each one. -/
def lineT : List Int → List Int
  | [] => []
  | x :: xs => 32 :: decT x.toNat ++ lineT xs
theorem lineT_snoc : ∀ (xs : List Int) (x : Int), lineT (xs ++ [x]) = lineT xs ++ (32 :: decT x.toNat)
  | [], x => by simp [lineT]
  | y :: xs, x => by
    show 32 :: decT y.toNat ++ lineT (xs ++ [x]) = _
    rw [lineT_snoc xs x]
    simp [lineT]
theorem lineT_take {xs : List Int} {k : Nat} {x : Int} (h : xs[k]? = some x) : lineT (xs.take (k + 1)) = lineT (xs.take k) ++ (32 :: decT x.toNat) := by rw [take_snoc h, lineT_snoc]
theorem lineT_len : ∀ (xs : List Int), (lineT xs).length ≤ 3 * xs.length
  | [] => by simp [lineT]
  | x :: xs => by
    have h1 := lineT_len xs
    have h2 := decT_len x.toNat
    simp only [lineT, List.length_append, List.length_cons]
    omega
theorem blank_cells (n : Nat) : Lib.strCells (strOfNums (32 :: decT n)) = [.int .u8 32] ++ Lib.strCells (strOfNums (decT n)) := by
  rw [show (32 :: decT n) = [32] ++ decT n from rfl, strNums_app, strCells_app]; rfl

set_option maxRecDepth 100000 in
set_option maxHeartbeats 2000000 in
theorem writeWords_any (B : Nat) (bs : List Value) (A : Option Addr) (n cap : Nat) (xs : List Int) (w0 w : World) (hx : NumsAt w0 A n xs) (hb : Below w0.heap.size w0 w) (hB : w0.heap.size ≤ B) (hBw : B ≤ w.heap.size) (h : Bldr B bs w) (hlen : bs.length ≤ 1000000) (hn : n ≤ 1000) (hsm : ∀ (k : Nat) (x : Int), xs[k]? = some x → ∃ q : Nat, x = (q : Int) ∧ q ≤ 10) :
    Calls Tryd.prog 56 #[.pointer (some ⟨B, 0, none⟩), .slice A n cap, .func (.func 39) #[] #[]] w fun e w' => e = .returned (.tuple #[]) ∧ (Bldr B (bs ++ Lib.strCells (strOfNums (lineT xs ++ [10]))) w' ∧ Below B w w') := by
  have HX := Lib.hid hx
  have HB0 := Lib.hid hb
  have HS := Lib.hid hsm
  have HL := Lib.hid hx.1
  have HD := Lib.hid h
  clear hx hb hsm h
  go_enter Tryd.func56, Tryd.ntmps56
  go_wp2_with fail
  go_loopw [10] (fun i wr => ∃ k : Nat, k ≤ n ∧ i = .int .i64 k ∧ Bldr B (bs ++ Lib.strCells (strOfNums (lineT (xs.take k)))) wr ∧ Below B w wr ∧ B ≤ wr.heap.size) (fun i _ => n - (intOf i).toNat)
  case atStart => exact ⟨0, Nat.zero_le _, rfl, by simpa [lineT, strOfNums, Lib.strCells] using HD.out, Below.refl _ _, hBw⟩
  case round =>
    obtain ⟨k, hk, rfl, hbd, hbel, hbs⟩ := hrel
    have HBD := Lib.hid hbd
    have HW := Lib.hid hbel
    have HBS := Lib.hid hbs
    clear hbd hbel hbs
    have HTL := Lib.hid (show (lineT (xs.take k)).length ≤ 3000 by
      have := lineT_len (xs.take k)
      rw [List.length_take] at this
      omega)
    by_cases hlt : k < n
    · obtain ⟨x, b, off, hxk, rfl, hc⟩ := (HX.out.below (HB0.out.trans (HW.out.mono hB))).at_ hlt
      obtain ⟨q, rfl, hq⟩ := HS.out _ _ hxk
      have HXX := Lib.hid hxk
      have hk0 : (0 : Int) ≤ (k : Int) := by omega
      have hkl : (k : Int) < (n : Int) := by omega
      clear hxk
      go_wp2_with fail
      refine (writeByte_any B _ 32 wr HBD.out (by rw [List.length_append, Lib.strCells_length, strOfNums_size]; have := HTL.out; omega) HBS.out).mono ?_
      rintro e w5 ⟨rfl, hat5, b5⟩
      have HBD5 := Lib.hid hat5
      have HW5 := Lib.hid (HW.out.trans b5)
      have HBS5 := Lib.hid (Nat.le_trans HBS.out b5.size)
      clear hat5 b5 hc
      go_wp2_with fail
      refine (numberText_any q w5 hq).mono ?_
      rintro e w6 ⟨rfl, rfl⟩
      go_wp2_with fail
      refine (writeString_any B _ (strOfNums (decT q)) _ HBD5.out (by rw [List.length_append, List.length_append, Lib.strCells_length, strOfNums_size, strOfNums_size]; have := HTL.out; have := decT_len q; simp only [List.length_cons, List.length_nil]; omega) HBS5.out).mono ?_
      rintro e w7 ⟨rfl, hat7, b7⟩
      have HBD7 := Lib.hid hat7
      have HW7 := Lib.hid (HW5.out.trans b7)
      have HBS7 := Lib.hid (Nat.le_trans HBS5.out b7.size)
      clear hat7 b7
      go_wp2_with fail
      go_roundw
      case rel =>
        refine ⟨k + 1, by omega, by go_num, ?_, HW7.out, HBS7.out⟩
        rw [lineT_take HXX.out, strNums_app, strCells_app, Int.toNat_natCast, blank_cells, ← List.append_assoc, ← List.append_assoc]
        exact HBD7.out
      case measure => simp [intOf]; omega
    · have hkl : k = n := by omega
      subst hkl
      go_wp2_with fail
      refine (writeByte_any B _ 10 wr HBD.out (by rw [List.length_append, Lib.strCells_length, strOfNums_size]; have := HTL.out; omega) HBS.out).mono ?_
      rintro e w5 ⟨rfl, hat5, b5⟩
      rw [List.take_of_length_le (Nat.le_of_eq HL.out)] at hat5
      have HBD5 := Lib.hid hat5
      have HW5 := Lib.hid (HW.out.trans b5)
      clear hat5 b5
      go_wp2_with fail
      go_end0
      exact ⟨rfl, by rw [strNums_cells, ← List.append_assoc]; exact HBD5.out, HW5.out⟩

end Go.Proofs.YtogbglbmkkbhcaaDoor
