/-
  A line of small numbers behind blanks: the contract of the program's writeWords for numbers.
-/
import Derived.Test.YtkfajimhooidcaaDoorNumT
import Derived.Test.YtkfajimhooidcaaDoorBldr
namespace Go.Proofs.YtkfajimhooidcaaDoor
open Go.RowKit Go.Deep Go.ChangeShapes Go.WideShapes

theorem strNums_app (a b : List Int) : strOfNums (a ++ b) = strOfNums a ++ strOfNums b := by
  apply ByteArray.ext
  simp [strOfNums]
theorem strNums_cells (a : List Int) : Lib.strCells (strOfNums (a ++ [10])) = Lib.strCells (strOfNums a) ++ [.int .u8 10] := by
  rw [strNums_app, strCells_app]; rfl
/-- The text of a list of words, a blank in front of each one. -/
def blankF (txt : Int → List Int) : List Int → List Int
  | [] => []
  | x :: xs => 32 :: txt x ++ blankF txt xs
theorem blankF_snoc (txt : Int → List Int) : ∀ (xs : List Int) (x : Int), blankF txt (xs ++ [x]) = blankF txt xs ++ (32 :: txt x)
  | [], x => by simp [blankF]
  | y :: xs, x => by
    show 32 :: txt y ++ blankF txt (xs ++ [x]) = _
    rw [blankF_snoc txt xs x]
    simp [blankF]
theorem blankF_take (txt : Int → List Int) {xs : List Int} {k : Nat} {x : Int} (h : xs[k]? = some x) : blankF txt (xs.take (k + 1)) = blankF txt (xs.take k) ++ (32 :: txt x) := by rw [take_snoc h, blankF_snoc]
theorem blankF_len (txt : Int → List Int) (ht : ∀ x, (txt x).length ≤ 2) : ∀ (xs : List Int), (blankF txt xs).length ≤ 3 * xs.length
  | [] => by simp [blankF]
  | x :: xs => by
    have h1 := blankF_len txt ht xs
    have h2 := ht x
    simp only [blankF, List.length_append, List.length_cons]
    omega
theorem bytesF_cells (a : List Int) : Lib.strCells (strOfNums (32 :: a)) = [.int .u8 32] ++ Lib.strCells (strOfNums a) := by
  rw [show (32 :: a) = [32] ++ a from rfl, strNums_app, strCells_app]; rfl
def numT (x : Int) : List Int := decT x.toNat
theorem numT_len (x : Int) : (numT x).length ≤ 2 := decT_len _
/-- The text of a list of numbers, a blank in front of each one. -/
abbrev lineT : List Int → List Int := blankF numT
theorem lineT_take {xs : List Int} {k : Nat} {x : Int} (h : xs[k]? = some x) : lineT (xs.take (k + 1)) = lineT (xs.take k) ++ (32 :: decT x.toNat) := blankF_take numT h
theorem lineT_len (xs : List Int) : (lineT xs).length ≤ 3 * xs.length := blankF_len numT numT_len xs

set_option maxRecDepth 100000 in
set_option maxHeartbeats 2000000 in
/-- The numbers lie where the builder does not write, wherever that is. -/
theorem writeWordsF_any (F : Nat) (txt : Int → List Int) (ht : ∀ x, (txt x).length ≤ 2) (B : Nat) (bs : List Value) (A : Option Addr) (n cap : Nat) (xs : List Int) (w : World) (hxl : xs.length = n) (hx : ∀ wr, Below B w wr → Kept B w wr → NumsAt wr A n xs) (hBw : B ≤ w.heap.size) (h : Bldr B bs w) (hlen : bs.length ≤ 1000000) (hn : n ≤ 1000)
    (henter : ∀ (args : Array Value) (W : World), (callFunc F args).run Tryd.prog W = .ok (.enter F args) W)
    (hcall : ∀ x, x ∈ xs → ∀ W, Calls Tryd.prog F #[.int .i64 x] W fun e w' => e = .returned (.string (strOfNums (txt x))) ∧ w' = W) :
    Calls Tryd.prog 52 #[.pointer (some ⟨B, 0, none⟩), .slice A n cap, .func (.func F) #[] #[]] w fun e w' => e = .returned (.tuple #[]) ∧ (Bldr B (bs ++ Lib.strCells (strOfNums (blankF txt xs ++ [10]))) w' ∧ Below B w w') ∧ Kept B w w' := by
  have HX := Lib.hid hx
  have HD := Lib.hid h
  have HEN := Lib.hid henter
  have HC := Lib.hid hcall
  clear hx h henter hcall
  go_enter Tryd.func52, Tryd.ntmps52
  go_wp2_with fail
  go_loopw [10] (fun i wr => ∃ k : Nat, k ≤ n ∧ i = .int .i64 k ∧ Bldr B (bs ++ Lib.strCells (strOfNums (blankF txt (xs.take k)))) wr ∧ Below B w wr ∧ B ≤ wr.heap.size ∧ Kept B w wr) (fun i _ => n - (intOf i).toNat)
  case atStart => exact ⟨0, Nat.zero_le _, rfl, by simpa [blankF, strOfNums, Lib.strCells] using HD.out, Below.refl _ _, hBw, Kept.refl _ _⟩
  case round =>
    obtain ⟨k, hk, rfl, hbd, hbel, hbs, hkp⟩ := hrel
    have HBD := Lib.hid hbd
    have HW := Lib.hid hbel
    have HBS := Lib.hid hbs
    have HK := Lib.hid hkp
    clear hbd hbel hbs hkp
    have HTL := Lib.hid (show (blankF txt (xs.take k)).length ≤ 3000 by
      have := blankF_len txt ht (xs.take k)
      rw [List.length_take] at this
      omega)
    by_cases hlt : k < n
    · obtain ⟨x, b, off, hxk, rfl, hc⟩ := (HX.out wr HW.out HK.out).at_ hlt
      have HXX := Lib.hid hxk
      have HTX := Lib.hid (ht x)
      have hk0 : (0 : Int) ≤ (k : Int) := by omega
      have hkl : (k : Int) < (n : Int) := by omega
      clear hxk
      go_wp2_with fail
      refine (writeByte_kept B _ 32 wr HBD.out (by rw [List.length_append, Lib.strCells_length, strOfNums_size]; have := HTL.out; omega) HBS.out).mono ?_
      rintro e w5 ⟨rfl, hat5, b5, k5⟩
      have HBD5 := Lib.hid hat5
      have HW5 := Lib.hid (HW.out.trans b5)
      have HBS5 := Lib.hid (Nat.le_trans HBS.out b5.size)
      have HK5 := Lib.hid (HK.out.trans k5)
      clear hat5 b5 hc k5
      go_wp2_with fail
      rw [HEN.out, Oper.upon_enter]
      refine (HC.out x (List.mem_of_getElem? HXX.out) w5).mono ?_
      rintro e w6 ⟨rfl, rfl⟩
      go_wp2_with fail
      refine (writeString_kept B _ (strOfNums (txt x)) _ HBD5.out (by rw [List.length_append, List.length_append, Lib.strCells_length, strOfNums_size, strOfNums_size]; have := HTL.out; have := HTX.out; simp only [List.length_cons, List.length_nil]; omega) HBS5.out).mono ?_
      rintro e w7 ⟨rfl, hat7, b7, k7⟩
      have HBD7 := Lib.hid hat7
      have HW7 := Lib.hid (HW5.out.trans b7)
      have HBS7 := Lib.hid (Nat.le_trans HBS5.out b7.size)
      have HK7 := Lib.hid (HK5.out.trans k7)
      clear hat7 b7 k7
      go_wp2_with fail
      go_roundw
      case rel =>
        refine ⟨k + 1, by omega, by go_num, ?_, HW7.out, HBS7.out, HK7.out⟩
        rw [blankF_take txt HXX.out, strNums_app, strCells_app, bytesF_cells, ← List.append_assoc, ← List.append_assoc]
        exact HBD7.out
      case measure => simp [intOf]; omega
    · have hkl : k = n := by omega
      subst hkl
      go_wp2_with fail
      refine (writeByte_kept B _ 10 wr HBD.out (by rw [List.length_append, Lib.strCells_length, strOfNums_size]; have := HTL.out; omega) HBS.out).mono ?_
      rintro e w5 ⟨rfl, hat5, b5, k5⟩
      rw [List.take_of_length_le (Nat.le_of_eq hxl)] at hat5
      have HBD5 := Lib.hid hat5
      have HW5 := Lib.hid (HW.out.trans b5)
      have HK5 := Lib.hid (HK.out.trans k5)
      clear hat5 b5 k5
      go_wp2_with fail
      go_end0
      exact ⟨rfl, ⟨by rw [strNums_cells, ← List.append_assoc]; exact HBD5.out, HW5.out⟩, HK5.out⟩

set_option maxRecDepth 100000 in
theorem writeWords_kept (B : Nat) (bs : List Value) (A : Option Addr) (n cap : Nat) (xs : List Int) (w : World) (hxl : xs.length = n) (hx : ∀ wr, Below B w wr → Kept B w wr → NumsAt wr A n xs) (hBw : B ≤ w.heap.size) (h : Bldr B bs w) (hlen : bs.length ≤ 1000000) (hn : n ≤ 1000) (hsm : ∀ (k : Nat) (x : Int), xs[k]? = some x → ∃ q : Nat, x = (q : Int) ∧ q ≤ 10) :
    Calls Tryd.prog 52 #[.pointer (some ⟨B, 0, none⟩), .slice A n cap, .func (.func 24) #[] #[]] w fun e w' => e = .returned (.tuple #[]) ∧ (Bldr B (bs ++ Lib.strCells (strOfNums (lineT xs ++ [10]))) w' ∧ Below B w w') ∧ Kept B w w' :=
  writeWordsF_any _ numT numT_len B bs A n cap xs w hxl hx hBw h hlen hn (fun _ _ => rfl) (fun x hx' W => by
    obtain ⟨k, hk⟩ := List.getElem?_of_mem hx'
    obtain ⟨q, rfl, hq⟩ := hsm k x hk
    exact numberText_any q W hq)
theorem writeWords_any (B : Nat) (bs : List Value) (A : Option Addr) (n cap : Nat) (xs : List Int) (w0 w : World) (hx : NumsAt w0 A n xs) (hb : Below w0.heap.size w0 w) (hB : w0.heap.size ≤ B) (hBw : B ≤ w.heap.size) (h : Bldr B bs w) (hlen : bs.length ≤ 1000000) (hn : n ≤ 1000) (hsm : ∀ (k : Nat) (x : Int), xs[k]? = some x → ∃ q : Nat, x = (q : Int) ∧ q ≤ 10) :
    Calls Tryd.prog 52 #[.pointer (some ⟨B, 0, none⟩), .slice A n cap, .func (.func 24) #[] #[]] w fun e w' => e = .returned (.tuple #[]) ∧ (Bldr B (bs ++ Lib.strCells (strOfNums (lineT xs ++ [10]))) w' ∧ Below B w w') :=
  (writeWords_kept B bs A n cap xs w hx.1 (fun _ b _ => hx.below (hb.trans (b.mono hB))) hBw h hlen hn hsm).mono fun _ _ ⟨h1, h2, _⟩ => ⟨h1, h2⟩

end Go.Proofs.YtkfajimhooidcaaDoor
