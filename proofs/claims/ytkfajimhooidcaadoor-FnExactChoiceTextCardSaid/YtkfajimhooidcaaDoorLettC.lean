/-
  Texts of letters for sets: the contracts of the program's writeWords and lettersText for lists.
-/
import Derived.Test.YtkfajimhooidcaaDoorCellT
import Derived.Test.YtkfajimhooidcaaDoorChoV
namespace Go.Proofs.YtkfajimhooidcaaDoor
open Go.RowKit Go.Deep Go.ChangeShapes Go.WideShapes

/-- The words of a list, a blank in front of each one. -/
def blankC : List (List Int) → List Int
  | [] => []
  | x :: xs => 32 :: cellT x ++ blankC xs
theorem blankC_snoc : ∀ (xs : List (List Int)) (x : List Int), blankC (xs ++ [x]) = blankC xs ++ (32 :: cellT x)
  | [], x => by simp [blankC]
  | y :: xs, x => by
    show 32 :: cellT y ++ blankC (xs ++ [x]) = _
    rw [blankC_snoc xs x]
    simp [blankC]
theorem blankC_take {xs : List (List Int)} {k : Nat} {x : List Int} (h : xs[k]? = some x) : blankC (xs.take (k + 1)) = blankC (xs.take k) ++ (32 :: cellT x) := by rw [take_snoc h, blankC_snoc]
theorem blankC_len : ∀ (xs : List (List Int)), (∀ x ∈ xs, x.length ≤ 10) → (blankC xs).length ≤ 31 * xs.length
  | [], _ => by simp [blankC]
  | x :: xs, h => by
    have h1 := blankC_len xs (fun y hy => h y (List.mem_cons_of_mem _ hy))
    have h2 := cellT_len (h x (List.mem_cons_self ..))
    simp only [blankC, List.length_append, List.length_cons]
    omega
def SmallC (x : List Int) : Prop := x.length ≤ 10 ∧ ∀ y, y ∈ x → ∃ q : Nat, y = (q : Int) ∧ q ≤ 10

set_option maxRecDepth 100000 in
set_option maxHeartbeats 2000000 in
theorem writeWordsC_any (B : Nat) (bs : List Value) (A : Option Addr) (n cap : Nat) (xs : List (List Int)) (w0 w : World) (hx : RowsAt w0 A n xs) (hb : Below w0.heap.size w0 w) (hB : w0.heap.size ≤ B) (hBw : B ≤ w.heap.size) (h : Bldr B bs w) (hlen : bs.length ≤ 1000000) (hn : n ≤ 1000) (hsm : ∀ x, x ∈ xs → SmallC x) :
    Calls Tryd.prog 53 #[.pointer (some ⟨B, 0, none⟩), .slice A n cap, .func (.func 36) #[] #[]] w fun e w' => e = .returned (.tuple #[]) ∧ (Bldr B (bs ++ Lib.strCells (strOfNums (blankC xs ++ [10]))) w' ∧ Below B w w') := by
  have HX := Lib.hid hx
  have HB0 := Lib.hid hb
  have HS := Lib.hid hsm
  have HL := Lib.hid hx.1
  have HD := Lib.hid h
  clear hx hb hsm h
  go_enter Tryd.func53, Tryd.ntmps53
  go_wp2_with fail
  go_loopw [10] (fun i wr => ∃ k : Nat, k ≤ n ∧ i = .int .i64 k ∧ Bldr B (bs ++ Lib.strCells (strOfNums (blankC (xs.take k)))) wr ∧ Below B w wr ∧ B ≤ wr.heap.size) (fun i _ => n - (intOf i).toNat)
  case atStart => exact ⟨0, Nat.zero_le _, rfl, by simpa [blankC, strOfNums, Lib.strCells] using HD.out, Below.refl _ _, hBw⟩
  case round =>
    obtain ⟨k, hk, rfl, hbd, hbel, hbs⟩ := hrel
    have HBD := Lib.hid hbd
    have HW := Lib.hid hbel
    have HBS := Lib.hid hbs
    clear hbd hbel hbs
    have HTL := Lib.hid (show (blankC (xs.take k)).length ≤ 31000 by
      have := blankC_len (xs.take k) (fun x hx => (HS.out x (List.mem_of_mem_take hx)).1)
      rw [List.length_take] at this
      omega)
    by_cases hlt : k < n
    · obtain ⟨x, b, off, A1, a1, hxk, rfl, hc2, hnum1⟩ := HX.out.at_ hlt
      have hbw0 : Below w0.heap.size w0 wr := HB0.out.trans (HW.out.mono hB)
      have hc : wr.cell? ⟨b, off + k, none⟩ = some (.slice A1 x.length a1) := (hbw0.cell (cell_lt hc2)).trans hc2
      have HXX := Lib.hid hxk
      have HN := Lib.hid hnum1
      have HSX := Lib.hid (HS.out x (List.mem_of_getElem? hxk))
      have hk0 : (0 : Int) ≤ (k : Int) := by omega
      have hkl : (k : Int) < (n : Int) := by omega
      clear hxk hnum1 hc2 hbw0
      go_wp2_with fail
      refine (writeByte_any B _ 32 wr HBD.out (by rw [List.length_append, Lib.strCells_length, strOfNums_size]; have := HTL.out; omega) HBS.out).mono ?_
      rintro e w5 ⟨rfl, hat5, b5⟩
      have HBD5 := Lib.hid hat5
      have HW5 := Lib.hid (HW.out.trans b5)
      have HBS5 := Lib.hid (Nat.le_trans HBS.out b5.size)
      clear hat5 b5 hc
      go_wp2_with fail
      refine (setText_any A1 x.length a1 x w5 (HN.out.below (HB0.out.trans (HW5.out.mono hB))) HSX.out.1 HSX.out.2).mono ?_
      rintro e w6 ⟨rfl, b6⟩
      have HBD6 := Lib.hid (bldr_below HBD5.out b6)
      have HW6 := Lib.hid (HW5.out.trans (b6.mono HBS5.out))
      have HBS6 := Lib.hid (Nat.le_trans HBS5.out b6.size)
      clear b6
      go_wp2_with fail
      refine (writeString_any B _ (strOfNums (cellT x)) _ HBD6.out (by rw [List.length_append, List.length_append, Lib.strCells_length, strOfNums_size, strOfNums_size]; have := HTL.out; have := cellT_len HSX.out.1; simp only [List.length_cons, List.length_nil]; omega) HBS6.out).mono ?_
      rintro e w7 ⟨rfl, hat7, b7⟩
      have HBD7 := Lib.hid hat7
      have HW7 := Lib.hid (HW6.out.trans b7)
      have HBS7 := Lib.hid (Nat.le_trans HBS6.out b7.size)
      clear hat7 b7
      go_wp2_with fail
      go_roundw
      case rel =>
        refine ⟨k + 1, by omega, by go_num, ?_, HW7.out, HBS7.out⟩
        rw [blankC_take HXX.out, strNums_app, strCells_app, bytesF_cells, ← List.append_assoc, ← List.append_assoc]
        exact HBD7.out
      case measure => simp [intOf]; omega
    · have hkl : k = n := by omega
      subst hkl
      go_wp2_with fail
      refine (writeByte_any B _ 10 wr HBD.out (by rw [List.length_append, Lib.strCells_length, strOfNums_size]; have := HTL.out; omega) HBS.out).mono ?_
      rintro e w5 ⟨rfl, hat5, b5⟩
      rw [List.take_of_length_le (Nat.le_of_eq HL.out)] at hat5
      have HBD5 := Lib.hid hat5
      have HW5 := Lib.hid (HW.out.trans b5)
      clear hat5 b5
      go_wp2_with fail
      go_end0
      exact ⟨rfl, by rw [strNums_cells, ← List.append_assoc]; exact HBD5.out, HW5.out⟩

/-- The line of a letter. -/
def letterC (xs : List (List Int)) : List Int := [108, 101, 116, 116, 101, 114] ++ (blankC xs ++ [10])
def lettersC : List (List (List Int)) → List Int
  | [] => []
  | xs :: xss => letterC xs ++ lettersC xss
theorem lettersC_snoc : ∀ (xss : List (List (List Int))) (xs : List (List Int)), lettersC (xss ++ [xs]) = lettersC xss ++ letterC xs
  | [], xs => by simp [lettersC]
  | y :: xss, xs => by
    show letterC y ++ lettersC (xss ++ [xs]) = _
    rw [lettersC_snoc xss xs]
    simp [lettersC]
theorem lettersC_take {xss : List (List (List Int))} {k : Nat} {xs : List (List Int)} (h : xss[k]? = some xs) : lettersC (xss.take (k + 1)) = lettersC (xss.take k) ++ letterC xs := by rw [take_snoc h, lettersC_snoc]
theorem letterC_len (xs : List (List Int)) (h : ∀ x ∈ xs, x.length ≤ 10) : (letterC xs).length ≤ 7 + 31 * xs.length := by
  have := blankC_len xs h
  simp only [letterC, List.length_append, List.length_cons, List.length_nil]
  omega
/-- Lists of lists of at most ten sets of at most ten states. -/
def SmallCC (xss : List (List (List Int))) : Prop := ∀ (r : Nat) (xs : List (List Int)), xss[r]? = some xs → xs.length ≤ 10 ∧ ∀ x, x ∈ xs → SmallC x
theorem lettersC_len : ∀ {xss : List (List (List Int))}, (∀ xs ∈ xss, xs.length ≤ 10 ∧ ∀ x, x ∈ xs → SmallC x) → (lettersC xss).length ≤ 317 * xss.length
  | [], _ => by simp [lettersC]
  | x :: xss, h => by
    have h1 := h x (List.mem_cons_self ..)
    have h2 := lettersC_len (xss := xss) (fun y hy => h y (List.mem_cons_of_mem _ hy))
    have h3 := letterC_len x (fun y hy => (h1.2 y hy).1)
    rw [List.length_cons, Nat.mul_add, Nat.mul_one]
    simp only [lettersC, List.length_append]
    omega
theorem lettersC_room {n : Nat} {xss : List (List (List Int))} (hn : xss.length = n) (hn10 : n ≤ 10) (hr : SmallCC xss) (k : Nat) : (lettersC (xss.take k)).length ≤ 3170 := by
  have h1 := lettersC_len (xss := xss.take k) (fun x hx => by
    obtain ⟨r, hr'⟩ := List.getElem?_of_mem (List.mem_of_mem_take hx)
    exact hr r x hr')
  have h2 : (xss.take k).length ≤ 10 := by rw [List.length_take]; omega
  have := Nat.mul_le_mul_left 317 h2
  omega

set_option maxRecDepth 100000 in
set_option maxHeartbeats 4000000 in
theorem lettersTextC_any (K : List Int) (hK : K.length ≤ 20) (S : ByteArray) (hS : S = strOfNums K) (base : Nat) (C : Option Addr) (nc cc : Nat) (cs : List Int) (A : Option Addr) (n cap : Nat) (xss : List (List (List Int))) (w0 w : World)
    (hown : w.ownsRow base 2 1 (.slice C nc cc) nc (cs.map (Value.int .i64))) (hcl : cs.length = nc) (hnc : nc ≤ 3) (hbw : base ≤ w.heap.size)
    (hcs : ∀ (k : Nat) (x : Int), (cs ++ [(n : Int)])[k]? = some x → ∃ q : Nat, x = (q : Int) ∧ q ≤ 10)
    (hx : TabsAt w0 A n xss) (hb0 : Below w0.heap.size w0 w) (hle : w0.heap.size ≤ base) (hn : n ≤ 10) (hrl : SmallCC xss) :
    Calls Tryd.prog 35 #[.string S, .slice C nc cc, .slice A n cap, .func (.func 36) #[] #[]] w fun e w' => e = .returned (.string (strOfNums (K ++ (lineT (cs ++ [(n : Int)]) ++ [10]) ++ lettersC xss))) ∧ Below base w w' := by
  obtain ⟨i0, hi, hz0, hz1, hz2⟩ := info_parts info_int64
  have HL := Lib.hid hx.1
  have HX := Lib.hid hx
  have HR := Lib.hid hrl
  have HCS := Lib.hid hcs
  have HCL := Lib.hid hcl
  have HBW := Lib.hid hbw
  have HLE := Lib.hid hle
  have HB0 := Lib.hid hb0
  have hSs : S.size ≤ 20 := by rw [hS, strOfNums_size]; exact hK
  obtain ⟨w1, hw1⟩ : ∃ w1, w1 = w.alloc (.cells #[.pointer none, .slice none 0 0] 85) := ⟨_, rfl⟩
  have hbl1 : Bldr w.heap.size [] w1 := by rw [hw1]; exact bldr_new w
  have b1 : Below w.heap.size w w1 := by rw [hw1]; exact (Below.refl _ _).alloc (Nat.le_refl _) _
  have HO1 := Lib.hid (own_below hown b1)
  obtain ⟨B, hB⟩ : ∃ B, B = w.heap.size := ⟨_, rfl⟩
  rw [← hB] at hbl1 b1
  have hBb : base ≤ B := by rw [hB]; exact hbw
  have hBs1 : B ≤ w1.heap.size := by rw [hB]; exact (show Below w.heap.size w w1 by rw [← hB]; exact b1).size
  have HW1 := Lib.hid hw1
  have HBB := Lib.hid hB
  have HBL1 := Lib.hid hbl1
  have W1 := Lib.hid b1
  have HS := Lib.hid hS
  clear hx hrl hcs hcl hbw hle hb0 hw1 hB hbl1 b1 hown
  go_enter Tryd.func35, Tryd.ntmps35
  clear hS
  go_wp2_with fail
  rw [← HW1.out, ← HBB.out]
  refine (writeString_kept B [] S w1 HBL1.out (by simp only [List.length_nil]; omega) hBs1).mono ?_
  rintro e w2 ⟨rfl, hat2, b2, k2⟩
  have HBL2 := Lib.hid hat2
  have W2 := Lib.hid (W1.out.trans b2)
  have hBs2 : B ≤ w2.heap.size := Nat.le_trans hBs1 b2.size
  have HO2 := Lib.hid (own_kept HBL1.out HO1.out k2)
  clear hat2 b2 k2
  go_wp2_with (at_builtin; (refine wpList_append_own _ rfl _ _ 68 rfl base 2 i0 (.int .i64 0) 1 8 Tryd.underlying68 hi hz0 hz1 hz2 rfl (by decide) _ _ _ rfl (HO2.out.alloc _) ⟨w2.heap.size, 0, none⟩ 1 1 [.int .i64 (n : Int)] rfl rfl (cell_one_new _ _ _) (ones_i64 [(n : Int)]) (by unfold maxLen; omega) (by omega) (by rw [World.size_alloc]; omega) ?_))
  intro v' w3 hown' hgrow _
  obtain ⟨A3, c3, rfl⟩ := own_form hown'
  have ba : Below w2.heap.size w2 (w2.alloc (.cells #[.int .i64 (n : Int)] 2)) := (Below.refl _ _).alloc (Nat.le_refl _) _
  have HBL3 := Lib.hid (bldr_grown (bldr_below HBL2.out ba) (HO2.out.alloc _) hgrow)
  have HO3 := Lib.hid (show w3.ownsRow base 2 1 (.slice A3 (nc + 1) c3) (nc + 1) ((cs ++ [(n : Int)]).map (Value.int .i64)) by rw [List.map_append]; exact hown')
  have W3 := Lib.hid (show Below base w w3 from (((W2.out.mono hBb).alloc (by omega) (.cells #[.int .i64 (n : Int)] 2)).grown hgrow (by rw [World.size_alloc]; omega) (fun k hk => (HO2.out.lt k hk).1)))
  have hBs3 : B ≤ w3.heap.size := Nat.le_trans hBs2 (Nat.le_trans ba.size hgrow.size)
  have hl3 : (cs ++ [(n : Int)]).length = nc + 1 := by rw [List.length_append, HCL.out]; rfl
  clear hown' hgrow ba
  go_wp2_with fail
  refine (writeWords_kept B _ A3 (nc + 1) c3 (cs ++ [(n : Int)]) w3 hl3 (fun wr _ k => NumsAt.own (own_kept HBL3.out HO3.out k) hl3 rfl) hBs3 HBL3.out (by rw [List.nil_append, HS.out, strCells_size]; omega) (by omega) HCS.out).mono ?_
  rintro e w4 ⟨rfl, ⟨hat4, b4⟩, _⟩
  have HBL4 := Lib.hid (show Bldr B (Lib.strCells (strOfNums (K ++ (lineT (cs ++ [(n : Int)]) ++ [10])))) w4 by
    rw [strNums_app K, strCells_app, ← HS.out]
    exact hat4)
  have W4 := Lib.hid (W3.out.trans (b4.mono hBb))
  have hBs4 : B ≤ w4.heap.size := Nat.le_trans hBs3 b4.size
  have HLEN := Lib.hid (show (K ++ (lineT (cs ++ [(n : Int)]) ++ [10])).length ≤ 40 by
    have := lineT_len (cs ++ [(n : Int)])
    rw [hl3] at this
    simp only [List.length_append, List.length_cons, List.length_nil] at this ⊢
    omega)
  obtain ⟨H, hH⟩ : ∃ H, H = K ++ (lineT (cs ++ [(n : Int)]) ++ [10]) := ⟨_, rfl⟩
  have HH := Lib.hid hH
  have HBL5 := Lib.hid (show Bldr B (Lib.strCells (strOfNums (H ++ lettersC (xss.take 0)))) w4 by rw [hH, List.take_zero, lettersC, List.append_nil]; exact HBL4.out)
  have hHl : H.length ≤ 40 := by rw [hH]; exact HLEN.out
  clear hat4 b4 hH
  go_wp2_with fail
  go_loopw [22] (fun i wr => ∃ k : Nat, k ≤ n ∧ i = .int .i64 k ∧ Bldr B (Lib.strCells (strOfNums (H ++ lettersC (xss.take k)))) wr ∧ Below base w wr ∧ B ≤ wr.heap.size) (fun i _ => n - (intOf i).toNat)
  case atStart => exact ⟨0, Nat.zero_le _, rfl, HBL5.out, W4.out, hBs4⟩
  case round =>
    obtain ⟨k, hk, rfl, hbd, hbel, hbs⟩ := hrel
    have HBD := Lib.hid hbd
    have HWR := Lib.hid hbel
    have HBS := Lib.hid hbs
    have HTL := Lib.hid (show (Lib.strCells (strOfNums (H ++ lettersC (xss.take k)))).length ≤ 3300 by
      rw [strCells_size, List.length_append]
      have := lettersC_room HL.out hn HR.out k
      omega)
    clear hbd hbel hbs
    by_cases hlt : k < n
    · obtain ⟨xs, b, off, A1, a1, hxk, rfl, hc2, hnum1⟩ := HX.out.at_ hlt
      have hbw0 : Below w0.heap.size w0 wr := HB0.out.trans (HWR.out.mono HLE.out)
      have hc1 : wr.cell? ⟨b, off + k, none⟩ = some (.slice A1 xs.length a1) := (hbw0.cell (cell_lt hc2)).trans hc2
      have HXX := Lib.hid hxk
      have HN := Lib.hid hnum1
      have HBW0 := Lib.hid hbw0
      have hk0 : (0 : Int) ≤ (k : Int) := by omega
      have hkl : (k : Int) < (n : Int) := by omega
      clear hxk hnum1 hc2 hbw0
      go_wp2_with fail
      refine (writeString_any B _ ⟨#[108, 101, 116, 116, 101, 114]⟩ wr HBD.out (by have := HTL.out; have : (⟨#[108, 101, 116, 116, 101, 114]⟩ : ByteArray).size = 6 := rfl; omega) HBS.out).mono ?_
      rintro e w5 ⟨rfl, hat5, b5⟩
      have HBD5 := Lib.hid hat5
      have HW5 := Lib.hid (HWR.out.trans (b5.mono hBb))
      have HBS5 := Lib.hid (Nat.le_trans HBS.out b5.size)
      clear hat5 b5 hc1
      go_wp2_with fail
      refine (writeWordsC_any B _ A1 xs.length a1 xs w0 w5 HN.out (HB0.out.trans (HW5.out.mono HLE.out)) (Nat.le_trans HLE.out hBb) HBS5.out HBD5.out (by rw [List.length_append, letter_cells, strCells_size [108, 101, 116, 116, 101, 114]]; have := HTL.out; simp only [List.length_cons, List.length_nil]; omega) (by have := (HR.out _ _ HXX.out).1; omega) (HR.out _ _ HXX.out).2).mono ?_
      rintro e w6 ⟨rfl, hat6, b6⟩
      have HBD6 := Lib.hid hat6
      have HW6 := Lib.hid (HW5.out.trans (b6.mono hBb))
      have HBS6 := Lib.hid (Nat.le_trans HBS5.out b6.size)
      clear hat6 b6
      go_wp2_with fail
      go_roundw
      case rel =>
        refine ⟨k + 1, by omega, by go_num, ?_, HW6.out, HBS6.out⟩
        rw [lettersC_take HXX.out, letterC, ← List.append_assoc, ← List.append_assoc, strNums_app, strCells_app, strNums_app, strCells_app, ← letter_cells]
        exact HBD6.out
      case measure => simp [intOf]; omega
    · have hkl : k = n := by omega
      subst hkl
      have hbd := HBD.out
      rw [List.take_of_length_le (Nat.le_of_eq HL.out), Lib.strCells_eq] at hbd
      have HBE := Lib.hid hbd
      clear hbd
      go_wp2_with fail
      refine (Tryd.Builder_String_any B B _ wr HBE.out HBS.out).mono ?_
      rintro e w5 ⟨rfl, b5⟩
      rw [str_back]
      have HW5 := Lib.hid (HWR.out.trans (b5.mono hBb))
      obtain ⟨R, hR⟩ : ∃ R, R = strOfNums (H ++ lettersC xss) := ⟨_, rfl⟩
      rw [← hR]
      have HRR := Lib.hid hR
      clear hR b5
      go_wp2_with fail
      go_ret
      exact ⟨by rw [← HH.out, ← HRR.out]; rfl, HW5.out⟩

end Go.Proofs.YtkfajimhooidcaaDoor
