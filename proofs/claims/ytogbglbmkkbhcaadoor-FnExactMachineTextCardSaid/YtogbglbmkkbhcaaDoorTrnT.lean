/-
  The word for a transition: the contract of the program's transitionText; rows of transitions, and the contracts of writeWords and lettersText over them.
-/
import Derived.Test.YtogbglbmkkbhcaaDoorLett
import Derived.Test.YtogbglbmkkbhcaaDoorMachR
import Derived.Test.YtogbglbmkkbhcaaDoorOwn2
import Derived.BigQuiet
namespace Go.Proofs.YtogbglbmkkbhcaaDoor
open Go.RowKit Go.Deep Go.ChangeShapes Go.WideShapes

def transT (p : Nat × Nat) : List Int := decT p.1 ++ (47 :: decT p.2)
theorem transT_len (p : Nat × Nat) : (transT p).length ≤ 5 := by
  have h1 := decT_len p.1
  have h2 := decT_len p.2
  simp only [transT, List.length_append, List.length_cons]
  omega
theorem ret_strT {a b : ByteArray} (h : a = b) : Ending.returned (.string a) = .returned (.string b) := by rw [h]
theorem transT_str (x o : Nat) : strOfNums (decT x) ++ ⟨#[47]⟩ ++ strOfNums (decT o) = strOfNums (transT (x, o)) := by
  rw [show (⟨#[47]⟩ : ByteArray) = strOfNums [47] from by apply ByteArray.ext; rfl, ← strNums_app, ← strNums_app]
  congr 1
  simp [transT]

set_option maxRecDepth 100000 in
set_option maxHeartbeats 1000000 in
theorem transitionText_any (x o : Nat) (w : World) (hx : x ≤ 10) (ho : o ≤ 10) :
    Calls Tryd.prog 63 #[.agg #[.int .i64 (x : Int), .int .i64 (o : Int)]] w fun e w' => e = .returned (.string (strOfNums (transT (x, o)))) ∧ Below w.heap.size w w' := by
  obtain ⟨X, hX⟩ : ∃ X, X = strOfNums (decT x) := ⟨_, rfl⟩
  obtain ⟨Y, hY⟩ : ∃ Y, Y = strOfNums (decT o) := ⟨_, rfl⟩
  have hXs : X.size ≤ 2 := by rw [hX, strOfNums_size]; exact decT_len x
  have hYs : Y.size ≤ 2 := by rw [hY, strOfNums_size]; exact decT_len o
  have hXY : X ++ ⟨#[47]⟩ ++ Y = strOfNums (transT (x, o)) := by rw [hX, hY, transT_str]
  have HC1 := Lib.hid (show ∀ W, Calls Tryd.prog 39 #[.int .i64 (x : Int)] W fun e w' => e = .returned (.string X) ∧ W = w' from fun W => by rw [hX]; exact (numberText_any x W hx).mono fun _ _ h => ⟨h.1, h.2.symm⟩)
  have HC2 := Lib.hid (show ∀ W, Calls Tryd.prog 39 #[.int .i64 (o : Int)] W fun e w' => e = .returned (.string Y) ∧ W = w' from fun W => by rw [hY]; exact (numberText_any o W ho).mono fun _ _ h => ⟨h.1, h.2.symm⟩)
  have HXY := Lib.hid hXY
  have g1 : ¬ 9223372036854775807 < X.size + 1 := by omega
  have g2 : ¬ 9223372036854775807 < X.size + 1 + Y.size := by omega
  obtain ⟨w1, hw1⟩ : ∃ w1, w1 = w.alloc (.cells #[.int .i64 (x : Int), .int .i64 (o : Int)] 105) := ⟨_, rfl⟩
  have W1 := Lib.hid (show Below w.heap.size w w1 by rw [hw1]; exact (Below.refl _ _).alloc (Nat.le_refl _) _)
  have c0 : w1.cell? ⟨w.heap.size, 0, none⟩ = some (.int .i64 (x : Int)) := by rw [hw1]; go_cell
  have c1 : w1.cell? ⟨w.heap.size, 1, none⟩ = some (.int .i64 (o : Int)) := by rw [hw1]; go_cell
  have HW := Lib.hid hw1
  clear hX hY hXY hw1
  go_enter Tryd.func63, Tryd.ntmps63
  go_wp2_with fail
  rw [← HW.out]
  go_quiet ((go_at_call 39; first | exact quiet_eq (HC1.out _) | exact quiet_eq (HC2.out _)))
  go_wp2_with fail
  go_ret
  exact ⟨ret_strT (by rw [← HXY.out]), below_drewN' W1.out _⟩

/-- The slice with the address A and the length n reads as the pairs ps. -/
def PairsAt (w : World) (A : Option Addr) (n : Nat) (ps : List (Nat × Nat)) : Prop :=
  ps.length = n ∧ ∀ (k : Nat) (p : Nat × Nat), ps[k]? = some p → ∃ g, A = some ⟨g, 0, none⟩ ∧ w.cell? ⟨g, k * 2, none⟩ = some (.int .i64 (p.1 : Int)) ∧ w.cell? ⟨g, k * 2 + 1, none⟩ = some (.int .i64 (p.2 : Int))
theorem PairsAt.at_ {w : World} {A : Option Addr} {n : Nat} {ps : List (Nat × Nat)} (h : PairsAt w A n ps) {k : Nat} (hk : k < n) :
    ∃ x o g, ps[k]? = some (x, o) ∧ A = some ⟨g, 0, none⟩ ∧ w.cell? ⟨g, k * 2, none⟩ = some (.int .i64 (x : Int)) ∧ w.cell? ⟨g, k * 2 + 1, none⟩ = some (.int .i64 (o : Int)) := by
  have hl : k < ps.length := by rw [h.1]; exact hk
  obtain ⟨g, e, h1, h2⟩ := h.2 k ps[k] (List.getElem?_eq_getElem hl)
  exact ⟨ps[k].1, ps[k].2, g, List.getElem?_eq_getElem hl, e, h1, h2⟩
theorem PairsAt.below {w w' : World} {A : Option Addr} {n : Nat} {ps : List (Nat × Nat)} (h : PairsAt w A n ps) (hb : Below w.heap.size w w') : PairsAt w' A n ps :=
  ⟨h.1, fun k p hp => by
    obtain ⟨g, e, h1, h2⟩ := h.2 k p hp
    exact ⟨g, e, (hb.cell (cell_lt h1)).trans h1, (hb.cell (cell_lt h2)).trans h2⟩⟩
/-- The slice with the address A and the length n reads as the lists of pairs pss. -/
def PairRows (w : World) (A : Option Addr) (n : Nat) (pss : List (List (Nat × Nat))) : Prop :=
  pss.length = n ∧ ∀ (r : Nat) (ps : List (Nat × Nat)), pss[r]? = some ps → ∃ g A' c', A = some ⟨g, 0, none⟩ ∧ w.cell? ⟨g, r, none⟩ = some (.slice A' ps.length c') ∧ PairsAt w A' ps.length ps
theorem PairRows.at_ {w : World} {A : Option Addr} {n : Nat} {pss : List (List (Nat × Nat))} (h : PairRows w A n pss) {r : Nat} (hr : r < n) :
    ∃ ps g A' c', pss[r]? = some ps ∧ A = some ⟨g, 0, none⟩ ∧ w.cell? ⟨g, r, none⟩ = some (.slice A' ps.length c') ∧ PairsAt w A' ps.length ps := by
  have hl : r < pss.length := by rw [h.1]; exact hr
  obtain ⟨g, A', c', e, h1, h2⟩ := h.2 r pss[r] (List.getElem?_eq_getElem hl)
  exact ⟨_, g, A', c', List.getElem?_eq_getElem hl, e, h1, h2⟩

/-- The words of a list, a blank in front of each one. -/
def blankP : List (Nat × Nat) → List Int
  | [] => []
  | x :: xs => 32 :: transT x ++ blankP xs
theorem blankP_snoc : ∀ (xs : List (Nat × Nat)) (x : Nat × Nat), blankP (xs ++ [x]) = blankP xs ++ (32 :: transT x)
  | [], x => by simp [blankP]
  | y :: xs, x => by
    show 32 :: transT y ++ blankP (xs ++ [x]) = _
    rw [blankP_snoc xs x]
    simp [blankP]
theorem blankP_take {xs : List (Nat × Nat)} {k : Nat} {x : Nat × Nat} (h : xs[k]? = some x) : blankP (xs.take (k + 1)) = blankP (xs.take k) ++ (32 :: transT x) := by rw [take_snoc h, blankP_snoc]
theorem blankP_len : ∀ (xs : List (Nat × Nat)), (blankP xs).length ≤ 6 * xs.length
  | [] => by simp [blankP]
  | x :: xs => by
    have h1 := blankP_len xs
    have h2 := transT_len x
    simp only [blankP, List.length_append, List.length_cons]
    omega
def SmallP (p : Nat × Nat) : Prop := p.1 ≤ 10 ∧ p.2 ≤ 10

set_option maxRecDepth 100000 in
set_option maxHeartbeats 2000000 in
theorem writeWordsP_any (B : Nat) (bs : List Value) (A : Option Addr) (n cap : Nat) (xs : List (Nat × Nat)) (w0 w : World) (hx : PairsAt w0 A n xs) (hb : Below w0.heap.size w0 w) (hB : w0.heap.size ≤ B) (hBw : B < w.heap.size) (h : Bldr B bs w) (hlen : bs.length ≤ 1000000) (hn : n ≤ 1000) (hsm : ∀ x, x ∈ xs → SmallP x) :
    Calls Tryd.prog 89 #[.pointer (some ⟨B, 0, none⟩), .slice A n cap, .func (.func 63) #[] #[]] w fun e w' => e = .returned (.tuple #[]) ∧ (Bldr B (bs ++ Lib.strCells (strOfNums (blankP xs ++ [10]))) w' ∧ Below B w w') := by
  have HX := Lib.hid hx
  have HB0 := Lib.hid hb
  have HS := Lib.hid hsm
  have HL := Lib.hid hx.1
  have HD := Lib.hid h
  clear hx hb hsm h
  go_enter Tryd.func89, Tryd.ntmps89
  go_wp2_with fail
  go_loopw [10] (fun i wr => ∃ k : Nat, k ≤ n ∧ i = .int .i64 k ∧ Bldr B (bs ++ Lib.strCells (strOfNums (blankP (xs.take k)))) wr ∧ Below B w wr ∧ B < wr.heap.size) (fun i _ => n - (intOf i).toNat)
  case atStart => exact ⟨0, Nat.zero_le _, rfl, by simpa [blankP, strOfNums, Lib.strCells] using HD.out, Below.refl _ _, hBw⟩
  case round =>
    obtain ⟨k, hk, rfl, hbd, hbel, hbs⟩ := hrel
    have HBD := Lib.hid hbd
    have HW := Lib.hid hbel
    have HBS := Lib.hid hbs
    clear hbd hbel hbs
    have HTL := Lib.hid (show (blankP (xs.take k)).length ≤ 6000 by
      have := blankP_len (xs.take k)
      rw [List.length_take] at this
      omega)
    by_cases hlt : k < n
    · obtain ⟨x, o, g, hxk, rfl, hc2, hc3⟩ := HX.out.at_ hlt
      have hbw0 : Below w0.heap.size w0 wr := HB0.out.trans (HW.out.mono hB)
      have hc : wr.cell? ⟨g, k * 2, none⟩ = some (.int .i64 (x : Int)) := (hbw0.cell (cell_lt hc2)).trans hc2
      have hc' : wr.cell? ⟨g, k * 2 + 1, none⟩ = some (.int .i64 (o : Int)) := (hbw0.cell (cell_lt hc3)).trans hc3
      have HXX := Lib.hid hxk
      have HSX := Lib.hid (HS.out _ (List.mem_of_getElem? hxk))
      have hk0 : (0 : Int) ≤ (k : Int) := by omega
      have hkl : (k : Int) < (n : Int) := by omega
      obtain ⟨wp, hwp⟩ : ∃ wp, wp = wr.alloc (.cells #[.int .i64 (x : Int), .int .i64 (o : Int)] 105) := ⟨_, rfl⟩
      have bp : Below wr.heap.size wr wp := by rw [hwp]; exact (Below.refl _ _).alloc (Nat.le_refl _) _
      have hbx : wp.heap[wr.heap.size]? = some (.cells #[.int .i64 (x : Int), .int .i64 (o : Int)] 105 (0, 0)) := by rw [hwp]; exact heap_alloc_new _ _
      have HBP := Lib.hid (bldr_below HBD.out bp)
      have HBX := Lib.hid hbx
      have HWP := Lib.hid hwp
      have BP := Lib.hid (show Below B w wp from HW.out.trans (bp.mono (Nat.le_of_lt HBS.out)))
      have HSP := Lib.hid (show B < wp.heap.size from Nat.lt_of_lt_of_le HBS.out bp.size)
      clear hxk hc2 hc3 hbw0 hwp bp hbx
      go_wp2_with fail
      rw [← HWP.out]
      refine (writeByte_kept B _ 32 wp HBP.out (by rw [List.length_append, Lib.strCells_length, strOfNums_size]; have := HTL.out; omega) (Nat.le_of_lt HSP.out)).mono ?_
      rintro e w5 ⟨rfl, hat5, b5, k5⟩
      have hb5 := (k5 wr.heap.size _ 105 (0, 0) (by decide) (Nat.ne_of_gt HBS.out) HBX.out).trans HBX.out
      have e0 : w5.cell? ⟨wr.heap.size, 0, none⟩ = some (.int .i64 (x : Int)) := cell_of_row _ _ 0 _ _ _ hb5
      have e1 : w5.cell? ⟨wr.heap.size, 1, none⟩ = some (.int .i64 (o : Int)) := cell_of_row _ _ 1 _ _ _ hb5
      have HBD5 := Lib.hid hat5
      have HW5 := Lib.hid (BP.out.trans b5)
      have HBS5 := Lib.hid (Nat.lt_of_lt_of_le HSP.out b5.size)
      clear hat5 b5 hc hc' k5 hb5
      go_wp2_with fail
      refine (transitionText_any x o w5 HSX.out.1 HSX.out.2).mono ?_
      rintro e w6 ⟨rfl, b6⟩
      have HBD6 := Lib.hid (bldr_below HBD5.out b6)
      have HW6 := Lib.hid (HW5.out.trans (b6.mono (Nat.le_of_lt HBS5.out)))
      have HBS6 := Lib.hid (Nat.lt_of_lt_of_le HBS5.out b6.size)
      clear b6 e0 e1
      go_wp2_with fail
      refine (writeString_any B _ (strOfNums (transT (x, o))) _ HBD6.out (by rw [List.length_append, List.length_append, Lib.strCells_length, strOfNums_size, strOfNums_size]; have := HTL.out; have := transT_len (x, o); simp only [List.length_cons, List.length_nil]; omega) (Nat.le_of_lt HBS6.out)).mono ?_
      rintro e w7 ⟨rfl, hat7, b7⟩
      have HBD7 := Lib.hid hat7
      have HW7 := Lib.hid (HW6.out.trans b7)
      have HBS7 := Lib.hid (Nat.lt_of_lt_of_le HBS6.out b7.size)
      clear hat7 b7
      go_wp2_with fail
      go_roundw
      case rel =>
        refine ⟨k + 1, by omega, by go_num, ?_, HW7.out, HBS7.out⟩
        rw [blankP_take HXX.out, strNums_app, strCells_app, bytesF_cells, ← List.append_assoc, ← List.append_assoc]
        exact HBD7.out
      case measure => simp [intOf]; omega
    · have hkl : k = n := by omega
      subst hkl
      go_wp2_with fail
      refine (writeByte_any B _ 10 wr HBD.out (by rw [List.length_append, Lib.strCells_length, strOfNums_size]; have := HTL.out; omega) (Nat.le_of_lt HBS.out)).mono ?_
      rintro e w5 ⟨rfl, hat5, b5⟩
      rw [List.take_of_length_le (Nat.le_of_eq HL.out)] at hat5
      have HBD5 := Lib.hid hat5
      have HW5 := Lib.hid (HW.out.trans b5)
      clear hat5 b5
      go_wp2_with fail
      go_end0
      exact ⟨rfl, by rw [strNums_cells, ← List.append_assoc]; exact HBD5.out, HW5.out⟩

/-- The line of a letter. -/
def letterP (xs : List (Nat × Nat)) : List Int := [108, 101, 116, 116, 101, 114] ++ (blankP xs ++ [10])
def lettersP : List (List (Nat × Nat)) → List Int
  | [] => []
  | xs :: xss => letterP xs ++ lettersP xss
theorem lettersP_snoc : ∀ (xss : List (List (Nat × Nat))) (xs : List (Nat × Nat)), lettersP (xss ++ [xs]) = lettersP xss ++ letterP xs
  | [], xs => by simp [lettersP]
  | y :: xss, xs => by
    show letterP y ++ lettersP (xss ++ [xs]) = _
    rw [lettersP_snoc xss xs]
    simp [lettersP]
theorem lettersP_take {xss : List (List (Nat × Nat))} {k : Nat} {xs : List (Nat × Nat)} (h : xss[k]? = some xs) : lettersP (xss.take (k + 1)) = lettersP (xss.take k) ++ letterP xs := by rw [take_snoc h, lettersP_snoc]
/-- Lists of at most ten pairs of small numbers. -/
def SmallPP (xss : List (List (Nat × Nat))) : Prop := ∀ (r : Nat) (xs : List (Nat × Nat)), xss[r]? = some xs → xs.length ≤ 10 ∧ ∀ x, x ∈ xs → SmallP x
theorem lettersP_len : ∀ {xss : List (List (Nat × Nat))}, (∀ xs ∈ xss, xs.length ≤ 10) → (lettersP xss).length ≤ 67 * xss.length
  | [], _ => by simp [lettersP]
  | x :: xss, h => by
    have h1 := h x (List.mem_cons_self ..)
    have h2 := lettersP_len (xss := xss) (fun y hy => h y (List.mem_cons_of_mem _ hy))
    have h3 := blankP_len x
    rw [List.length_cons, Nat.mul_add, Nat.mul_one]
    simp only [lettersP, letterP, List.length_append, List.length_cons, List.length_nil]
    omega
theorem lettersP_room {n : Nat} {xss : List (List (Nat × Nat))} (hn : xss.length = n) (hn10 : n ≤ 10) (hr : SmallPP xss) (k : Nat) : (lettersP (xss.take k)).length ≤ 670 := by
  have h1 := lettersP_len (xss := xss.take k) (fun x hx => by
    obtain ⟨r, hr'⟩ := List.getElem?_of_mem (List.mem_of_mem_take hx)
    exact (hr r x hr').1)
  have h2 : (xss.take k).length ≤ 10 := by rw [List.length_take]; omega
  have := Nat.mul_le_mul_left 67 h2
  omega

theorem bldr_size {B : Nat} {bs : List Value} {w : World} (h : Bldr B bs w) : B < w.heap.size := by
  obtain ⟨p, v, hb⟩ := bldr_type h
  exact kept_lt hb

set_option maxRecDepth 100000 in
set_option maxHeartbeats 4000000 in
theorem lettersTextP_any (K : List Int) (hK : K.length ≤ 20) (S : ByteArray) (hS : S = strOfNums K) (base : Nat) (C : Option Addr) (nc cc : Nat) (cs : List Int) (A : Option Addr) (n cap : Nat) (xss : List (List (Nat × Nat))) (w0 w : World)
    (hown : w.ownsRow base 2 1 (.slice C nc cc) nc (cs.map (Value.int .i64))) (hcl : cs.length = nc) (hnc : nc ≤ 3) (hbw : base ≤ w.heap.size)
    (hcs : ∀ (k : Nat) (x : Int), (cs ++ [(n : Int)])[k]? = some x → ∃ q : Nat, x = (q : Int) ∧ q ≤ 10)
    (hx : PairRows w0 A n xss) (hb0 : Below w0.heap.size w0 w) (hle : w0.heap.size ≤ base) (hn : n ≤ 10) (hrl : SmallPP xss) :
    Calls Tryd.prog 62 #[.string S, .slice C nc cc, .slice A n cap, .func (.func 63) #[] #[]] w fun e w' => e = .returned (.string (strOfNums (K ++ (lineT (cs ++ [(n : Int)]) ++ [10]) ++ lettersP xss))) ∧ Below base w w' := by
  obtain ⟨i0, hi, hz0, hz1, hz2⟩ := info_parts info_int64
  have HL := Lib.hid hx.1
  have HX := Lib.hid hx
  have HR := Lib.hid hrl
  have HCS := Lib.hid hcs
  have HCL := Lib.hid hcl
  have HBW := Lib.hid hbw
  have HLE := Lib.hid hle
  have HB0 := Lib.hid hb0
  have hSs : S.size ≤ 20 := by rw [hS, strOfNums_size]; exact hK
  obtain ⟨w1, hw1⟩ : ∃ w1, w1 = w.alloc (.cells #[.pointer none, .slice none 0 0] 91) := ⟨_, rfl⟩
  have hbl1 : Bldr w.heap.size [] w1 := by rw [hw1]; exact bldr_new w
  have b1 : Below w.heap.size w w1 := by rw [hw1]; exact (Below.refl _ _).alloc (Nat.le_refl _) _
  have HO1 := Lib.hid (own_below hown b1)
  obtain ⟨B, hB⟩ : ∃ B, B = w.heap.size := ⟨_, rfl⟩
  rw [← hB] at hbl1 b1
  have hBb : base ≤ B := by rw [hB]; exact hbw
  have hBs1 : B ≤ w1.heap.size := by rw [hB]; exact (show Below w.heap.size w w1 by rw [← hB]; exact b1).size
  have HW1 := Lib.hid hw1
  have HBB := Lib.hid hB
  have HBL1 := Lib.hid hbl1
  have W1 := Lib.hid b1
  have HS := Lib.hid hS
  clear hx hrl hcs hcl hbw hle hb0 hw1 hB hbl1 b1 hown
  go_enter Tryd.func62, Tryd.ntmps62
  clear hS
  go_wp2_with fail
  rw [← HW1.out, ← HBB.out]
  refine (writeString_kept B [] S w1 HBL1.out (by simp only [List.length_nil]; omega) hBs1).mono ?_
  rintro e w2 ⟨rfl, hat2, b2, k2⟩
  have HBL2 := Lib.hid hat2
  have W2 := Lib.hid (W1.out.trans b2)
  have hBs2 : B ≤ w2.heap.size := Nat.le_trans hBs1 b2.size
  have HO2 := Lib.hid (own_kept HBL1.out HO1.out k2)
  clear hat2 b2 k2
  go_wp2_with (at_builtin; (refine wpList_append_own _ rfl _ _ 67 rfl base 2 i0 (.int .i64 0) 1 8 Tryd.underlying67 hi hz0 hz1 hz2 rfl (by decide) _ _ _ rfl (HO2.out.alloc _) ⟨w2.heap.size, 0, none⟩ 1 1 [.int .i64 (n : Int)] rfl rfl (cell_one_new _ _ _) (ones_i64 [(n : Int)]) (by unfold maxLen; omega) (by omega) (by rw [World.size_alloc]; omega) ?_))
  intro v' w3 hown' hgrow _
  obtain ⟨A3, c3, rfl⟩ := own_form hown'
  have ba : Below w2.heap.size w2 (w2.alloc (.cells #[.int .i64 (n : Int)] 2)) := (Below.refl _ _).alloc (Nat.le_refl _) _
  have HBL3 := Lib.hid (bldr_grown (bldr_below HBL2.out ba) (HO2.out.alloc _) hgrow)
  have HO3 := Lib.hid (show w3.ownsRow base 2 1 (.slice A3 (nc + 1) c3) (nc + 1) ((cs ++ [(n : Int)]).map (Value.int .i64)) by rw [List.map_append]; exact hown')
  have W3 := Lib.hid (show Below base w w3 from (((W2.out.mono hBb).alloc (by omega) (.cells #[.int .i64 (n : Int)] 2)).grown hgrow (by rw [World.size_alloc]; omega) (fun k hk => (HO2.out.lt k hk).1)))
  have hBs3 : B ≤ w3.heap.size := Nat.le_trans hBs2 (Nat.le_trans ba.size hgrow.size)
  have hl3 : (cs ++ [(n : Int)]).length = nc + 1 := by rw [List.length_append, HCL.out]; rfl
  clear hown' hgrow ba
  go_wp2_with fail
  refine (writeWords_kept B _ A3 (nc + 1) c3 (cs ++ [(n : Int)]) w3 hl3 (fun wr _ k => NumsAt.own (own_kept HBL3.out HO3.out k) hl3 rfl) hBs3 HBL3.out (by rw [List.nil_append, HS.out, strCells_size]; omega) (by omega) HCS.out).mono ?_
  rintro e w4 ⟨rfl, ⟨hat4, b4⟩, _⟩
  have HBL4 := Lib.hid (show Bldr B (Lib.strCells (strOfNums (K ++ (lineT (cs ++ [(n : Int)]) ++ [10])))) w4 by
    rw [strNums_app K, strCells_app, ← HS.out]
    exact hat4)
  have W4 := Lib.hid (W3.out.trans (b4.mono hBb))
  have hBs4 : B ≤ w4.heap.size := Nat.le_trans hBs3 b4.size
  have HLEN := Lib.hid (show (K ++ (lineT (cs ++ [(n : Int)]) ++ [10])).length ≤ 40 by
    have := lineT_len (cs ++ [(n : Int)])
    rw [hl3] at this
    simp only [List.length_append, List.length_cons, List.length_nil] at this ⊢
    omega)
  obtain ⟨H, hH⟩ : ∃ H, H = K ++ (lineT (cs ++ [(n : Int)]) ++ [10]) := ⟨_, rfl⟩
  have HH := Lib.hid hH
  have HBL5 := Lib.hid (show Bldr B (Lib.strCells (strOfNums (H ++ lettersP (xss.take 0)))) w4 by rw [hH, List.take_zero, lettersP, List.append_nil]; exact HBL4.out)
  have hHl : H.length ≤ 40 := by rw [hH]; exact HLEN.out
  clear hat4 b4 hH
  go_wp2_with fail
  go_loopw [22] (fun i wr => ∃ k : Nat, k ≤ n ∧ i = .int .i64 k ∧ Bldr B (Lib.strCells (strOfNums (H ++ lettersP (xss.take k)))) wr ∧ Below base w wr ∧ B ≤ wr.heap.size) (fun i _ => n - (intOf i).toNat)
  case atStart => exact ⟨0, Nat.zero_le _, rfl, HBL5.out, W4.out, hBs4⟩
  case round =>
    obtain ⟨k, hk, rfl, hbd, hbel, hbs⟩ := hrel
    have HBD := Lib.hid hbd
    have HWR := Lib.hid hbel
    have HBS := Lib.hid hbs
    have HTL := Lib.hid (show (Lib.strCells (strOfNums (H ++ lettersP (xss.take k)))).length ≤ 800 by
      rw [strCells_size, List.length_append]
      have := lettersP_room HL.out hn HR.out k
      omega)
    clear hbd hbel hbs
    by_cases hlt : k < n
    · obtain ⟨xs, g, A1, a1, hxk, rfl, hc2, hnum1⟩ := HX.out.at_ hlt
      have hbw0 : Below w0.heap.size w0 wr := HB0.out.trans (HWR.out.mono HLE.out)
      have hc1 : wr.cell? ⟨g, k, none⟩ = some (.slice A1 xs.length a1) := (hbw0.cell (cell_lt hc2)).trans hc2
      have HXX := Lib.hid hxk
      have HN := Lib.hid hnum1
      have HBW0 := Lib.hid hbw0
      have hk0 : (0 : Int) ≤ (k : Int) := by omega
      have hkl : (k : Int) < (n : Int) := by omega
      clear hxk hnum1 hc2 hbw0
      go_wp2_with fail
      refine (writeString_any B _ ⟨#[108, 101, 116, 116, 101, 114]⟩ wr HBD.out (by have := HTL.out; have : (⟨#[108, 101, 116, 116, 101, 114]⟩ : ByteArray).size = 6 := rfl; omega) HBS.out).mono ?_
      rintro e w5 ⟨rfl, hat5, b5⟩
      have HBD5 := Lib.hid hat5
      have HW5 := Lib.hid (HWR.out.trans (b5.mono hBb))
      have HBS5 := Lib.hid (Nat.le_trans HBS.out b5.size)
      clear hat5 b5 hc1
      go_wp2_with fail
      refine (writeWordsP_any B _ A1 xs.length a1 xs w0 w5 HN.out (HB0.out.trans (HW5.out.mono HLE.out)) (Nat.le_trans HLE.out hBb) (bldr_size HBD5.out) HBD5.out (by rw [List.length_append, letter_cells, strCells_size [108, 101, 116, 116, 101, 114]]; have := HTL.out; simp only [List.length_cons, List.length_nil]; omega) (by have := (HR.out _ _ HXX.out).1; omega) (HR.out _ _ HXX.out).2).mono ?_
      rintro e w6 ⟨rfl, hat6, b6⟩
      have HBD6 := Lib.hid hat6
      have HW6 := Lib.hid (HW5.out.trans (b6.mono hBb))
      have HBS6 := Lib.hid (Nat.le_trans HBS5.out b6.size)
      clear hat6 b6
      go_wp2_with fail
      go_roundw
      case rel =>
        refine ⟨k + 1, by omega, by go_num, ?_, HW6.out, HBS6.out⟩
        rw [lettersP_take HXX.out, letterP, ← List.append_assoc, ← List.append_assoc, strNums_app, strCells_app, strNums_app, strCells_app, ← letter_cells]
        exact HBD6.out
      case measure => simp [intOf]; omega
    · have hkl : k = n := by omega
      subst hkl
      have hbd := HBD.out
      rw [List.take_of_length_le (Nat.le_of_eq HL.out), Lib.strCells_eq] at hbd
      have HBE := Lib.hid hbd
      clear hbd
      go_wp2_with fail
      refine (Tryd.Builder_String_any B B _ wr HBE.out HBS.out).mono ?_
      rintro e w5 ⟨rfl, b5⟩
      rw [str_back]
      have HW5 := Lib.hid (HWR.out.trans (b5.mono hBb))
      obtain ⟨R, hR⟩ : ∃ R, R = strOfNums (H ++ lettersP xss) := ⟨_, rfl⟩
      rw [← hR]
      have HRR := Lib.hid hR
      clear hR b5
      go_wp2_with fail
      go_ret
      exact ⟨by rw [← HH.out, ← HRR.out]; rfl, HW5.out⟩

end Go.Proofs.YtogbglbmkkbhcaaDoor
