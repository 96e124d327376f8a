/-
  Texts of letters: the contract of the program's lettersText for numbers: a kind, counts, and a line for each letter.
-/
import Derived.Test.YtogbglbmkkbhcaaDoorLineT
import Derived.Test.YtogbglbmkkbhcaaDoorTo
import Derived.Test.YtogbglbmkkbhcaaDoorShelf
namespace Go.Proofs.YtogbglbmkkbhcaaDoor
open Go.RowKit Go.Deep Go.ChangeShapes Go.WideShapes

/-- The line of a letter. -/
def letterT (txt : Int → List Int) (xs : List Int) : List Int := [108, 101, 116, 116, 101, 114] ++ (blankF txt xs ++ [10])
def lettersF (txt : Int → List Int) : List (List Int) → List Int
  | [] => []
  | xs :: xss => letterT txt xs ++ lettersF txt xss
theorem lettersF_snoc (txt : Int → List Int) : ∀ (xss : List (List Int)) (xs : List Int), lettersF txt (xss ++ [xs]) = lettersF txt xss ++ letterT txt xs
  | [], xs => by simp [lettersF]
  | y :: xss, xs => by
    show letterT txt y ++ lettersF txt (xss ++ [xs]) = _
    rw [lettersF_snoc txt xss xs]
    simp [lettersF]
theorem lettersF_take (txt : Int → List Int) {xss : List (List Int)} {k : Nat} {xs : List Int} (h : xss[k]? = some xs) : lettersF txt (xss.take (k + 1)) = lettersF txt (xss.take k) ++ letterT txt xs := by rw [take_snoc h, lettersF_snoc]
theorem letterT_len {txt : Int → List Int} (ht : ∀ x, (txt x).length ≤ 2) (xs : List Int) : (letterT txt xs).length ≤ 7 + 3 * xs.length := by
  have := blankF_len txt ht xs
  simp only [letterT, List.length_append, List.length_cons, List.length_nil]
  omega
theorem lettersF_len {txt : Int → List Int} (ht : ∀ x, (txt x).length ≤ 2) {m : Nat} : ∀ {xss : List (List Int)}, (∀ x ∈ xss, x.length ≤ m) → (lettersF txt xss).length ≤ (7 + 3 * m) * xss.length
  | [], _ => by simp [lettersF]
  | x :: xss, h => by
    have h1 := h x (List.mem_cons_self ..)
    have h2 := lettersF_len ht (xss := xss) (fun y hy => h y (List.mem_cons_of_mem _ hy))
    have h3 := letterT_len ht x
    rw [List.length_cons, Nat.mul_add, Nat.mul_one]
    simp only [lettersF, List.length_append]
    omega
theorem lettersF_room {txt : Int → List Int} (ht : ∀ x, (txt x).length ≤ 2) {n : Nat} {xss : List (List Int)} (hn : xss.length = n) (hn10 : n ≤ 10) (hr : ∀ (r : Nat) (xs : List Int), xss[r]? = some xs → xs.length ≤ 10) (k : Nat) : (lettersF txt (xss.take k)).length ≤ 370 := by
  have h1 := lettersF_len ht (m := 10) (xss := xss.take k) (fun x hx => by
    obtain ⟨r, hr'⟩ := List.getElem?_of_mem (List.mem_of_mem_take hx)
    exact hr r x hr')
  have h2 : (xss.take k).length ≤ 10 := by rw [List.length_take]; omega
  have := Nat.mul_le_mul_left 37 h2
  omega
theorem letter_cells : Lib.strCells (⟨#[108, 101, 116, 116, 101, 114]⟩ : ByteArray) = Lib.strCells (strOfNums [108, 101, 116, 116, 101, 114]) := rfl
theorem strCells_size (a : List Int) : (Lib.strCells (strOfNums a)).length = a.length := by rw [Lib.strCells_length, strOfNums_size]

theorem bldr_type {B : Nat} {bs : List Value} {w : World} (h : Bldr B bs w) : ∃ p v, w.heap[B]? = some (.cells #[p, v] 91 (0, 0)) := by
  rcases h with ⟨_, v, h, _⟩ | ⟨_, v, h, _⟩ <;> exact ⟨_, v, h⟩
theorem own_type {w : World} {base : Nat} {e : TypeId} {v : Value} {n : Nat} {xs : List Value} (h : w.ownsRow base e 1 v n xs) {g : Nat} (hg : v.ownBlock = some g) : ∃ cur, w.heap[g]? = some (.cells cur e (0, 0)) := by
  rcases h.2 with ⟨rfl, _⟩ | ⟨g', cap, cur, rfl, _, hgc, _⟩
  · simp [Value.ownBlock] at hg
  · have : g' = g := by simpa [Value.ownBlock] using hg
    subst this
    exact ⟨cur, hgc⟩
theorem type_ne {w : World} {g g' : Nat} {a b : Array Value} {t u : TypeId} {f f' : Nat × Nat} (h : w.heap[g]? = some (.cells a t f)) (h' : w.heap[g']? = some (.cells b u f')) (hne : t ≠ u) : g ≠ g' := fun e => by
  subst e
  rw [h] at h'
  exact hne (by simpa using (Obj.cells.inj (Option.some.inj h')).2.1)
/-- The builder stands when a list of numbers grows. -/
theorem bldr_grown {B base n : Nat} {bs xs : List Value} {v : Value} {w w' : World} (h : Bldr B bs w) (ho : w.ownsRow base 2 1 v n xs) (hg : w.grownBy w' v.ownBlock) : Bldr B bs w' := by
  have key : ∀ p, Lib.BuilderAt 91 5 B B p bs w → Lib.BuilderAt 91 5 B B p bs w' := fun p hb => by
    have hlt := hb.lt
    obtain ⟨hB, u, hc, hown, hne⟩ := hb
    refine ⟨hB, u, ?_, hown.kept hg ?_, hne⟩
    · rw [hg.block B hlt (fun e => ?_)]
      · exact hc
      · obtain ⟨cur, hcur⟩ := own_type ho e.symm
        exact type_ne hcur hc (by decide) rfl
    · rcases hu : u.ownBlock with _ | g
      · exact .inl rfl
      · refine .inr (fun e => ?_)
        obtain ⟨c1, h1⟩ := own_type hown hu
        obtain ⟨c2, h2⟩ := own_type ho e.symm
        exact type_ne h1 h2 (by decide) rfl
  exact h.elim (fun x => .inl (key _ x)) (fun x => .inr (key _ x))
/-- A list of numbers stands when the builder writes. -/
theorem own_kept {B base n : Nat} {bs xs : List Value} {v : Value} {w w' : World} (h : Bldr B bs w) (ho : w.ownsRow base 2 1 v n xs) (hk : Kept B w w') : w'.ownsRow base 2 1 v n xs := by
  obtain ⟨p, u, hb⟩ := bldr_type h
  obtain ⟨h1, h2⟩ := ho
  refine ⟨h1, ?_⟩
  rcases h2 with h2 | ⟨g, cap, cur, hv, hg, hh, rest⟩
  · exact .inl h2
  · refine .inr ⟨g, cap, cur, hv, hg, ?_, rest⟩
    exact (hk g cur 2 (0, 0) (by decide) (type_ne hh hb (by decide)) hh).trans hh

set_option maxRecDepth 100000 in
set_option maxHeartbeats 4000000 in
theorem lettersText_any (F : Nat) (txt : Int → List Int) (ht : ∀ x, (txt x).length ≤ 2) (K : List Int) (hK : K.length ≤ 20) (S : ByteArray) (hS : S = strOfNums K) (base : Nat) (C : Option Addr) (nc cc : Nat) (cs : List Int) (A : Option Addr) (n cap : Nat) (xss : List (List Int)) (w0 w : World)
    (hown : w.ownsRow base 2 1 (.slice C nc cc) nc (cs.map (Value.int .i64))) (hcl : cs.length = nc) (hnc : nc ≤ 3) (hbw : base ≤ w.heap.size)
    (hcs : ∀ (k : Nat) (x : Int), (cs ++ [(n : Int)])[k]? = some x → ∃ q : Nat, x = (q : Int) ∧ q ≤ 10)
    (hx : RowsAt w0 A n xss) (hb0 : Below w0.heap.size w0 w) (hle : w0.heap.size ≤ base) (hn : n ≤ 10) (hrl : ∀ (r : Nat) (xs : List Int), xss[r]? = some xs → xs.length ≤ 10)
    (henter : ∀ (args : Array Value) (W : World), (callFunc F args).run Tryd.prog W = .ok (.enter F args) W)
    (hcall : ∀ (r : Nat) (xs : List Int), xss[r]? = some xs → ∀ x, x ∈ xs → ∀ W, Calls Tryd.prog F #[.int .i64 x] W fun e w' => e = .returned (.string (strOfNums (txt x))) ∧ w' = W) :
    Calls Tryd.prog 38 #[.string S, .slice C nc cc, .slice A n cap, .func (.func F) #[] #[]] w fun e w' => e = .returned (.string (strOfNums (K ++ (lineT (cs ++ [(n : Int)]) ++ [10]) ++ lettersF txt xss))) ∧ Below base w w' := by
  obtain ⟨i0, hi, hz0, hz1, hz2⟩ := info_parts info_int64
  have HL := Lib.hid hx.1
  have HX := Lib.hid hx
  have HR := Lib.hid hrl
  have HCS := Lib.hid hcs
  have HCL := Lib.hid hcl
  have HBW := Lib.hid hbw
  have HLE := Lib.hid hle
  have HB0 := Lib.hid hb0
  have HEN := Lib.hid henter
  have HC := Lib.hid hcall
  have hSs : S.size ≤ 20 := by rw [hS, strOfNums_size]; exact hK
  obtain ⟨w1, hw1⟩ : ∃ w1, w1 = w.alloc (.cells #[.pointer none, .slice none 0 0] 91) := ⟨_, rfl⟩
  have hbl1 : Bldr w.heap.size [] w1 := by rw [hw1]; exact bldr_new w
  have b1 : Below w.heap.size w w1 := by rw [hw1]; exact (Below.refl _ _).alloc (Nat.le_refl _) _
  have HO1 := Lib.hid (own_below hown b1)
  obtain ⟨B, hB⟩ : ∃ B, B = w.heap.size := ⟨_, rfl⟩
  rw [← hB] at hbl1 b1
  have hBb : base ≤ B := by rw [hB]; exact hbw
  have hBs1 : B ≤ w1.heap.size := by rw [hB]; exact (show Below w.heap.size w w1 by rw [← hB]; exact b1).size
  have HW1 := Lib.hid hw1
  have HBB := Lib.hid hB
  have HBL1 := Lib.hid hbl1
  have W1 := Lib.hid b1
  have HS := Lib.hid hS
  clear hx hrl hcs hcl hbw hle hb0 henter hcall hw1 hB hbl1 b1 hown
  go_enter Tryd.func38, Tryd.ntmps38
  clear hS
  go_wp2_with fail
  rw [← HW1.out, ← HBB.out]
  refine (writeString_kept B [] S w1 HBL1.out (by simp only [List.length_nil]; omega) hBs1).mono ?_
  rintro e w2 ⟨rfl, hat2, b2, k2⟩
  have HBL2 := Lib.hid hat2
  have W2 := Lib.hid (W1.out.trans b2)
  have hBs2 : B ≤ w2.heap.size := Nat.le_trans hBs1 b2.size
  have HO2 := Lib.hid (own_kept HBL1.out HO1.out k2)
  clear hat2 b2 k2
  go_wp2_with (at_builtin; (refine wpList_append_own _ rfl _ _ 67 rfl base 2 i0 (.int .i64 0) 1 8 Tryd.underlying67 hi hz0 hz1 hz2 rfl (by decide) _ _ _ rfl (HO2.out.alloc _) ⟨w2.heap.size, 0, none⟩ 1 1 [.int .i64 (n : Int)] rfl rfl (cell_one_new _ _ _) (ones_i64 [(n : Int)]) (by unfold maxLen; omega) (by omega) (by rw [World.size_alloc]; omega) ?_))
  intro v' w3 hown' hgrow _
  obtain ⟨A3, c3, rfl⟩ := own_form hown'
  have ba : Below w2.heap.size w2 (w2.alloc (.cells #[.int .i64 (n : Int)] 2)) := (Below.refl _ _).alloc (Nat.le_refl _) _
  have HBL3 := Lib.hid (bldr_grown (bldr_below HBL2.out ba) (HO2.out.alloc _) hgrow)
  have HO3 := Lib.hid (show w3.ownsRow base 2 1 (.slice A3 (nc + 1) c3) (nc + 1) ((cs ++ [(n : Int)]).map (Value.int .i64)) by rw [List.map_append]; exact hown')
  have W3 := Lib.hid (show Below base w w3 from (((W2.out.mono hBb).alloc (by omega) (.cells #[.int .i64 (n : Int)] 2)).grown hgrow (by rw [World.size_alloc]; omega) (fun k hk => (HO2.out.lt k hk).1)))
  have hBs3 : B ≤ w3.heap.size := Nat.le_trans hBs2 (Nat.le_trans ba.size hgrow.size)
  have hl3 : (cs ++ [(n : Int)]).length = nc + 1 := by rw [List.length_append, HCL.out]; rfl
  clear hown' hgrow ba
  go_wp2_with fail
  refine (writeWords_kept B _ A3 (nc + 1) c3 (cs ++ [(n : Int)]) w3 hl3 (fun wr _ k => NumsAt.own (own_kept HBL3.out HO3.out k) hl3 rfl) hBs3 HBL3.out (by rw [List.nil_append, HS.out, strCells_size]; omega) (by omega) HCS.out).mono ?_
  rintro e w4 ⟨rfl, ⟨hat4, b4⟩, _⟩
  have HBL4 := Lib.hid (show Bldr B (Lib.strCells (strOfNums (K ++ (lineT (cs ++ [(n : Int)]) ++ [10])))) w4 by
    rw [strNums_app K, strCells_app, ← HS.out]
    exact hat4)
  have W4 := Lib.hid (W3.out.trans (b4.mono hBb))
  have hBs4 : B ≤ w4.heap.size := Nat.le_trans hBs3 b4.size
  have HLEN := Lib.hid (show (K ++ (lineT (cs ++ [(n : Int)]) ++ [10])).length ≤ 40 by
    have := lineT_len (cs ++ [(n : Int)])
    rw [hl3] at this
    simp only [List.length_append, List.length_cons, List.length_nil] at this ⊢
    omega)
  obtain ⟨H, hH⟩ : ∃ H, H = K ++ (lineT (cs ++ [(n : Int)]) ++ [10]) := ⟨_, rfl⟩
  have HH := Lib.hid hH
  have HBL5 := Lib.hid (show Bldr B (Lib.strCells (strOfNums (H ++ lettersF txt (xss.take 0)))) w4 by rw [hH, List.take_zero, lettersF, List.append_nil]; exact HBL4.out)
  have hHl : H.length ≤ 40 := by rw [hH]; exact HLEN.out
  clear hat4 b4 hH
  go_wp2_with fail
  go_loopw [22] (fun i wr => ∃ k : Nat, k ≤ n ∧ i = .int .i64 k ∧ Bldr B (Lib.strCells (strOfNums (H ++ lettersF txt (xss.take k)))) wr ∧ Below base w wr ∧ B ≤ wr.heap.size) (fun i _ => n - (intOf i).toNat)
  case atStart => exact ⟨0, Nat.zero_le _, rfl, HBL5.out, W4.out, hBs4⟩
  case round =>
    obtain ⟨k, hk, rfl, hbd, hbel, hbs⟩ := hrel
    have HBD := Lib.hid hbd
    have HWR := Lib.hid hbel
    have HBS := Lib.hid hbs
    have HTL := Lib.hid (show (Lib.strCells (strOfNums (H ++ lettersF txt (xss.take k)))).length ≤ 410 by
      rw [strCells_size, List.length_append]
      have := lettersF_room ht HL.out hn HR.out k
      omega)
    clear hbd hbel hbs
    by_cases hlt : k < n
    · obtain ⟨xs, b, off, A1, a1, hxk, rfl, hc2, hnum1⟩ := HX.out.at_ hlt
      have hbw0 : Below w0.heap.size w0 wr := HB0.out.trans (HWR.out.mono HLE.out)
      have hc1 : wr.cell? ⟨b, off + k, none⟩ = some (.slice A1 xs.length a1) := (hbw0.cell (cell_lt hc2)).trans hc2
      have HXX := Lib.hid hxk
      have HN := Lib.hid hnum1
      have HBW0 := Lib.hid hbw0
      have hk0 : (0 : Int) ≤ (k : Int) := by omega
      have hkl : (k : Int) < (n : Int) := by omega
      clear hxk hnum1 hc2 hbw0
      go_wp2_with fail
      refine (writeString_any B _ ⟨#[108, 101, 116, 116, 101, 114]⟩ wr HBD.out (by have := HTL.out; have : (⟨#[108, 101, 116, 116, 101, 114]⟩ : ByteArray).size = 6 := rfl; omega) HBS.out).mono ?_
      rintro e w5 ⟨rfl, hat5, b5⟩
      have HBD5 := Lib.hid hat5
      have HW5 := Lib.hid (HWR.out.trans (b5.mono hBb))
      have HBS5 := Lib.hid (Nat.le_trans HBS.out b5.size)
      clear hat5 b5 hc1
      go_wp2_with fail
      refine (writeWordsF_any F txt ht B _ A1 xs.length a1 xs w5 rfl (fun wz bz _ => HN.out.below (HB0.out.trans ((HW5.out.trans (bz.mono hBb)).mono HLE.out))) HBS5.out HBD5.out (by rw [List.length_append, letter_cells, strCells_size [108, 101, 116, 116, 101, 114]]; have := HTL.out; simp only [List.length_cons, List.length_nil]; omega) (by have := HR.out _ _ HXX.out; omega) HEN.out (HC.out _ _ HXX.out)).mono ?_
      rintro e w6 ⟨rfl, ⟨hat6, b6⟩, _⟩
      have HBD6 := Lib.hid hat6
      have HW6 := Lib.hid (HW5.out.trans (b6.mono hBb))
      have HBS6 := Lib.hid (Nat.le_trans HBS5.out b6.size)
      clear hat6 b6
      go_wp2_with fail
      go_roundw
      case rel =>
        refine ⟨k + 1, by omega, by go_num, ?_, HW6.out, HBS6.out⟩
        rw [lettersF_take txt HXX.out, letterT, ← List.append_assoc, ← List.append_assoc, strNums_app, strCells_app, strNums_app, strCells_app, ← letter_cells]
        exact HBD6.out
      case measure => simp [intOf]; omega
    · have hkl : k = n := by omega
      subst hkl
      have hbd := HBD.out
      rw [List.take_of_length_le (Nat.le_of_eq HL.out), Lib.strCells_eq] at hbd
      have HBE := Lib.hid hbd
      clear hbd
      go_wp2_with fail
      refine (Tryd.Builder_String_any B B _ wr HBE.out HBS.out).mono ?_
      rintro e w5 ⟨rfl, b5⟩
      rw [str_back]
      have HW5 := Lib.hid (HWR.out.trans (b5.mono hBb))
      obtain ⟨R, hR⟩ : ∃ R, R = strOfNums (H ++ lettersF txt xss) := ⟨_, rfl⟩
      rw [← hR]
      have HRR := Lib.hid hR
      clear hR b5
      go_wp2_with fail
      go_ret
      exact ⟨by rw [← HH.out, ← HRR.out]; rfl, HW5.out⟩

end Go.Proofs.YtogbglbmkkbhcaaDoor
