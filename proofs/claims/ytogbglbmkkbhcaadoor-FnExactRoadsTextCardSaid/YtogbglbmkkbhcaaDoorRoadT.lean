/-
  The text of roads: the contracts of both RoadsText.
-/
import Derived.Test.YtogbglbmkkbhcaaDoorLineT
import Derived.Test.YtogbglbmkkbhcaaDoorRoadV
import Derived.Test.YtogbglbmkkbhcaaDoorShelf
namespace Go.Proofs.YtogbglbmkkbhcaaDoor
open Go.RowKit Go.Deep Go.ChangeShapes Go.WideShapes

/-- The line of a town. -/
def townT (xs : List Int) : List Int := [116, 111, 119, 110] ++ (lineT xs ++ [10])
def roadsT : List (List Int) → List Int
  | [] => []
  | xs :: xss => townT xs ++ roadsT xss
theorem roadsT_snoc : ∀ (xss : List (List Int)) (xs : List Int), roadsT (xss ++ [xs]) = roadsT xss ++ townT xs
  | [], xs => by simp [roadsT]
  | y :: xss, xs => by
    show townT y ++ roadsT (xss ++ [xs]) = _
    rw [roadsT_snoc xss xs]
    simp [roadsT]
theorem roadsT_take {xss : List (List Int)} {k : Nat} {xs : List Int} (h : xss[k]? = some xs) : roadsT (xss.take (k + 1)) = roadsT (xss.take k) ++ townT xs := by rw [take_snoc h, roadsT_snoc]
theorem townT_len (xs : List Int) : (townT xs).length ≤ 5 + 3 * xs.length := by
  have := lineT_len xs
  simp only [townT, List.length_append, List.length_cons, List.length_nil]
  omega
theorem roadsT_len {m : Nat} : ∀ {xss : List (List Int)}, (∀ x ∈ xss, x.length ≤ m) → (roadsT xss).length ≤ (5 + 3 * m) * xss.length
  | [], _ => by simp [roadsT]
  | x :: xss, h => by
    have h1 := h x (List.mem_cons_self ..)
    have h2 := roadsT_len (xss := xss) (fun y hy => h y (List.mem_cons_of_mem _ hy))
    have h3 := townT_len x
    rw [List.length_cons, Nat.mul_add, Nat.mul_one]
    simp only [roadsT, List.length_append]
    omega
/-- What RoadsText answers, as numbers of bytes. -/
def roadsText (s : Int) (xss : List (List Int)) : List Int := if okR s xss = true then roadsT xss else []
theorem roadsText_1 {s : Int} {xss : List (List Int)} (h : okR s xss = false) : roadsText s xss = [] := by simp [roadsText, h]
theorem roadsText_0 {s : Int} {xss : List (List Int)} (h : okR s xss = true) : roadsText s xss = roadsT xss := by simp [roadsText, h]
theorem ret_str {a b : ByteArray} (h : a = b) : Ending.returned (.string a) = .returned (.string b) := by rw [h]
theorem goodR_room {n m : Nat} {xss : List (List Int)} (h : GoodR n m xss) (k : Nat) : (roadsT (xss.take k)).length ≤ 98 := by
  have h1 := roadsT_len (m := 3) (xss := xss.take k) (fun x hx => by
    obtain ⟨r, hr⟩ := List.getElem?_of_mem (List.mem_of_mem_take hx)
    have hrl : r < n := by
      rw [← h.len]
      rcases Nat.lt_or_ge r xss.length with hlt | hge
      · exact hlt
      · rw [List.getElem?_eq_none hge] at hr; cases hr
    obtain ⟨ys, hy, hyl, _⟩ := h.row r hrl
    rw [hr] at hy
    cases hy
    rw [hyl]
    exact h.m3)
  have h2 : (xss.take k).length ≤ 7 := by rw [List.length_take, h.len]; have := h.n7; omega
  have := Nat.mul_le_mul_left 14 h2
  omega
theorem goodR_small {n m : Nat} {xss : List (List Int)} (h : GoodR n m xss) {r : Nat} {xs : List Int} (hr : xss[r]? = some xs) : xs.length ≤ 3 ∧ ∀ (k : Nat) (x : Int), xs[k]? = some x → ∃ q : Nat, x = (q : Int) ∧ q ≤ 10 := by
  have hrl : r < n := by
    rw [← h.len]
    rcases Nat.lt_or_ge r xss.length with hlt | hge
    · exact hlt
    · rw [List.getElem?_eq_none hge] at hr; cases hr
  obtain ⟨ys, hy, hyl, hys, _⟩ := h.row r hrl
  rw [hr] at hy
  cases hy
  refine ⟨by rw [hyl]; exact h.m3, fun k x hx => ⟨x.toNat, ?_, ?_⟩⟩
  · have := hys x (List.mem_of_getElem? hx); omega
  · have := hys x (List.mem_of_getElem? hx); have := h.n7; omega
theorem town_cells : Lib.strCells (⟨#[116, 111, 119, 110]⟩ : ByteArray) = Lib.strCells (strOfNums [116, 111, 119, 110]) := rfl

set_option maxRecDepth 100000 in
set_option maxHeartbeats 2000000 in
theorem implRoadsText_any (s : Int) (A : Option Addr) (n cap : Nat) (xss : List (List Int)) (w : World) (h : RowsAt w A n xss) (hn : n ≤ 4611686018427387904)
    (hrows : ∀ (r : Nat) (xs : List Int), xss[r]? = some xs → xs.length ≤ 4611686018427387904) :
    Calls Tryd.prog 26 #[.agg #[.int .i64 s, .slice A n cap]] w fun e w' => e = .returned (.string (strOfNums (roadsText s xss))) ∧ Below w.heap.size w w' := by
  have HR := Lib.hid hrows
  have HL := Lib.hid h.1
  obtain ⟨w1, hw1⟩ : ∃ w1, w1 = w.alloc (.cells #[.int .i64 s, .slice A n cap] 51) := ⟨_, rfl⟩
  have b1 : Below w.heap.size w w1 := by rw [hw1]; exact (Below.refl _ _).alloc (Nat.le_refl _) _
  have HB := Lib.hid (show Box w1 w.heap.size [.int .i64 s, .slice A n cap] by rw [hw1]; exact Box.new _ _ _)
  have HX := Lib.hid (h.below b1)
  have W1 := Lib.hid b1
  have HW := Lib.hid hw1
  clear h b1 hw1 hrows
  go_enter Tryd.func26, Tryd.ntmps26
  go_wp2_with fail
  rw [← HW.out]
  refine (implValidRoads_any s A n cap xss w1 HX.out hn HR.out).mono ?_
  rintro e w2 ⟨rfl, b2⟩
  have HB2 := Lib.hid (show Box w2 w.heap.size [.int .i64 s, .slice A n cap] from Box.below HB.out b2)
  have HX2 := Lib.hid (HX.out.below b2)
  have W2 := Lib.hid (below_then W1.out b2)
  clear b2
  rcases hok : okR s xss with _ | _
  · have HF := Lib.hid (roadsText_1 hok)
    go_wp2_with fail
    go_ret
    exact ⟨ret_str (by rw [HF.out]; rfl), W2.out⟩
  · obtain ⟨m, rfl, _, hg⟩ := goodR_of hok HL.out
    have HG := Lib.hid hg
    have HF := Lib.hid (roadsText_0 hok)
    have hn7 := hg.n7
    obtain ⟨w3, hw3⟩ : ∃ w3, w3 = w2.alloc (.cells #[.pointer none, .slice none 0 0] 91) := ⟨_, rfl⟩
    have hb0 : Bldr w2.heap.size [] w3 := by rw [hw3]; exact bldr_new w2
    have b3 : Below w2.heap.size w2 w3 := by rw [hw3]; exact (Below.refl _ _).alloc (Nat.le_refl _) _
    have y1 : (w2.alloc (.cells #[.pointer none, .slice none 0 0] 91)).cell? ⟨w.heap.size, 1, none⟩ = some (.slice A n cap) := by rw [← hw3]; exact Box.below HB2.out b3 1 _ rfl
    have HX3 := Lib.hid (HX2.out.below b3)
    obtain ⟨B, hB⟩ : ∃ B, B = w2.heap.size := ⟨_, rfl⟩
    rw [← hB] at hb0
    have hBw : w.heap.size ≤ B := by rw [hB]; exact W2.out.size
    have hB3 : B ≤ w3.heap.size := by rw [hB]; exact b3.size
    have W3 := Lib.hid (below_then W2.out b3)
    have HXR := Lib.hid (show RowsAt w2 A n xss from HX2.out)
    have HB23 := Lib.hid (show Below B w2 w3 by rw [hB]; exact b3)
    have HB0 := Lib.hid hb0
    have HW3 := Lib.hid hw3
    have HBB := Lib.hid hB
    clear b3 hb0 hw3 hB hg hok
    go_wp2_with fail
    rw [← HW3.out, ← HBB.out]
    go_loopw [12] (fun i wr => ∃ k : Nat, k ≤ n ∧ i = .int .i64 k ∧ Bldr B (Lib.strCells (strOfNums (roadsT (xss.take k)))) wr ∧ Below B w2 wr ∧ B ≤ wr.heap.size) (fun i _ => n - (intOf i).toNat)
    case atStart => exact ⟨0, Nat.zero_le _, rfl, HB0.out, HB23.out, hB3⟩
    case round =>
      obtain ⟨k, hk, rfl, hbd, hbel, hbs⟩ := hrel
      have HBD := Lib.hid hbd
      have HWR := Lib.hid hbel
      have HBS := Lib.hid hbs
      have HTL := Lib.hid (show (Lib.strCells (strOfNums (roadsT (xss.take k)))).length ≤ 98 by rw [Lib.strCells_length, strOfNums_size]; exact goodR_room HG.out k)
      clear hbd hbel hbs
      by_cases hlt : k < n
      · obtain ⟨xs, b, off, A1, a1, hx, rfl, hc2, hnum1⟩ := HXR.out.at_ hlt
        have hc1 : wr.cell? ⟨b, off + k, none⟩ = some (.slice A1 xs.length a1) := (HWR.out.cell (by rw [HBB.out]; exact cell_lt hc2)).trans hc2
        have HXX := Lib.hid hx
        have HN := Lib.hid hnum1
        have hk0 : (0 : Int) ≤ (k : Int) := by omega
        have hkl : (k : Int) < (n : Int) := by omega
        clear hx hnum1 hc2
        go_wp2_with fail
        refine (writeString_any B _ ⟨#[116, 111, 119, 110]⟩ wr HBD.out (by have := HTL.out; have : (⟨#[116, 111, 119, 110]⟩ : ByteArray).size = 4 := rfl; omega) HBS.out).mono ?_
        rintro e w5 ⟨rfl, hat5, b5⟩
        have HBD5 := Lib.hid hat5
        have HW5 := Lib.hid (HWR.out.trans b5)
        have HBS5 := Lib.hid (Nat.le_trans HBS.out b5.size)
        clear hat5 b5 hc1
        go_wp2_with fail
        refine (writeWords_any B _ A1 xs.length a1 xs w2 w5 HN.out (by rw [← HBB.out]; exact HW5.out) (by rw [← HBB.out]; exact Nat.le_refl _) HBS5.out HBD5.out (by rw [List.length_append, town_cells, Lib.strCells_length (strOfNums [116, 111, 119, 110]), strOfNums_size]; have := HTL.out; simp only [List.length_cons, List.length_nil]; omega) (by have := (goodR_small HG.out HXX.out).1; omega) (goodR_small HG.out HXX.out).2).mono ?_
        rintro e w6 ⟨rfl, hat6, b6⟩
        have HBD6 := Lib.hid hat6
        have HW6 := Lib.hid (HW5.out.trans b6)
        have HBS6 := Lib.hid (Nat.le_trans HBS5.out b6.size)
        clear hat6 b6
        go_wp2_with fail
        go_roundw
        case rel =>
          refine ⟨k + 1, by omega, by go_num, ?_, HW6.out, HBS6.out⟩
          rw [roadsT_take HXX.out, townT, strNums_app, strCells_app, strNums_app, strCells_app, ← town_cells, ← List.append_assoc]
          exact HBD6.out
        case measure => simp [intOf]; omega
      · have hkl : k = n := by omega
        subst hkl
        have hbd := HBD.out
        rw [List.take_of_length_le (Nat.le_of_eq HL.out), Lib.strCells_eq] at hbd
        have HBE := Lib.hid hbd
        clear hbd
        go_wp2_with fail
        refine (Tryd.Builder_String_any B B _ wr HBE.out HBS.out).mono ?_
        rintro e w4 ⟨rfl, b4⟩
        rw [str_back]
        have HW4 := Lib.hid (HWR.out.trans b4)
        obtain ⟨S, hS⟩ : ∃ S, S = strOfNums (roadsT xss) := ⟨_, rfl⟩
        rw [← hS]
        have HSS := Lib.hid hS
        clear hS b4
        go_wp2_with fail
        go_ret
        exact ⟨ret_str (by rw [HF.out, HSS.out]), below_then W2.out (by rw [← HBB.out]; exact HW4.out)⟩

theorem stepT {T : ByteArray} {a b : List Int} (h : T = strOfNums a) : T ++ strOfNums b = strOfNums (a ++ b) := by rw [h, strNums_app]

set_option maxRecDepth 100000 in
set_option maxHeartbeats 2000000 in
theorem specRoadsText_any (s : Int) (A : Option Addr) (n cap : Nat) (xss : List (List Int)) (w : World) (h : RowsAt w A n xss) (hn : n ≤ 4611686018427387904)
    (hrows : ∀ (r : Nat) (xs : List Int), xss[r]? = some xs → xs.length ≤ 4611686018427387904) :
    Calls Tryd.prog 24 #[.agg #[.int .i64 s, .slice A n cap]] w fun e w' => e = .returned (.string (strOfNums (roadsText s xss))) ∧ Below w.heap.size w w' := by
  have HR := Lib.hid hrows
  have HL := Lib.hid h.1
  obtain ⟨w1, hw1⟩ : ∃ w1, w1 = w.alloc (.cells #[.int .i64 s, .slice A n cap] 51) := ⟨_, rfl⟩
  have b1 : Below w.heap.size w w1 := by rw [hw1]; exact (Below.refl _ _).alloc (Nat.le_refl _) _
  have HB := Lib.hid (show Box w1 w.heap.size [.int .i64 s, .slice A n cap] by rw [hw1]; exact Box.new _ _ _)
  have HX := Lib.hid (h.below b1)
  have W1 := Lib.hid b1
  have HW := Lib.hid hw1
  clear h b1 hw1 hrows
  go_enter Tryd.func24, Tryd.ntmps24
  go_wp2_with fail
  rw [← HW.out]
  refine (l05Ok_any w.heap.size s A n cap xss w1 (HB.out 0 _ rfl) (HB.out 1 _ rfl) HX.out hn HR.out).mono ?_
  rintro e w2 ⟨rfl, q0, hw2⟩
  have W2 := Lib.hid (show Below w1.heap.size w1 w2 by rw [hw2]; exact below_drewN' (Below.refl _ _) _)
  clear hw2
  rcases hok : okR s xss with _ | _
  · have HF := Lib.hid (roadsText_1 hok)
    go_wp2_with fail
    go_ret
    exact ⟨ret_str (by rw [HF.out]; rfl), below_then W1.out W2.out⟩
  · obtain ⟨m, rfl, _, hg⟩ := goodR_of hok HL.out
    have HG := Lib.hid hg
    have HF := Lib.hid (roadsText_0 hok)
    have hn7 := hg.n7
    clear hg hok
    go_wp2_with fail
    go_loopw [3, 4] (fun sv i wr => ∃ (k : Nat) (T : ByteArray), k ≤ n ∧ i = .int .i64 k ∧ sv = .string T ∧ T = strOfNums (roadsT (xss.take k)) ∧ Below w1.heap.size w1 wr) (fun _ i _ => n - (intOf i).toNat)
    case atStart => exact ⟨0, ByteArray.empty, Nat.zero_le _, rfl, rfl, rfl, W2.out⟩
    case round =>
      obtain ⟨k, T, hk, rfl, rfl, hT, hbel⟩ := hrel
      have HWR := Lib.hid hbel
      have hTs : T.size ≤ 98 := by rw [hT, strOfNums_size]; exact goodR_room HG.out k
      have HT := Lib.hid hT
      have c1 : wr.cell? ⟨w.heap.size, 1, none⟩ = some (.slice A n cap) := Box.below HB.out hbel 1 _ rfl
      clear hbel hT
      by_cases hlt : k < n
      · obtain ⟨xs, b, off, A1, a1, hx, rfl, hc2, hnum1⟩ := HX.out.at_ hlt
        have HXX := Lib.hid hx
        have HN := Lib.hid hnum1
        have HC2 := Lib.hid hc2
        have HSM := Lib.hid (goodR_small HG.out hx)
        have hl3 := HSM.out.1
        have hk0 : (0 : Int) ≤ (k : Int) := by omega
        have hkl : (k : Int) < (n : Int) := by omega
        have g1 : ¬ 9223372036854775807 < T.size + 4 := by omega
        clear hx hnum1 hc2
        go_wp2_with fail
        clear g1
        go_loopw [3, 5] (fun sv j wi => ∃ (q : Nat) (U : ByteArray), q ≤ xs.length ∧ j = .int .i64 q ∧ sv = .string U ∧ U = strOfNums (roadsT (xss.take k) ++ [116, 111, 119, 110] ++ lineT (xs.take q)) ∧ Below w1.heap.size w1 wi) (fun _ j _ => xs.length - (intOf j).toNat)
        case atStart => exact ⟨0, _, Nat.zero_le _, rfl, rfl, by rw [HT.out, List.take_zero, strNums_app, strNums_app]; apply ByteArray.ext; simp [strOfNums, lineT], HWR.out⟩
        case round =>
          obtain ⟨q, U, hq, rfl, rfl, hU, hbi⟩ := hrel
          have hUs : U.size ≤ 200 := by
            rw [hU, strOfNums_size, List.length_append, List.length_append]
            have h1 := goodR_room HG.out k
            have h2 := lineT_len (xs.take q)
            rw [List.length_take] at h2
            simp only [List.length_cons, List.length_nil]
            omega
          have HU := Lib.hid hU
          have HWI := Lib.hid hbi
          have d1 : World.cell? ‹World› ⟨w.heap.size, 1, none⟩ = some (.slice (some ⟨b, off, none⟩) n cap) := Box.below HB.out hbi 1 _ rfl
          have d2 : World.cell? ‹World› ⟨b, off + k, none⟩ = some (.slice A1 xs.length a1) := (hbi.cell (cell_lt HC2.out)).trans HC2.out
          have gn : NumsAt ‹World› A1 xs.length xs := HN.out.below hbi
          clear hbi hU
          by_cases hqn : q < xs.length
          · obtain ⟨x, b3, off3, hxq, rfl, hcx⟩ := gn.at_ hqn
            obtain ⟨v, rfl, hv⟩ := HSM.out.2 _ _ hxq
            have HXQ := Lib.hid hxq
            have hq0 : (0 : Int) ≤ (q : Int) := by omega
            have hqn' : (q : Int) < (xs.length : Int) := by omega
            clear hxq gn
            go_wp2_with fail
            refine (decimal_any v _ hv).mono ?_
            rintro e w4 ⟨rfl, b4⟩
            have HW4 := Lib.hid (below_then HWI.out b4)
            obtain ⟨S, hS⟩ : ∃ S, S = strOfNums (decT v) := ⟨_, rfl⟩
            rw [← hS]
            have hSs : S.size ≤ 2 := by rw [hS, strOfNums_size]; exact decT_len v
            have HS := Lib.hid hS
            have g1 : ¬ 9223372036854775807 < 1 + S.size := by omega
            have g2 : ¬ 9223372036854775807 < U.size + (1 + S.size) := by omega
            clear hS b4
            go_wp2_with fail
            go_roundw
            case rel =>
              refine ⟨q + 1, _, by omega, by go_num, rfl, ?_, HW4.out⟩
              rw [lineT_take HXQ.out, ← List.append_assoc, strNums_app, HU.out, HS.out, Int.toNat_natCast, show (32 :: decT v) = [32] ++ decT v from rfl, strNums_app [32]]
              rfl
            case measure => simp [intOf]; omega
          · have hqe : q = xs.length := by omega
            subst hqe
            have g1 : ¬ 9223372036854775807 < U.size + 1 := by omega
            clear gn
            go_wp2_with fail
            go_roundw
            case rel =>
              refine ⟨k + 1, _, by omega, by go_num, rfl, ?_, HWI.out⟩
              rw [roadsT_take HXX.out, townT, ← List.append_assoc, ← List.append_assoc, strNums_app, HU.out, List.take_of_length_le (Nat.le_refl _)]
              rfl
            case measure => simp [intOf]; omega
      · have hkl : k = n := by omega
        subst hkl
        have ht := HT.out
        rw [List.take_of_length_le (Nat.le_of_eq HL.out)] at ht
        have HT2 := Lib.hid ht
        clear ht
        go_wp2_with fail
        go_ret
        exact ⟨ret_str (by rw [HF.out, HT2.out]), below_then W1.out HWR.out⟩

end Go.Proofs.YtogbglbmkkbhcaaDoor
