/-
  Words that can be read: the contracts of carefullyAfter, carefullyAfterWord, l04Step, l04Moved, l04All, l04Shape.
-/
import Derived.Test.YtikimfncpemmkabGapV
namespace Go.Proofs.Ytikimfncpemmkab
open Go.RowKit Go.Deep Go.ChangeShapes Go.WideShapes
open Hunt Moved

theorem two_ib {k : IntKind} {r : Nat × Bool} {a : Nat} {b : Bool} (h : r = (a, b)) : Ending.returned (.tuple #[.int k (a : Int), .bool b]) = .returned (.tuple #[.int k (r.1 : Int), .bool r.2]) := by rw [h]

set_option maxRecDepth 100000 in
set_option maxHeartbeats 2000000 in
theorem carefullyAfter_any (A : Option Addr) (n cap b : Nat) (row : List Int) (w : World) (h : NumsAt w A n row) (hn : n ≤ 10) (hr : ∀ y ∈ row, -1 ≤ y ∧ y < (n : Int)) (hb : b < 2 ^ n) :
    Calls Try.prog 120 #[.int .u16 (b : Int), .slice A n cap] w fun e w' => e = .returned (.tuple #[.int .u16 ((carB row b).1 : Int), .bool (carB row b).2]) ∧ Below w.heap.size w w' := by
  have hb10 : b < 1024 := Nat.lt_of_lt_of_le hb (pow_le hn)
  have HR := Lib.hid hr
  have HBN := Lib.hid hb
  have HRL := Lib.hid h.1
  obtain ⟨R, hR⟩ : ∃ R, R = carB row b := ⟨_, rfl⟩
  have HRR := Lib.hid hR
  rw [← hR]
  clear hr hb hR
  go_enter Try.func120, Try.ntmps120
  go_wp2_with fail
  refine (setList_any b _ hb10).mono ?_
  rintro e w1 ⟨u, rfl, ow, b1⟩
  obtain ⟨L, hL⟩ : ∃ L, L = listK b 10 := ⟨_, rfl⟩
  rw [← hL] at ow
  obtain ⟨V, c1, rfl⟩ := own_form ow
  have HL := Lib.hid hL
  have NL := Lib.hid (NumsAt.own ow rfl rfl)
  have HIN := Lib.hid (show ∀ s ∈ L, ∃ q : Nat, s = (q : Int) ∧ q < n from fun s hs => by
    rw [hL] at hs
    obtain ⟨q, rfl, _, hq⟩ := listK_mem hs
    exact ⟨q, rfl, bit_lt HBN.out hq⟩)
  have hll : L.length ≤ 10 := by
    rw [hL]
    unfold listK
    rw [List.length_map]
    exact Nat.le_trans (List.length_filter_le _ _) (by rw [List.length_range]; exact Nat.le_refl _)
  have B1 := Lib.hid b1
  have N1 := Lib.hid (h.below b1)
  clear ow b1 hL
  go_wp2_with fail
  go_loopw [6, 12] (fun u i wr => ∃ (k c : Nat), k ≤ L.length ∧ i = .int .i64 k ∧ u = .int .u16 (c : Int) ∧ carB row b = carL row (L.drop k) c ∧ c < 1024 ∧ Below w1.heap.size w1 wr) (fun _ i _ => L.length - (intOf i).toNat)
  case atStart => exact ⟨0, 0, Nat.zero_le _, rfl, rfl, by rw [HL.out]; rfl, by omega, Below.refl _ _⟩
  case round =>
    obtain ⟨k, c, hk, rfl, rfl, hc, hcl, hbel⟩ := hrel
    have HC := Lib.hid hc
    have HB := Lib.hid hbel
    have nl := NL.out.below hbel
    have nr := N1.out.below hbel
    clear hc hbel
    by_cases hlt : k < L.length
    · obtain ⟨s, b2, off2, hs, rfl, hcs⟩ := nl.at_ hlt
      obtain ⟨q, rfl, hq⟩ := HIN.out s (List.mem_of_getElem? hs)
      obtain ⟨y, b3, off3, hy, rfl, hcy⟩ := nr.at_ hq
      have hy1 := HR.out y (List.mem_of_getElem? hy)
      have hgd : row.getD ((q : Nat) : Int).toNat 0 = y := by rw [Int.toNat_natCast, List.getD_eq_getElem?_getD, hy]; rfl
      have hst := carL_drop (row := row) c hs
      rw [hgd] at hst
      have HST := Lib.hid hst
      have i1 : (0 : Int) ≤ (k : Int) := by omega
      have i2 : (k : Int) < (L.length : Int) := by omega
      have i3 : (0 : Int) ≤ (q : Int) := by omega
      have i4 : (q : Int) < (n : Int) := by omega
      clear hs hy hgd hst nl nr
      by_cases hy0 : y = -1
      · have hbq : (y == -1) = true := by simp [hy0]
        have HE := Lib.hid (show R = (0, false) by rw [HRR.out, HC.out, HST.out, if_pos hy0])
        clear hy0 hy1
        go_wp2_with fail
        go_ret2
        exact ⟨by rw [HE.out]; rfl, below_then B1.out HB.out⟩
      · obtain ⟨t, rfl⟩ : ∃ t : Nat, y = (t : Int) := ⟨y.toNat, by omega⟩
        have hbq : (((t : Nat) : Int) == -1) = false := by simp
        have ht9 : 2 ^ t ≤ 2 ^ 9 := Nat.pow_le_pow_right (by decide) (by omega)
        have HQ := Lib.hid (show ∀ z ∈ [(t : Int)], 0 ≤ z ∧ z < 10 from by simp; omega)
        have HE := Lib.hid (show carB row b = carL row (L.drop (k + 1)) (c ||| 2 ^ t) by rw [HC.out, HST.out, if_neg hy0, Int.toNat_natCast])
        have HOR := Lib.hid (show bits .or .u16 (c : Int) ((setN [(t : Int)] : Nat) : Int) = ((c ||| 2 ^ t : Nat) : Int) by
          rw [setN_one, Nat.one_shiftLeft, u16_or_nat c _ (by omega) (by omega)])
        have HLT := Lib.hid (show c ||| 2 ^ t < 1024 from Nat.or_lt_two_pow (n := 10) hcl (by omega))
        clear hy0 hy1 ht9
        go_wp2_with fail
        refine (setOf_any _ 1 1 [(t : Int)] _ (nums_one _ _ _) HQ.out (by omega)).mono ?_
        obtain ⟨D, hD⟩ : ∃ D : Int, D = ((setN [(t : Int)] : Nat) : Int) := ⟨_, rfl⟩
        have HD := Lib.hid hD
        rw [← hD]
        clear hD
        rintro e w2 ⟨rfl, hw2⟩
        have b2 : Below w1.heap.size w1 w2 := below_then HB.out (by rw [← hw2]; exact (Below.refl _ _).alloc (Nat.le_refl _) _)
        have HB2 := Lib.hid b2
        clear b2 hw2
        go_wp2_with fail
        go_roundw
        case rel => exact ⟨k + 1, c ||| 2 ^ t, by omega, by go_num, by rw [HD.out, HOR.out], HE.out, HLT.out, HB2.out⟩
        case measure => simp [intOf]; omega
    · have hkn : k = L.length := by omega
      have HE := Lib.hid (show R = (c, true) by rw [HRR.out, HC.out, hkn, List.drop_length]; rfl)
      clear hkn nl nr
      go_wp2_with fail
      go_ret2
      exact ⟨two_ib HE.out, below_then B1.out HB.out⟩

theorem carB_no {row : List Int} {b : Nat} (h : (carB row b).2 = false) : (carB row b).1 = 0 := by
  have : ∀ (L : List Int) (c : Nat), (carL row L c).2 = false → (carL row L c).1 = 0 := by
    intro L
    induction L with
    | nil => intro c h; cases h
    | cons s L ih =>
      intro c h
      unfold carL at h ⊢
      split at h
      · rename_i hs; rw [if_pos hs]
      · rename_i hs; rw [if_neg hs]; exact ih _ h
  exact this _ _ h

set_option maxRecDepth 100000 in
set_option maxHeartbeats 2000000 in
theorem carefullyAfterWord_any (A A' : Option Addr) (n m cap l cap' b : Nat) (xss : List (List Int)) (ws : List Int) (w : World) (hg : GoodP n m xss) (h : RowsAt w A m xss) (h' : NumsAt w A' l ws) (hw : ∀ x ∈ ws, 0 ≤ x ∧ x < (m : Int)) (hl : l ≤ 4611686018427387904) (hb : b < 2 ^ n) :
    Calls Try.prog 137 #[.int .u16 (b : Int), .agg #[.int .i64 (n : Int), .slice A m cap], .slice A' l cap'] w fun e w' => e = .returned (.tuple #[.int .u16 ((carW xss ws b).1 : Int), .bool (carW xss ws b).2]) ∧ Below w.heap.size w w' := by
  have hn10 : n ≤ 10 := hg.n10
  have b0 : Below w.heap.size w (w.alloc (.cells #[.int .i64 (n : Int), .slice A m cap] 67)) := (Below.refl _ _).alloc (Nat.le_refl _) _
  have x1 : (w.alloc (.cells #[.int .i64 (n : Int), .slice A m cap] 67)).cell? ⟨w.heap.size, 1, none⟩ = some (.slice A m cap) := by go_cell
  obtain ⟨R, hR⟩ : ∃ R, R = carW xss ws b := ⟨_, rfl⟩
  have HRR := Lib.hid hR
  rw [← hR]
  have HG := Lib.hid hg
  have HW := Lib.hid hw
  have HBN := Lib.hid hb
  have H0 := Lib.hid (h.below b0)
  have N0 := Lib.hid (h'.below b0)
  have B0 := Lib.hid b0
  have HLW := Lib.hid h'.1
  have X1 := Lib.hid x1
  clear hg hw b0 x1 hR hb
  go_enter Try.func137, Try.ntmps137
  go_wp2_with fail
  obtain ⟨w0, hw0⟩ : ∃ w0, w0 = w.alloc (.cells #[.int .i64 (n : Int), .slice A m cap] 67) := ⟨_, rfl⟩
  rw [← hw0] at H0 N0 B0 X1
  rw [← hw0]
  clear hw0
  go_loopw [0, 8, 13] (fun u r i wr => ∃ (k c : Nat), k ≤ l ∧ i = .int .i64 k ∧ r = .bool true ∧ u = .int .u16 (c : Int) ∧ carW xss ws b = carW xss (ws.drop k) c ∧ c < 2 ^ n ∧ Below w0.heap.size w0 wr) (fun _ _ i _ => l - (intOf i).toNat)
  case atStart => exact ⟨0, b, Nat.zero_le _, rfl, rfl, rfl, rfl, HBN.out, Below.refl _ _⟩
  case round =>
    obtain ⟨k, c, hk, rfl, rfl, rfl, hc, hcl, hbel⟩ := hrel
    have HC := Lib.hid hc
    have HCL := Lib.hid hcl
    have HB := Lib.hid hbel
    have nw := N0.out.below hbel
    have hx1 : World.cell? ‹World› ⟨w.heap.size, 1, none⟩ = some (.slice A m cap) := (hbel.cell (cell_lt X1.out)).trans X1.out
    have rows := H0.out.below hbel
    clear hc hbel hcl
    by_cases hlt : k < l
    · obtain ⟨y, b3, off3, hy, rfl, hcy⟩ := nw.at_ hlt
      have hy1 := HW.out y (List.mem_of_getElem? hy)
      obtain ⟨t, rfl⟩ : ∃ t : Nat, y = (t : Int) := ⟨y.toNat, by omega⟩
      have htm : t < m := by omega
      obtain ⟨row, b4, off4, A5, c5, hr, hA, hcr, hnum⟩ := rows.at_ htm
      subst hA
      have hgd : xss.getD ((t : Nat) : Int).toNat [] = row := by rw [Int.toNat_natCast, List.getD_eq_getElem?_getD, hr]; rfl
      obtain ⟨hlen, hrow⟩ := HG.out.at_ htm
      rw [Int.toNat_natCast] at hgd
      rw [hgd] at hlen hrow
      rw [hlen] at hcr hnum
      have hst := carW_drop (xss := xss) c hy
      rw [Int.toNat_natCast, hgd] at hst
      have HST := Lib.hid hst
      have HNUM := Lib.hid hnum
      have HROW := Lib.hid hrow
      have HIN := Lib.hid (carB_in hlen hrow HCL.out)
      have i1 : (0 : Int) ≤ (k : Int) := by omega
      have i2 : (k : Int) < (l : Int) := by omega
      have i3 : (0 : Int) ≤ (t : Int) := by omega
      have i4 : (t : Int) < (m : Int) := by omega
      clear hy hy1 hr hgd hrow hnum hlen hst nw rows
      go_wp2_with fail
      refine (carefullyAfter_any A5 n c5 c row _ HNUM.out hn10 HROW.out HCL.out).mono ?_
      obtain ⟨S, hS⟩ : ∃ S, S = carB row c := ⟨_, rfl⟩
      have HS := Lib.hid hS
      rw [← hS]
      have HZ0 := Lib.hid (show S.2 = false → S.1 = 0 by rw [hS]; exact carB_no)
      obtain ⟨S1, S2⟩ := S
      clear hS
      rintro e w2 ⟨rfl, b2⟩
      have HB2 := Lib.hid (below_then HB.out b2)
      clear b2
      rcases S2 with _ | _
      · have HE := Lib.hid (show R = (0, false) by rw [HRR.out, HC.out, HST.out, ← HS.out]; rfl)
        have HZ := Lib.hid (HZ0.out rfl)
        go_wp2_with fail
        go_ret2
        exact ⟨two_ib (show R = (S1, false) by rw [HE.out, HZ.out]), below_then B0.out HB2.out⟩
      · have HE := Lib.hid (show carW xss ws b = carW xss (ws.drop (k + 1)) S1 by rw [HC.out, HST.out, ← HS.out]; rfl)
        have HI := Lib.hid (show S1 < 2 ^ n by have := HIN.out; rw [← HS.out] at this; exact this)
        go_wp2_with fail
        go_roundw
        case rel => exact ⟨k + 1, S1, by omega, by go_num, rfl, rfl, HE.out, HI.out, HB2.out⟩
        case measure => simp [intOf]; omega
    · have hkl : k = l := by omega
      have HE := Lib.hid (show R = (c, true) by rw [HRR.out, HC.out, List.drop_of_length_le (by rw [HLW.out]; omega)]; rfl)
      clear hkl nw rows
      go_wp2_with fail
      go_ret2
      exact ⟨two_ib HE.out, below_then B0.out HB.out⟩

theorem i64_or_t {c t : Nat} (hc : c < 1024) (ht : t < 10) : bits .or .i64 (c : Int) (wrap64 (2 ^ t)) = ((c ||| 2 ^ t : Nat) : Int) := by
  have ht9 : 2 ^ t ≤ 2 ^ 9 := Nat.pow_le_pow_right (by decide) (by omega)
  have e3 : ((2 : Int) ^ t) = ((2 ^ t : Nat) : Int) := by push_cast; rfl
  rw [e3, wrap_512 (Nat.le_trans ht9 (by decide)), i64_or_nat c _ (by omega) (by omega)]

set_option maxRecDepth 100000 in
set_option maxHeartbeats 2000000 in
theorem l04Step_any (p : Nat) (A : Option Addr) (n m cap b x : Nat) (xss : List (List Int)) (w : World) (hg : GoodP n m xss) (c0 : w.cell? ⟨p, 0, none⟩ = some (.int .i64 (n : Int))) (c1 : w.cell? ⟨p, 1, none⟩ = some (.slice A m cap)) (h : RowsAt w A m xss) (hx : x < m) (hb : b < 2 ^ n) :
    Calls Try.prog 165 #[.pointer (some ⟨p, 0, none⟩), .int .i64 (b : Int), .int .i64 (x : Int)] w fun e w' => e = .returned (.tuple #[.int .i64 ((carB (xss.getD x []) b).1 : Int), .bool (carB (xss.getD x []) b).2]) ∧ w = w' := by
  have hn10 : n ≤ 10 := hg.n10
  have hb10 : b < 1024 := Nat.lt_of_lt_of_le hb (pow_le hn10)
  obtain ⟨row, b4, off4, A5, c5, hr, hA, hcr, hnum⟩ := h.at_ hx
  subst hA
  have hgd : xss.getD x [] = row := by rw [List.getD_eq_getElem?_getD, hr]; rfl
  obtain ⟨hlen, hrow⟩ := hg.at_ hx
  rw [hgd] at hlen hrow ⊢
  rw [hlen] at hcr hnum
  obtain ⟨R, hR⟩ : ∃ R, R = carB row b := ⟨_, rfl⟩
  have HRR := Lib.hid (show R = carL row (listS b 0 n) 0 by rw [hR, carB, listK_all hb hn10])
  rw [← hR]
  have HNUM := Lib.hid hnum
  have HROW := Lib.hid hrow
  have HRL := Lib.hid hlen
  have i3 : (0 : Int) ≤ (x : Int) := by omega
  have i4 : (x : Int) < (m : Int) := by omega
  clear hr hgd hlen hrow hnum hR hb hg h
  go_enter Try.func165, Try.ntmps165
  go_wp2_with fail
  go_loop [8, 9] (fun u i => ∃ (k c : Nat), k ≤ n ∧ i = .int .i64 k ∧ u = .int .i64 (c : Int) ∧ R = carL row (listS b k (n - k)) c ∧ c < 1024) (fun _ i => n - (intOf i).toNat)
  case atStart => exact ⟨0, 0, Nat.zero_le _, rfl, rfl, HRR.out, by omega⟩
  case round =>
    obtain ⟨k, c, hk, rfl, rfl, hc, hcl⟩ := hrel
    have HC := Lib.hid hc
    clear hc
    by_cases hlt : k < n
    · obtain ⟨y, b3, off3, hy, rfl, hcy⟩ := HNUM.out.at_ hlt
      have hy1 := HROW.out y (List.mem_of_getElem? hy)
      have hgd : row.getD ((k : Nat) : Int).toNat 0 = y := by rw [Int.toNat_natCast, List.getD_eq_getElem?_getD, hy]; rfl
      have i1 : (0 : Int) ≤ (k : Int) := by omega
      have i2 : (k : Int) < (n : Int) := by omega
      have i5 : (k : Int) < 10 := by omega
      have e1 : (b : Int) / 2 ^ k = ((b / 2 ^ k : Nat) : Int) := by push_cast; rfl
      have hdl : b / 2 ^ k ≤ b := Nat.div_le_self _ _
      have hand : bits .and .i64 ((b : Int) / 2 ^ k) 1 = ((b / 2 ^ k % 2 : Nat) : Int) := by
        rw [e1]
        have e2 := i64_and_nat (b / 2 ^ k) 1 (by omega) (by decide)
        rw [show ((1 : Nat) : Int) = 1 from rfl, Nat.and_one_is_mod] at e2
        exact e2
      have htb : b.testBit k = decide (b / 2 ^ k % 2 = 1) := Nat.testBit_eq_decide_div_mod_eq
      rw [show n - k = (n - (k + 1)) + 1 by omega, listS] at HC
      rcases Nat.mod_two_eq_zero_or_one (b / 2 ^ k) with hz | hz
      · rw [hz] at hand
        have HE := Lib.hid (show R = carL row (listS b (k + 1) (n - (k + 1))) c by rw [HC.out, if_neg (by rw [htb, hz]; simp)])
        clear hy hy1 hgd e1 hdl hz htb
        go_wp2_with fail
        go_round
        case rel => exact ⟨k + 1, c, by omega, by go_num, rfl, HE.out, hcl⟩
        case measure => simp [intOf]; omega
      · rw [hz] at hand
        have HE := Lib.hid (show R = carL row ((k : Int) :: listS b (k + 1) (n - (k + 1))) c by rw [HC.out, if_pos (by rw [htb, hz]; simp)])
        by_cases hy0 : y = -1
        · have hneg : y < 0 := by omega
          have HF := Lib.hid (show R = (0, false) by rw [HE.out, carL, hgd, if_pos hy0])
          clear hy hy1 hgd e1 hdl hz htb hy0
          go_wp2_with fail
          go_ret2
          exact ⟨by rw [HF.out]; rfl, rfl⟩
        · obtain ⟨t, rfl⟩ : ∃ t : Nat, y = (t : Int) := ⟨y.toNat, by omega⟩
          have HF := Lib.hid (show R = carL row (listS b (k + 1) (n - (k + 1))) (c ||| 2 ^ t) by rw [HE.out, carL, hgd, if_neg hy0, Int.toNat_natCast])
          have i6 : (0 : Int) ≤ (t : Int) := by omega
          have i7 : (t : Int) < 10 := by omega
          have hneg : ¬ (t : Int) < 0 := by omega
          have ht9 : 2 ^ t ≤ 2 ^ 9 := Nat.pow_le_pow_right (by decide) (by omega)
          have HLT := Lib.hid (show c ||| 2 ^ t < 1024 from Nat.or_lt_two_pow (n := 10) hcl (by omega))
          have HOR := Lib.hid (i64_or_t hcl (show t < 10 by omega))
          clear hy hy1 hgd e1 hdl hz htb hy0 ht9
          go_wp2_with fail
          go_round
          case rel => exact ⟨k + 1, c ||| 2 ^ t, by omega, by go_num, by rw [HOR.out], HF.out, HLT.out⟩
          case measure => simp [intOf]; omega
    · have hkn : k = n := by omega
      have HE := Lib.hid (show R = (c, true) by rw [HC.out, hkn, Nat.sub_self]; rfl)
      clear hkn
      go_wp2_with fail
      go_ret2
      exact ⟨two_ib HE.out, rfl⟩

set_option maxRecDepth 100000 in
theorem l04All_any (n : Nat) (w : World) (hn : n ≤ 10) :
    Calls Try.prog 164 #[.int .i64 (n : Int)] w fun e w' => e = .returned (.int .i64 ((2 ^ n - 1 : Nat) : Int)) ∧ w = w' := by
  have j0 : (0 : Int) ≤ (n : Int) := by omega
  have j1 : (n : Int) ≤ 10 := by omega
  have hp := pow_le hn
  have hp0 : 0 < 2 ^ n := Nat.pow_pos (by decide)
  have e1 : ((2 : Int) ^ n) = ((2 ^ n : Nat) : Int) := by push_cast; rfl
  have HE := Lib.hid e1
  have HP := Lib.hid hp
  have HP0 := Lib.hid hp0
  clear hp hp0 e1
  go_enter Try.func164, Try.ntmps164
  go_wp2_with fail
  go_ret
  have h1 := HP.out
  have h0 := HP0.out
  obtain ⟨P, hP⟩ : ∃ P, P = 2 ^ n := ⟨_, rfl⟩
  refine ⟨ret_int ?_, rfl⟩
  rw [HE.out, ← hP]
  rw [← hP] at h1 h0
  unfold wrap64
  omega

set_option maxRecDepth 100000 in
set_option maxHeartbeats 1000000 in
theorem l04Shape_any (s : Int) (m : Nat) (w : World) (hm : m ≤ 10) :
    Calls Try.prog 80 #[.int .i64 s, .int .i64 (m : Int)] w fun e w' => ∃ X, e = .returned (.agg #[.int .i64 s, .slice X m m]) ∧ Below w.heap.size w w' := by
  have hmk := run_make_row' (P := Try.prog) 37 32 (.slice none 0 0) 24 Try.underlying37 info_ints rfl .i64 .i64 m (by omega) (by omega)
  go_enter Try.func80, Try.ntmps80
  go_wp2_with fail
  have e0 : ((w.alloc (.cells #[.int .i64 s, .slice (some ⟨w.heap.size + 1, 0, none⟩) m m] 43)).alloc (.cells (madeCells #[.slice none 0 0] m) 32)).cell? ⟨w.heap.size, 0, none⟩ = some (.int .i64 s) := by go_cell
  have e1 : ((w.alloc (.cells #[.int .i64 s, .slice (some ⟨w.heap.size + 1, 0, none⟩) m m] 43)).alloc (.cells (madeCells #[.slice none 0 0] m) 32)).cell? ⟨w.heap.size, 1, none⟩ = some (.slice (some ⟨w.heap.size + 1, 0, none⟩) m m) := by go_cell
  refine bodyPost_ret (v := .agg #[.int .i64 s, .slice (some ⟨w.heap.size + 1, 0, none⟩) m m]) (by simp [results, Try.results80, go_sem, e0, e1]) rfl ⟨_, rfl, by go_grown⟩

end Go.Proofs.Ytikimfncpemmkab
