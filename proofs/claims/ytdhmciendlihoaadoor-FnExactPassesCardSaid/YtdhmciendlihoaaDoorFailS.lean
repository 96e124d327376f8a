/-
  The model's first letter and first word that a machine fails: the contracts of l07Fails, l07Failing and l07Two.
-/
import Derived.Test.YtdhmciendlihoaaDoorFailD
namespace Go.Proofs.YtdhmciendlihoaaDoor
open Go.RowKit Go.Deep Go.ChangeShapes Go.WideShapes

/-- A place, or -1. -/
def placeI : Option Nat → Int
  | some j => (j : Int)
  | none => -1
theorem placeI_neg {o : Option Nat} : (placeI o < 0) ↔ o = none := by
  cases o with
  | none => simp [placeI]
  | some j => simp [placeI]

set_option maxRecDepth 100000 in
set_option maxHeartbeats 2000000 in
theorem l07Fails_any (p : Nat) (A : Option Addr) (n m k c : Nat) (xss : List (List Int)) (B : Option Addr) (d : Nat) (yss : List (List Int)) (p' : Nat) (A2 : Option Addr) (n2 k2 c2 : Nat) (xss2 : List (List Int)) (B2 : Option Addr) (d2 : Nat) (yss2 : List (List Int)) (A' : Option Addr) (l cap' : Nat) (ws : List Int) (w : World)
    (hg : GoodM n m k xss yss) (hb : MBox w p (n : Int) (k : Int) A m c B m d) (h : RowsAt w A m xss) (g : RowsAt w B m yss) (hg2 : GoodM n2 m k2 xss2 yss2) (hb2 : MBox w p' (n2 : Int) (k2 : Int) A2 m c2 B2 m d2) (h2 : RowsAt w A2 m xss2) (g2 : RowsAt w B2 m yss2)
    (h' : NumsAt w A' l ws) (hw : ∀ x ∈ ws, 0 ≤ x ∧ x < (m : Int)) (hl : l ≤ 400) :
    Calls Tryd.prog 61 #[.pointer (some ⟨p, 0, none⟩), .pointer (some ⟨p', 0, none⟩), .slice A' l cap'] w fun e w' => e = .returned (.int .i64 (placeI (failN xss yss xss2 yss2 ws))) ∧ Below w.heap.size w w' := by
  have HL := Lib.hid h'.1
  have hn1 : 0 < n := by have := hg.good.n1; omega
  have hn2 : 0 < n2 := by have := hg2.good.n1; omega
  have HG := Lib.hid hg
  have HG2 := Lib.hid hg2
  have HB2 := Lib.hid hb2
  have HX2 := Lib.hid h2
  have HY2 := Lib.hid g2
  have HN := Lib.hid h'
  have HWL := Lib.hid hw
  go_enter Tryd.func61, Tryd.ntmps61
  go_wp2_with fail
  refine (l06Run_any p A n m k c xss B d yss 0 A' l cap' ws w hg hb h g h' hw hn1 hl).mono ?_
  rintro e w1 ⟨v1, rfl, o1, b1⟩
  obtain ⟨A3, c3, rfl⟩ := own_form o1
  have HO1 := Lib.hid o1
  have B1 := Lib.hid b1
  clear hg hb h g hg2 hb2 h2 g2 h' hw o1 b1
  go_wp2_with fail
  refine (l06Run_any p' A2 n2 m k2 c2 xss2 B2 d2 yss2 0 A' l cap' ws w1 HG2.out (Box.below HB2.out B1.out) (HX2.out.below B1.out) (HY2.out.below B1.out) (HN.out.below B1.out) HWL.out hn2 hl).mono ?_
  rintro e w2 ⟨v2, rfl, o2, b2⟩
  obtain ⟨A4, c4, rfl⟩ := own_form o2
  have e1 : (outS xss yss ws 0).length = l := by rw [outS_len, HL.out]
  have e2 : (outS xss2 yss2 ws 0).length = l := by rw [outS_len, HL.out]
  have HN1 := Lib.hid (show NumsAt w2 A3 l (outS xss yss ws 0) by have o := own_below HO1.out b2; rw [e1] at o; exact NumsAt.own o e1 rfl)
  have HN2 := Lib.hid (show NumsAt w2 A4 l (outS xss2 yss2 ws 0) by rw [e2] at o2; exact NumsAt.own o2 e2 rfl)
  have W2 := Lib.hid (below_then B1.out b2)
  have E1 := Lib.hid e1
  have E2 := Lib.hid e2
  rw [e1, e2]
  clear o2 b2 e1 e2
  go_wp2_with fail
  go_loopw [11] (fun i wr => ∃ j q : Nat, j ≤ l ∧ i = .int .i64 j ∧ wr = w2.drewN q ∧ (outS xss yss ws 0).take j = (outS xss2 yss2 ws 0).take j) (fun i _ => l - (intOf i).toNat)
  case atStart => exact ⟨0, 0, Nat.zero_le _, rfl, rfl, rfl⟩
  case round =>
    obtain ⟨j, q, hj, rfl, hwr, hall⟩ := hrel
    have HA := Lib.hid hall
    have HW := Lib.hid hwr
    clear hall
    by_cases hlt : j < l
    · obtain ⟨y, b3, off3, hy, rfl, hcy⟩ := HN1.out.at_ hlt
      obtain ⟨z, b4, off4, hz, rfl, hcz⟩ := HN2.out.at_ hlt
      have y1 : wr.cell? ⟨b3, off3 + j, none⟩ = some (.int .i64 y) := by rw [hwr]; exact hcy
      have z1 : wr.cell? ⟨b4, off4 + j, none⟩ = some (.int .i64 z) := by rw [hwr]; exact hcz
      have HYJ := Lib.hid hy
      have HZJ := Lib.hid hz
      have hj0 : (0 : Int) ≤ (j : Int) := by omega
      have hjl : (j : Int) < (l : Int) := by omega
      clear hy hz hcy hcz hwr
      by_cases hne : y = z
      · have hne' : (y != z) = false := by simp [hne]
        have HNE := Lib.hid hne
        clear hne
        go_wp2_with fail
        go_quiet (fail)
        go_wp2_with fail
        go_roundw
        case rel => exact ⟨j + 1, _, by omega, by go_num, by rw [HW.out, World.drewN_drewN], take_eq_snoc HA.out HYJ.out (by rw [HZJ.out, HNE.out])⟩
        case measure => simp [intOf]; omega
      · have hne' : (y != z) = true := by rw [bne_iff_ne]; exact hne
        have HNE := Lib.hid hne
        clear hne
        go_wp2_with fail
        go_quiet (fail)
        go_wp2_with fail
        go_ret
        have ef : failN xss yss xss2 yss2 ws = some j := diffN_at HA.out HYJ.out HZJ.out HNE.out
        rw [ef]
        exact ⟨rfl, by rw [HW.out]; exact below_drewN' (below_drewN' W2.out _) _⟩
    · clear hwr
      go_wp2_with fail
      go_ret
      have hjl : j = l := by omega
      have ef : failN xss yss xss2 yss2 ws = none := by
        have h1 := HA.out
        rw [hjl, List.take_of_length_le (Nat.le_of_eq E1.out), List.take_of_length_le (Nat.le_of_eq E2.out)] at h1
        unfold failN
        rw [h1]
        exact diffN_none _
      rw [ef]
      exact ⟨rfl, by rw [HW.out]; exact below_drewN' W2.out _⟩

/-- What l07Failing answers. -/
def failingV : Option (Nat × Nat) → Value
  | some p => .tuple #[.int .i64 (p.1 : Int), .int .i64 (p.2 : Int)]
  | none => .tuple #[.int .i64 (-1), .int .i64 0]

set_option maxRecDepth 100000 in
set_option maxHeartbeats 2000000 in
theorem l07Failing_any (p : Nat) (A : Option Addr) (n m k c : Nat) (xss : List (List Int)) (B : Option Addr) (d : Nat) (yss : List (List Int)) (p' : Nat) (A2 : Option Addr) (n2 k2 c2 : Nat) (xss2 : List (List Int)) (B2 : Option Addr) (d2 : Nat) (yss2 : List (List Int)) (A' : Option Addr) (l cap' : Nat) (wss : List (List Int)) (w : World)
    (hg : GoodM n m k xss yss) (hb : MBox w p (n : Int) (k : Int) A m c B m d) (h : RowsAt w A m xss) (g : RowsAt w B m yss) (hg2 : GoodM n2 m k2 xss2 yss2) (hb2 : MBox w p' (n2 : Int) (k2 : Int) A2 m c2 B2 m d2) (h2 : RowsAt w A2 m xss2) (g2 : RowsAt w B2 m yss2)
    (h' : RowsAt w A' l wss) (hs : isSuiteB (m : Int) wss = true) :
    Calls Tryd.prog 43 #[.pointer (some ⟨p, 0, none⟩), .pointer (some ⟨p', 0, none⟩), .slice A' l cap'] w fun e w' => e = .returned (failingV (failing (failN xss yss xss2 yss2) wss)) ∧ Below w.heap.size w w' := by
  have HL := Lib.hid h'.1
  have hl4 : l ≤ 400 := by have := isSuiteB_len hs; have := h'.1; omega
  have HG := Lib.hid hg
  have HB := Lib.hid hb
  have HX := Lib.hid h
  have HY := Lib.hid g
  have HG2 := Lib.hid hg2
  have HB2 := Lib.hid hb2
  have HX2 := Lib.hid h2
  have HY2 := Lib.hid g2
  have HS := Lib.hid h'
  have HSU := Lib.hid hs
  clear hg hb h g hg2 hb2 h2 g2 h' hs
  go_enter Tryd.func43, Tryd.ntmps43
  go_wp2_with fail
  go_loopw [8] (fun i wr => ∃ j : Nat, j ≤ l ∧ i = .int .i64 j ∧ Below w.heap.size w wr ∧ ∀ x ∈ wss.take j, failN xss yss xss2 yss2 x = none) (fun i _ => l - (intOf i).toNat)
  case atStart => exact ⟨0, Nat.zero_le _, rfl, Below.refl _ _, fun x hx => by simp at hx⟩
  case round =>
    obtain ⟨j, hj, rfl, hbel, hall⟩ := hrel
    have HA := Lib.hid hall
    have HW := Lib.hid hbel
    clear hall
    by_cases hlt : j < l
    · obtain ⟨ws, b, off, A1, a1, hx, rfl, hc1, hnum1⟩ := (HS.out.below hbel).at_ hlt
      have HXX := Lib.hid hx
      have HNW := Lib.hid hnum1
      have hwd := isSuiteB_at HSU.out hx
      have HWL := Lib.hid (word_letters hwd)
      have hlw : ws.length ≤ 400 := by simp only [isWordB, Bool.and_eq_true, decide_eq_true_eq] at hwd; exact hwd.1
      have hj0 : (0 : Int) ≤ (j : Int) := by omega
      have hjl : (j : Int) < (l : Int) := by omega
      clear hx hnum1 hwd hbel
      go_wp2_with fail
      refine (l07Fails_any p A n m k c xss B d yss p' A2 n2 k2 c2 xss2 B2 d2 yss2 A1 ws.length a1 ws wr HG.out (Box.below HB.out HW.out) (HX.out.below HW.out) (HY.out.below HW.out) HG2.out (Box.below HB2.out HW.out) (HX2.out.below HW.out) (HY2.out.below HW.out) HNW.out HWL.out hlw).mono ?_
      rintro e w1 ⟨rfl, b1⟩
      have HW1 := Lib.hid (below_then HW.out b1)
      clear b1 hc1
      rcases hf : failN xss yss xss2 yss2 ws with _ | i
      · have h0 : ¬ (0 : Int) ≤ placeI none := by simp [placeI]
        have HF := Lib.hid hf
        clear hf
        simp only [placeI]
        go_wp2_with fail
        go_roundw
        case rel => exact ⟨j + 1, by omega, by go_num, HW1.out, none_snoc HA.out HXX.out HF.out⟩
        case measure => simp [intOf]; omega
      · have HF := Lib.hid hf
        have hi0 : (0 : Int) ≤ (i : Int) := by omega
        clear hf
        simp only [placeI]
        go_wp2_with fail
        go_ret2
        rw [failing_at HA.out HXX.out HF.out]
        exact ⟨rfl, HW1.out⟩
    · clear hbel
      go_wp2_with fail
      go_ret2
      have hjl : j = l := by omega
      subst hjl
      rw [failing_none (none_done HL.out HA.out)]
      exact ⟨rfl, HW.out⟩

set_option maxRecDepth 100000 in
set_option maxHeartbeats 4000000 in
/-- The code of two machines and a suite. -/
theorem l07Two_any (p : Nat) (s q : Int) (A : Option Addr) (n c : Nat) (xss : List (List Int)) (B : Option Addr) (m d : Nat) (yss : List (List Int)) (p' : Nat) (s' q' : Int) (A2 : Option Addr) (n2 c2 : Nat) (xss2 : List (List Int)) (B2 : Option Addr) (m2 d2 : Nat) (yss2 : List (List Int)) (A' : Option Addr) (l cap' : Nat) (wss : List (List Int)) (w : World)
    (hb : MBox w p s q A n c B m d) (h : RowsAt w A n xss) (hn : n ≤ 4611686018427387904) (hrows : ∀ (r : Nat) (xs : List Int), xss[r]? = some xs → xs.length ≤ 4611686018427387904) (g : RowsAt w B m yss) (hm : m ≤ 4611686018427387904) (houts : ∀ (r : Nat) (xs : List Int), yss[r]? = some xs → xs.length ≤ 4611686018427387904)
    (hb2 : MBox w p' s' q' A2 n2 c2 B2 m2 d2) (h2 : RowsAt w A2 n2 xss2) (hn2 : n2 ≤ 4611686018427387904) (hrows2 : ∀ (r : Nat) (xs : List Int), xss2[r]? = some xs → xs.length ≤ 4611686018427387904) (g2 : RowsAt w B2 m2 yss2) (hm2 : m2 ≤ 4611686018427387904) (houts2 : ∀ (r : Nat) (xs : List Int), yss2[r]? = some xs → xs.length ≤ 4611686018427387904)
    (h' : RowsAt w A' l wss) (hl : l ≤ 4611686018427387904) (hwds : ∀ (r : Nat) (xs : List Int), wss[r]? = some xs → xs.length ≤ 4611686018427387904) :
    Calls Tryd.prog 42 #[.pointer (some ⟨p, 0, none⟩), .pointer (some ⟨p', 0, none⟩), .slice A' l cap'] w fun e w' => e = .returned (.int .i64 (codeTwo s q xss yss s' q' xss2 yss2 wss)) ∧ Below w.heap.size w w' := by
  have HR := Lib.hid hrows
  have HO := Lib.hid houts
  have HR2 := Lib.hid hrows2
  have HO2 := Lib.hid houts2
  have HD := Lib.hid hwds
  have HL := Lib.hid h.1
  have HL2 := Lib.hid h2.1
  have HB := Lib.hid hb
  have HX := Lib.hid h
  have HY := Lib.hid g
  have HB2 := Lib.hid hb2
  have HX2 := Lib.hid h2
  have HY2 := Lib.hid g2
  have HS := Lib.hid h'
  clear hrows houts hrows2 houts2 hwds hb h g hb2 h2 g2 h'
  go_enter Tryd.func42, Tryd.ntmps42
  go_wp2_with fail
  refine (l06Ok_any p s q A n c xss B m d yss w HB.out HX.out hn HR.out HY.out hm HO.out).mono ?_
  rintro e w1 ⟨rfl, b1⟩
  have W1 := Lib.hid b1
  clear b1
  rcases hok : okM s q xss yss with _ | _
  · go_wp2_with fail
    go_ret
    exact ⟨ret_int (codeTwo_1 hok).symm, W1.out⟩
  · go_wp2_with fail
    refine (l06Ok_any p' s' q' A2 n2 c2 xss2 B2 m2 d2 yss2 w1 (Box.below HB2.out W1.out) (HX2.out.below W1.out) hn2 HR2.out (HY2.out.below W1.out) hm2 HO2.out).mono ?_
    rintro e w2 ⟨rfl, b2⟩
    have W2 := Lib.hid (below_then W1.out b2)
    clear b2
    rcases hok2 : okM s' q' xss2 yss2 with _ | _
    · go_wp2_with fail
      go_ret
      exact ⟨ret_int (codeTwo_1' hok2).symm, W2.out⟩
    · have d1 := (Box.below HB.out W2.out) 1 _ rfl
      have d2' := (Box.below HB.out W2.out) 2 _ rfl
      have f1 := (Box.below HB2.out W2.out) 1 _ rfl
      have f2 := (Box.below HB2.out W2.out) 2 _ rfl
      have hml := (okA_parts (okM_auto hok)).2.1
      have hl1 : 1 ≤ n := by have := HL.out; omega
      have hl3 : n ≤ 3 := by have := HL.out; omega
      have HOK := Lib.hid hok
      have HOK2 := Lib.hid hok2
      clear hml hok hok2
      by_cases hq : q = q'
      · by_cases hnn : n = n2
        · have eq : (q != q') = false := by simp [hq]
          have en : ((n : Int) != (n2 : Int)) = false := by simp [hnn]
          have HF := Lib.hid (fitTwo_t (wss := wss) hq (show xss.length = xss2.length by rw [HL.out, HL2.out, hnn]))
          have r1 : ∀ W', Below w2.heap.size w2 W' → W'.cell? ⟨p, 1, none⟩ = some (.int .i64 q) := fun _ hb => (hb.cell (cell_lt d1)).trans d1
          have r2 : ∀ W', Below w2.heap.size w2 W' → W'.cell? ⟨p, 2, none⟩ = some (.slice A n c) := fun _ hb => (hb.cell (cell_lt d2')).trans d2'
          have r3 : ∀ W', Below w2.heap.size w2 W' → W'.cell? ⟨p', 1, none⟩ = some (.int .i64 q') := fun _ hb => (hb.cell (cell_lt f1)).trans f1
          have r4 : ∀ W', Below w2.heap.size w2 W' → W'.cell? ⟨p', 2, none⟩ = some (.slice A2 n2 c2) := fun _ hb => (hb.cell (cell_lt f2)).trans f2
          have c9 : Below w2.heap.size w2 w2 := Below.refl _ _
          obtain ⟨b, hb⟩ : ∃ b, b = isSuiteB (n : Int) wss := ⟨_, rfl⟩
          have HBB := Lib.hid hb
          clear hq hnn d1 d2' f1 f2 hb
          go_wp2_with fail
          go_region_held3 (fun w' => Below w2.heap.size w2 w') (first | assumption | exact below_drewN' (by assumption) _)
            (first
              | (go_at_call 32; refine (l07Suite_any p s q A n c B m d A' l cap' wss _ (Box.below HB.out (below_then W2.out (by first | assumption | exact below_drewN' (by assumption) _))) (HS.out.below (below_then W2.out (by first | assumption | exact below_drewN' (by assumption) _))) hl1 hl3 hl HD.out).mono ?_; rw [← HBB.out]; rintro e w3 ⟨rfl, b3⟩; have c3 : Below w2.heap.size w2 w3 := below_then (by first | assumption | exact below_drewN' (by assumption) _) b3; clear b3)
              | fail)
          all_goals
            cases b
            · go_wp2_with fail
              go_ret
              exact ⟨ret_int (codeTwo_2 HOK.out HOK2.out (by rw [HF.out, HL.out, ← HBB.out])).symm, below_then W2.out (by first | assumption | exact below_drewN' (by assumption) _)⟩
            · go_wp2_with fail
              go_ret
              exact ⟨ret_int (codeTwo_0 HOK.out HOK2.out (by rw [HF.out, HL.out, ← HBB.out])).symm, below_then W2.out (by first | assumption | exact below_drewN' (by assumption) _)⟩
        · have eq : (q != q') = false := by simp [hq]
          have en : ((n : Int) != (n2 : Int)) = true := by rw [bne_iff_ne]; omega
          have HF := Lib.hid (fitTwo_n (q := q) (q' := q') (wss := wss) (show ¬ xss.length = xss2.length by rw [HL.out, HL2.out]; exact hnn))
          clear hq hnn
          go_wp2_with fail
          go_quiet (fail)
          go_wp2_with fail
          go_ret
          exact ⟨ret_int (codeTwo_2 HOK.out HOK2.out HF.out).symm, below_drewN' W2.out _⟩
      · have eq : (q != q') = true := by rw [bne_iff_ne]; exact hq
        have HF := Lib.hid (fitTwo_q (xss := xss) (xss' := xss2) (wss := wss) hq)
        clear hq
        go_wp2_with fail
        go_quiet (fail)
        go_wp2_with fail
        go_ret
        exact ⟨ret_int (codeTwo_2 HOK.out HOK2.out HF.out).symm, below_drewN' W2.out _⟩

end Go.Proofs.YtdhmciendlihoaaDoor
