/-
  Suites: which lists are one; the contracts of l07Suite, findSuiteFault, isSuite, checkSuite and of both ValidSuite.
-/
import Derived.Test.YtdhmciendlihoaaDoorMachR
import Derived.Test.YtdhmciendlihoaaDoorErrAs
namespace Go.Proofs.YtdhmciendlihoaaDoor
open Go.RowKit Go.Deep Go.ChangeShapes Go.WideShapes

def isSuiteB (m : Int) (wss : List (List Int)) : Bool := decide (wss.length ≤ 400) && wss.all (isWordB m)
theorem isSuiteB_t {m : Int} {wss : List (List Int)} (h : wss.length ≤ 400) (h' : wss.all (isWordB m) = true) : isSuiteB m wss = true := by simp [isSuiteB, h, h']
theorem isSuiteB_f {m : Int} {wss : List (List Int)} (h : ¬ wss.length ≤ 400) : isSuiteB m wss = false := by simp [isSuiteB, h]
theorem isSuiteB_g {m : Int} {wss : List (List Int)} (h : wss.all (isWordB m) = false) : isSuiteB m wss = false := by simp [isSuiteB, h]
theorem isSuiteB_len {m : Int} {wss : List (List Int)} (h : isSuiteB m wss = true) : wss.length ≤ 400 := by simp only [isSuiteB, Bool.and_eq_true, decide_eq_true_eq] at h; exact h.1
theorem isSuiteB_at {m : Int} {wss : List (List Int)} (h : isSuiteB m wss = true) {r : Nat} {ws : List Int} (hx : wss[r]? = some ws) : isWordB m ws = true := by
  simp only [isSuiteB, Bool.and_eq_true, List.all_eq_true] at h
  exact h.2 ws (List.mem_of_getElem? hx)
theorem allS_stop {p : List Int → Bool} {xss : List (List Int)} {k : Nat} {x : List Int} (hx : xss[k]? = some x) (hp : p x = false) : xss.all p = false := by
  rw [List.all_eq_false]; exact ⟨x, List.mem_of_getElem? hx, by simp [hp]⟩

set_option maxRecDepth 100000 in
theorem tab_of_trod {H : Type} {enc : TypeId × Value → H} {W : World} {base b0 : Nat} {held : Bool} {r : Reach} {v : Value} {d : DataW H} {p : List MemPlace} (hv : Value.okWide Tryd.prog W r b0 22 v)
    (h : DataW.Trod enc Tryd.prog W base (fun _ => true) held 22 v d p) :
    ∃ A n c xss, v = .slice A n c ∧ RowsAt W A n xss ∧ n ≤ 9223372036854775807 ∧ (∀ (r : Nat) (xs : List Int), xss[r]? = some xs → xs.length ≤ 9223372036854775807) := by
  obtain ⟨fuel, hf⟩ := h
  obtain ⟨A0, n0, c0, rfl⟩ := okWide_slice Tryd.underlying22 hv
  obtain ⟨A, n, c, xss, hcs, hr⟩ := rows_of_trod hf
  simp [Value.cells] at hcs
  obtain ⟨rfl, rfl, rfl⟩ := hcs
  exact ⟨_, _, _, xss, rfl, hr⟩

set_option maxRecDepth 100000 in
theorem l07Suite_any (p : Nat) (s q : Int) (A : Option Addr) (n c : Nat) (B : Option Addr) (m d : Nat) (A' : Option Addr) (l cap' : Nat) (wss : List (List Int)) (w : World) (hb : MBox w p s q A n c B m d) (h : RowsAt w A' l wss) (hn1 : 1 ≤ n) (hn3 : n ≤ 3) (hl : l ≤ 4611686018427387904)
    (hrows : ∀ (r : Nat) (xs : List Int), wss[r]? = some xs → xs.length ≤ 4611686018427387904) :
    Calls Tryd.prog 32 #[.pointer (some ⟨p, 0, none⟩), .slice A' l cap'] w fun e w' => e = .returned (.bool (isSuiteB (n : Int) wss)) ∧ Below w.heap.size w w' := by
  have HR := Lib.hid hrows
  have HL := Lib.hid h.1
  have HX := Lib.hid h
  have HB := Lib.hid hb
  clear hrows h hb
  go_enter Tryd.func32, Tryd.ntmps32
  go_wp2_with fail
  go_loopw [5] (fun i wr => ∃ k : Nat, k ≤ l ∧ i = .int .i64 k ∧ Below w.heap.size w wr ∧ (wss.take k).all (isWordB (n : Int)) = true) (fun i _ => l - (intOf i).toNat)
  case atStart => exact ⟨0, Nat.zero_le _, rfl, Below.refl _ _, by simp⟩
  case round =>
    obtain ⟨k, hk, rfl, hbel, hall⟩ := hrel
    have HW := Lib.hid hbel
    have HA := Lib.hid hall
    have h1 := HX.out.below hbel
    have HB1 := Lib.hid (show MBox wr p s q A n c B m d from Box.below HB.out hbel)
    clear hbel hall
    by_cases hlt : k < l
    · obtain ⟨ws, b, off, A1, a1, hx, rfl, hc1, hnum1⟩ := h1.at_ hlt
      have HXX := Lib.hid hx
      have HN := Lib.hid hnum1
      have hlw := HR.out _ _ hx
      have hk0 : (0 : Int) ≤ (k : Int) := by omega
      have hkl : (k : Int) < (l : Int) := by omega
      clear hx hnum1 h1
      go_wp2_with fail
      refine (l06Word_any p s q A n c B m d A1 ws.length a1 ws wr HB1.out HN.out hn1 hn3 hlw).mono ?_
      rintro e w2 ⟨rfl, b2⟩
      have HW2 := Lib.hid (below_then HW.out b2)
      clear b2
      rcases hwd : isWordB (n : Int) ws with _ | _
      · go_wp2_with fail
        go_ret
        exact ⟨ret_bool (isSuiteB_g (allS_stop HXX.out hwd)).symm, HW2.out⟩
      · go_wp2_with fail
        go_roundw
        case rel => exact ⟨k + 1, by omega, by go_num, HW2.out, allR_snoc HA.out HXX.out hwd⟩
        case measure => simp [intOf]; omega
    · have hkl : k = l := by omega
      subst hkl
      clear h1
      by_cases h4 : k ≤ 400
      · have h4' : (k : Int) ≤ 400 := by omega
        go_wp2_with fail
        go_ret
        exact ⟨ret_bool (isSuiteB_t (by rw [HL.out]; exact h4) (allR_done HL.out HA.out)).symm, HW.out⟩
      · have h4' : ¬ (k : Int) ≤ 400 := by omega
        go_wp2_with fail
        go_ret
        exact ⟨ret_bool (isSuiteB_f (by rw [HL.out]; exact h4)).symm, HW.out⟩

set_option maxRecDepth 100000 in
theorem findSuiteFault_any (m : Nat) (A' : Option Addr) (l cap' : Nat) (wss : List (List Int)) (w : World) (h : RowsAt w A' l wss) (hm : m ≤ 4611686018427387904) (hl : l ≤ 4611686018427387904)
    (hrows : ∀ (r : Nat) (xs : List Int), wss[r]? = some xs → xs.length ≤ 4611686018427387904) :
    Calls Tryd.prog 58 #[.int .i64 (m : Int), .slice A' l cap'] w fun e w' => Below w.heap.size w w' ∧ ((isSuiteB (m : Int) wss = true ∧ e = .returned .nilIface) ∨ (isSuiteB (m : Int) wss = false ∧ ∃ i : Int, e = .returned (.iface 85 (.agg #[.int .i64 i])))) := by
  have HR := Lib.hid hrows
  have HL := Lib.hid h.1
  have HX := Lib.hid h
  clear hrows h
  by_cases h4 : l ≤ 400
  · have h4' : ¬ (400 : Int) < (l : Int) := by omega
    go_enter Tryd.func58, Tryd.ntmps58
    go_wp2_with fail
    clear h4'
    go_loopw [14] (fun i wr => ∃ k : Nat, k ≤ l ∧ i = .int .i64 k ∧ Below w.heap.size w wr ∧ (wss.take k).all (isWordB (m : Int)) = true) (fun i _ => l - (intOf i).toNat)
    case atStart => exact ⟨0, Nat.zero_le _, rfl, Below.refl _ _, by simp⟩
    case round =>
      obtain ⟨k, hk, rfl, hbel, hall⟩ := hrel
      have HW := Lib.hid hbel
      have HA := Lib.hid hall
      have h1 := HX.out.below hbel
      clear hbel hall
      by_cases hlt : k < l
      · obtain ⟨ws, b, off, A1, a1, hx, rfl, hc1, hnum1⟩ := h1.at_ hlt
        have HXX := Lib.hid hx
        have HN := Lib.hid hnum1
        have hlw := HR.out _ _ hx
        have hk0 : (0 : Int) ≤ (k : Int) := by omega
        have hkl : (k : Int) < (l : Int) := by omega
        clear hx hnum1 h1
        go_wp2_with fail
        refine (isLetterList_any 0 none A1 m 0 ws.length a1 ws wr HN.out hm hlw).mono ?_
        rintro e w2 ⟨rfl, b2⟩
        have HW2 := Lib.hid (below_then HW.out b2)
        clear b2
        rcases hwd : isWordB (m : Int) ws with _ | _
        · go_wp2_with fail
          go_ret
          exact ⟨HW2.out, .inr ⟨isSuiteB_g (allS_stop HXX.out hwd), _, rfl⟩⟩
        · go_wp2_with fail
          go_roundw
          case rel => exact ⟨k + 1, by omega, by go_num, HW2.out, allR_snoc HA.out HXX.out hwd⟩
          case measure => simp [intOf]; omega
      · have hkl : k = l := by omega
        subst hkl
        clear h1
        go_wp2_with fail
        go_ret
        exact ⟨HW.out, .inl ⟨isSuiteB_t (by rw [HL.out]; exact h4) (allR_done HL.out HA.out), rfl⟩⟩
  · have h4' : (400 : Int) < (l : Int) := by omega
    go_enter Tryd.func58, Tryd.ntmps58
    go_wp2_with fail
    go_ret
    exact ⟨Below.refl _ _, .inr ⟨isSuiteB_f (by rw [HL.out]; exact h4), _, rfl⟩⟩

set_option maxRecDepth 100000 in
theorem isSuite_any (m : Nat) (A' : Option Addr) (l cap' : Nat) (wss : List (List Int)) (w : World) (hH : HandleAt w) (h : RowsAt w A' l wss) (hm : m ≤ 4611686018427387904) (hl : l ≤ 4611686018427387904)
    (hrows : ∀ (r : Nat) (xs : List Int), wss[r]? = some xs → xs.length ≤ 4611686018427387904) :
    Calls Tryd.prog 37 #[.int .i64 (m : Int), .slice A' l cap'] w fun e w' => e = .returned (.bool (isSuiteB (m : Int) wss)) ∧ Below w.heap.size w w' := by
  have HR := Lib.hid hrows
  have HH := Lib.hid hH
  have HX := Lib.hid h
  obtain ⟨w1, hw1⟩ : ∃ w1, w1 = w.alloc (.cells #[.int .i64 0] 85) := ⟨_, rfl⟩
  have b1 : Below w.heap.size w w1 := by rw [hw1]; exact (Below.refl _ _).alloc (Nat.le_refl _) _
  have c0 : w1.cell? ⟨w.heap.size, 0, none⟩ = some (.int .i64 0) := by rw [hw1]; go_cell
  have f0 : w1.frozen? ⟨w.heap.size, 0, none⟩ = false := by rw [hw1]; go_cell
  have HW := Lib.hid hw1
  have HB := Lib.hid b1
  have HC := Lib.hid c0
  have hlt : w.heap.size < w1.heap.size := cell_lt (a := ⟨w.heap.size, 0, none⟩) c0
  have hb0 : w1.heap[w.heap.size]? = some (.cells #[.int .i64 0] 85 (0, 0)) := by rw [hw1]; exact heap_alloc_new _ _
  have HO := Lib.hid hb0
  have HLT := Lib.hid hlt
  clear hrows hH h hw1 b1 c0 f0 hlt hb0
  go_enter Tryd.func37, Tryd.ntmps37
  go_wp2_with fail
  rw [← HW.out]
  refine (findSuiteFault_any m A' l cap' wss w1 (HX.out.below HB.out) hm hl HR.out).mono ?_
  rintro e w2 ⟨b2, ⟨hs, rfl⟩ | ⟨hs, i, rfl⟩⟩
  · have HB2 := Lib.hid (below_then HB.out b2)
    clear b2
    go_wp2_with fail
    refine (as_nil _ w2).mono ?_
    rintro e w3 ⟨rfl, rfl⟩
    go_wp2_with fail
    go_ret
    exact ⟨ret_bool hs.symm, HB2.out⟩
  · have HB2 := Lib.hid (below_then HB.out b2)
    have ho : w2.heap[w.heap.size]? = some (.cells #[.int .i64 0] 85 (0, 0)) := (b2.block _ HLT.out).trans HO.out
    have c2 : w2.cell? ⟨w.heap.size, 0, none⟩ = some (.int .i64 0) := cell_of_row _ _ 0 _ _ _ ho
    have f2 : w2.frozen? ⟨w.heap.size, 0, none⟩ = false := frozen_of_row _ _ 0 _ _ ho
    clear b2 ho
    go_wp2_with fail
    refine (as_hit i ⟨w.heap.size, 0, none⟩ rfl _ w2 (HH.out.on HB2.out) c2 f2).mono ?_
    rintro e w3 ⟨rfl, w4, b4, rfl⟩
    go_wp2_with fail
    go_ret
    exact ⟨ret_bool hs.symm, (below_then HB2.out b4).setCell (Nat.le_refl _) _⟩

/-- The code for a machine and a suite. -/
def codeSuite (s q : Int) (xss yss wss : List (List Int)) : Int := if okM s q xss yss = true then (if isSuiteB (xss.length : Int) wss = true then 0 else 2) else 1
theorem codeSuite_1 {s q : Int} {xss yss wss : List (List Int)} (h : okM s q xss yss = false) : codeSuite s q xss yss wss = 1 := by simp [codeSuite, h]
theorem codeSuite_2 {s q : Int} {n : Nat} {xss yss wss : List (List Int)} (h : okM s q xss yss = true) (hn : xss.length = n) (hs : isSuiteB (n : Int) wss = false) : codeSuite s q xss yss wss = 2 := by simp [codeSuite, h, hn, hs]
theorem codeSuite_0 {s q : Int} {n : Nat} {xss yss wss : List (List Int)} (h : okM s q xss yss = true) (hn : xss.length = n) (hs : isSuiteB (n : Int) wss = true) : codeSuite s q xss yss wss = 0 := by simp [codeSuite, h, hn, hs]

set_option maxRecDepth 100000 in
set_option maxHeartbeats 1000000 in
/-- The code for a machine and a suite. -/
theorem checkSuite_any (s q : Int) (A : Option Addr) (n c : Nat) (xss : List (List Int)) (B : Option Addr) (m d : Nat) (yss : List (List Int)) (A' : Option Addr) (l cap' : Nat) (wss : List (List Int)) (w : World) (hH : HandleAt w) (h : RowsAt w A n xss) (hn : n ≤ 4611686018427387904)
    (hrows : ∀ (r : Nat) (xs : List Int), xss[r]? = some xs → xs.length ≤ 4611686018427387904) (g : RowsAt w B m yss) (hm : m ≤ 4611686018427387904) (houts : ∀ (r : Nat) (xs : List Int), yss[r]? = some xs → xs.length ≤ 4611686018427387904)
    (h' : RowsAt w A' l wss) (hl : l ≤ 4611686018427387904) (hwds : ∀ (r : Nat) (xs : List Int), wss[r]? = some xs → xs.length ≤ 4611686018427387904) :
    Calls Tryd.prog 34 #[.agg #[.int .i64 s, .int .i64 q, .slice A n c, .slice B m d], .slice A' l cap'] w fun e w' => e = .returned (.int .i64 (codeSuite s q xss yss wss)) ∧ Below w.heap.size w w' := by
  have HR := Lib.hid hrows
  have HO := Lib.hid houts
  have HD := Lib.hid hwds
  have HH := Lib.hid hH
  have HX := Lib.hid h
  have HY := Lib.hid g
  have HS := Lib.hid h'
  have HL := Lib.hid h.1
  obtain ⟨w1, hw1⟩ : ∃ w1, w1 = w.alloc (.cells #[.int .i64 s, .int .i64 q, .slice A n c, .slice B m d] 28) := ⟨_, rfl⟩
  have b1 : Below w.heap.size w w1 := by rw [hw1]; exact (Below.refl _ _).alloc (Nat.le_refl _) _
  have HB1 := Lib.hid (show MBox w1 w.heap.size s q A n c B m d by rw [hw1]; exact Box.new _ _ _)
  have W1 := Lib.hid b1
  have HW := Lib.hid hw1
  clear hH h g h' b1 hw1 hrows houts hwds
  go_enter Tryd.func34, Tryd.ntmps34
  go_wp2_with fail
  rw [← HW.out]
  refine (implValidMachine_any s q A n c xss B m d yss _ (HX.out.below W1.out) hn HR.out (HY.out.below W1.out) hm HO.out).mono ?_
  rintro e w2 ⟨rfl, b2⟩
  have HB2 := Lib.hid (Box.below HB1.out b2)
  have W2 := Lib.hid (below_then W1.out b2)
  clear b2 HB1 W1
  rcases hok : okM s q xss yss with _ | _
  · go_wp2_with fail
    go_ret
    exact ⟨ret_int (codeSuite_1 hok).symm, W2.out⟩
  · have c2 := HB2.out 2 _ rfl
    go_wp2_with fail
    refine (isSuite_any n A' l cap' wss w2 (HH.out.on W2.out) (HS.out.below W2.out) hn hl HD.out).mono ?_
    rintro e w3 ⟨rfl, b3⟩
    have W3 := Lib.hid (below_then W2.out b3)
    clear b3 c2
    rcases hs : isSuiteB (n : Int) wss with _ | _
    · go_wp2_with fail
      go_ret
      exact ⟨ret_int (codeSuite_2 hok HL.out hs).symm, W3.out⟩
    · go_wp2_with fail
      go_ret
      exact ⟨ret_int (codeSuite_0 hok HL.out hs).symm, W3.out⟩

/-- What ValidSuite answers. -/
def validSuite (s q : Int) (xss yss wss : List (List Int)) : Bool := okM s q xss yss && isSuiteB (xss.length : Int) wss

set_option maxRecDepth 100000 in
set_option maxHeartbeats 1000000 in
theorem implValidSuite_any (s q : Int) (A : Option Addr) (n c : Nat) (xss : List (List Int)) (B : Option Addr) (m d : Nat) (yss : List (List Int)) (A' : Option Addr) (l cap' : Nat) (wss : List (List Int)) (w : World) (hH : HandleAt w) (h : RowsAt w A n xss) (hn : n ≤ 4611686018427387904)
    (hrows : ∀ (r : Nat) (xs : List Int), xss[r]? = some xs → xs.length ≤ 4611686018427387904) (g : RowsAt w B m yss) (hm : m ≤ 4611686018427387904) (houts : ∀ (r : Nat) (xs : List Int), yss[r]? = some xs → xs.length ≤ 4611686018427387904)
    (h' : RowsAt w A' l wss) (hl : l ≤ 4611686018427387904) (hwds : ∀ (r : Nat) (xs : List Int), wss[r]? = some xs → xs.length ≤ 4611686018427387904) :
    Calls Tryd.prog 14 #[.agg #[.int .i64 s, .int .i64 q, .slice A n c, .slice B m d], .slice A' l cap'] w fun e w' => e = .returned (.bool (validSuite s q xss yss wss)) ∧ Below w.heap.size w w' := by
  have HR := Lib.hid hrows
  have HO := Lib.hid houts
  have HD := Lib.hid hwds
  have HL := Lib.hid h.1
  obtain ⟨w1, hw1⟩ : ∃ w1, w1 = w.alloc (.cells #[.int .i64 s, .int .i64 q, .slice A n c, .slice B m d] 28) := ⟨_, rfl⟩
  have b1 : Below w.heap.size w w1 := by rw [hw1]; exact (Below.refl _ _).alloc (Nat.le_refl _) _
  have HW := Lib.hid hw1
  have W1 := Lib.hid b1
  clear b1 hw1 hrows houts hwds
  go_enter Tryd.func14, Tryd.ntmps14
  go_wp2_with fail
  rw [← HW.out]
  refine (checkSuite_any s q A n c xss B m d yss A' l cap' wss w1 (hH.on W1.out) (h.below W1.out) hn HR.out (g.below W1.out) hm HO.out (h'.below W1.out) hl HD.out).mono ?_
  rintro e w2 ⟨rfl, b2⟩
  have W2 := Lib.hid (below_then W1.out b2)
  clear b2
  rcases hok : okM s q xss yss with _ | _
  · rw [codeSuite_1 hok]
    go_wp2_with fail
    go_ret
    exact ⟨ret_bool (by simp [validSuite, hok]), W2.out⟩
  · rcases hs : isSuiteB (n : Int) wss with _ | _
    · rw [codeSuite_2 hok HL.out hs]
      go_wp2_with fail
      go_ret
      exact ⟨ret_bool (by simp [validSuite, hok, HL.out, hs]), W2.out⟩
    · rw [codeSuite_0 hok HL.out hs]
      go_wp2_with fail
      go_ret
      exact ⟨ret_bool (by simp [validSuite, hok, HL.out, hs]), W2.out⟩

set_option maxRecDepth 100000 in
set_option maxHeartbeats 1000000 in
theorem specValidSuite_any (s q : Int) (A : Option Addr) (n c : Nat) (xss : List (List Int)) (B : Option Addr) (m d : Nat) (yss : List (List Int)) (A' : Option Addr) (l cap' : Nat) (wss : List (List Int)) (w : World) (h : RowsAt w A n xss) (hn : n ≤ 4611686018427387904)
    (hrows : ∀ (r : Nat) (xs : List Int), xss[r]? = some xs → xs.length ≤ 4611686018427387904) (g : RowsAt w B m yss) (hm : m ≤ 4611686018427387904) (houts : ∀ (r : Nat) (xs : List Int), yss[r]? = some xs → xs.length ≤ 4611686018427387904)
    (h' : RowsAt w A' l wss) (hl : l ≤ 4611686018427387904) (hwds : ∀ (r : Nat) (xs : List Int), wss[r]? = some xs → xs.length ≤ 4611686018427387904) :
    Calls Tryd.prog 11 #[.agg #[.int .i64 s, .int .i64 q, .slice A n c, .slice B m d], .slice A' l cap'] w fun e w' => e = .returned (.bool (validSuite s q xss yss wss)) ∧ Below w.heap.size w w' := by
  have HR := Lib.hid hrows
  have HO := Lib.hid houts
  have HD := Lib.hid hwds
  have HL := Lib.hid h.1
  obtain ⟨w1, hw1⟩ : ∃ w1, w1 = w.alloc (.cells #[.int .i64 s, .int .i64 q, .slice A n c, .slice B m d] 28) := ⟨_, rfl⟩
  have b1 : Below w.heap.size w w1 := by rw [hw1]; exact (Below.refl _ _).alloc (Nat.le_refl _) _
  have HB1 := Lib.hid (show MBox w1 w.heap.size s q A n c B m d by rw [hw1]; exact Box.new _ _ _)
  have HW := Lib.hid hw1
  have W1 := Lib.hid b1
  clear b1 hw1 hrows houts hwds
  go_enter Tryd.func11, Tryd.ntmps11
  go_wp2_with fail
  rw [← HW.out]
  refine (l06Ok_any w.heap.size s q A n c xss B m d yss w1 HB1.out (h.below W1.out) hn HR.out (g.below W1.out) hm HO.out).mono ?_
  rintro e w2 ⟨rfl, b2⟩
  have HB2 := Lib.hid (Box.below HB1.out b2)
  have W2 := Lib.hid (below_then W1.out b2)
  clear b2
  rcases hok : okM s q xss yss with _ | _
  · go_wp2_with fail
    go_ret
    exact ⟨ret_bool (by simp [validSuite, hok]), W2.out⟩
  · have hml := (okA_parts (okM_auto hok)).2.1
    have hl1 : 1 ≤ n := by have := HL.out; omega
    have hl3 : n ≤ 3 := by have := HL.out; omega
    clear hml
    go_wp2_with fail
    refine (l07Suite_any w.heap.size s q A n c B m d A' l cap' wss w2 HB2.out (h'.below W2.out) hl1 hl3 hl HD.out).mono ?_
    rintro e w3 ⟨rfl, b3⟩
    have W3 := Lib.hid (below_then W2.out b3)
    clear b3
    go_wp2_with fail
    go_ret
    exact ⟨ret_bool (by simp [validSuite, hok, HL.out]), W3.out⟩

end Go.Proofs.YtdhmciendlihoaaDoor
