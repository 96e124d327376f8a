/-
  Which automata with choices are valid, in the program: the contracts of IndexFunc, ContainsFunc and isFilled, for whatever function tells which elements are right.
-/
import Derived.Test.YtkfajimhooidcaaDoorTrip
namespace Go.Proofs.YtkfajimhooidcaaDoor
open Go.RowKit Go.Deep Go.ChangeShapes Go.WideShapes

set_option maxRecDepth 100000 in
set_option maxHeartbeats 1000000 in
theorem indexFuncC_any (F : Nat) (caps : Array Value) (p : List Int → Bool) (A : Option Addr) (n cap : Nat) (xs : List (List Int)) (w : World) (h : RowsAt w A n xs) (hn : n ≤ 4611686018427387904) (henter : ∀ (args : Array Value) (W : World), (callFunc F args).run Tryd.prog W = .ok (.enter F args) W)
    (hp : ∀ (x : List Int), x ∈ xs → ∀ (A1 : Option Addr) (c1 : Nat) (W' : World), Below w.heap.size w W' → NumsAt W' A1 x.length x → Calls Tryd.prog F (#[.slice A1 x.length c1] ++ caps) W' fun e w' => e = .returned (.bool (p x)) ∧ Below W'.heap.size W' w') :
    Calls Tryd.prog 85 #[.slice A n cap, .func (.func F) #[] caps] w fun e w' => ∃ i : Int, e = .returned (.int .i64 i) ∧ decide (0 ≤ i) = xs.any p ∧ Below w.heap.size w w' := by
  have HL := Lib.hid h.1
  have HP := Lib.hid hp
  have HEN := Lib.hid henter
  clear hp henter
  go_enter Tryd.func85, Tryd.ntmps85
  go_wp2_with fail
  go_loopw [8] (fun i wr => ∃ k : Nat, k ≤ n ∧ i = .int .i64 k ∧ (xs.take k).any p = false ∧ Below w.heap.size w wr) (fun i _ => n - (intOf i).toNat)
  case atStart => exact ⟨0, Nat.zero_le _, rfl, by simp, Below.refl _ _⟩
  case round =>
    obtain ⟨k, hk, rfl, hany, hbel⟩ := hrel
    have HA := Lib.hid hany
    have HB := Lib.hid hbel
    have h1 := h.below hbel
    clear hany hbel
    by_cases hlt : k < n
    · obtain ⟨x, b, off, A1, c1, hx, rfl, hc, hnum⟩ := h1.at_ hlt
      have HX := Lib.hid hx
      have HNM := Lib.hid hnum
      have hk0 : (0 : Int) ≤ (k : Int) := by omega
      have hkn : (k : Int) < (n : Int) := by omega
      clear hx hnum h1
      go_wp2_with fail
      rw [HEN.out, Oper.upon_enter]
      refine (HP.out x (List.mem_of_getElem? HX.out) A1 c1 wr HB.out HNM.out).mono ?_
      rintro e w1 ⟨rfl, b1⟩
      have HB1 := Lib.hid (below_then HB.out b1)
      clear b1
      rcases hpx : p x with _ | _
      · have HPX := Lib.hid hpx
        clear hpx
        go_wp2_with fail
        go_roundw
        case rel => exact ⟨k + 1, by omega, by go_num, by rw [take_snoc HX.out, List.any_append, HA.out, List.any_cons, HPX.out]; rfl, HB1.out⟩
        case measure => simp [intOf]; omega
      · have HPX := Lib.hid hpx
        clear hpx
        go_wp2_with fail
        go_ret
        refine ⟨_, rfl, ?_, HB1.out⟩
        rw [List.any_eq_true.2 ⟨x, List.mem_of_getElem? HX.out, HPX.out⟩]
        simp
    · go_wp2_with fail
      go_ret
      refine ⟨_, rfl, ?_, HB.out⟩
      have ha := HA.out
      rw [List.take_of_length_le (by rw [HL.out]; omega)] at ha
      rw [ha]
      rfl

theorem containsFuncC_any (F : Nat) (caps : Array Value) (p : List Int → Bool) (A : Option Addr) (n cap : Nat) (xs : List (List Int)) (w : World) (h : RowsAt w A n xs) (hn : n ≤ 4611686018427387904) (henter : ∀ (args : Array Value) (W : World), (callFunc F args).run Tryd.prog W = .ok (.enter F args) W)
    (hp : ∀ (x : List Int), x ∈ xs → ∀ (A1 : Option Addr) (c1 : Nat) (W' : World), Below w.heap.size w W' → NumsAt W' A1 x.length x → Calls Tryd.prog F (#[.slice A1 x.length c1] ++ caps) W' fun e w' => e = .returned (.bool (p x)) ∧ Below W'.heap.size W' w') :
    Calls Tryd.prog 67 #[.slice A n cap, .func (.func F) #[] caps] w fun e w' => e = .returned (.bool (xs.any p)) ∧ Below w.heap.size w w' := by
  have HP := Lib.hid hp
  have HEN := Lib.hid henter
  clear hp henter
  go_enter Tryd.func67, Tryd.ntmps67
  go_wp2_with fail
  refine (indexFuncC_any F caps p A n cap xs w h hn HEN.out HP.out).mono ?_
  rintro e w1 ⟨i, rfl, hi, b1⟩
  have HI := Lib.hid hi
  have HB := Lib.hid b1
  clear hi b1
  go_wp2_with fail
  go_ret
  exact ⟨ret_bool HI.out, HB.out⟩

set_option maxRecDepth 100000 in
/-- The function that isFilled asks of each element: that it is not right. -/
theorem isWrongC_any (F : Nat) (caps : Array Value) (p : List Int → Bool) (pr : Nat) (x : List Int) (w : World) (A0 : Option Addr) (c0 : Nat) (hx : NumsAt w A0 x.length x) (henter : ∀ (args : Array Value) (W : World), (callFunc F args).run Tryd.prog W = .ok (.enter F args) W) (hc : w.cell? ⟨pr, 0, none⟩ = some (.func (.func F) #[] caps))
    (hp : ∀ (A1 : Option Addr) (c1 : Nat) (W' : World), Below w.heap.size w W' → NumsAt W' A1 x.length x → Calls Tryd.prog F (#[.slice A1 x.length c1] ++ caps) W' fun e w' => e = .returned (.bool (p x)) ∧ Below W'.heap.size W' w') :
    Calls Tryd.prog 66 #[.slice A0 x.length c0, .pointer (some ⟨pr, 0, none⟩)] w fun e w' => e = .returned (.bool (!p x)) ∧ Below w.heap.size w w' := by
  have HP := Lib.hid hp
  have HEN := Lib.hid henter
  clear hp henter
  go_enter Tryd.func66, Tryd.ntmps66
  go_wp2_with fail
  rw [HEN.out, Oper.upon_enter]
  refine (HP.out A0 c0 w (Below.refl _ _) hx).mono ?_
  rintro e w1 ⟨rfl, b1⟩
  have HB := Lib.hid b1
  clear b1
  go_wp2_with fail
  go_ret
  exact ⟨rfl, HB.out⟩

/-- Valid: the numbers of states and letters are right, and each letter has a list with a right element for each state. -/
def lineFC (s : Int) (p : List Int → Bool) (xs : List (List Int)) : Bool := xs.all p && decide ((xs.length : Int) = s)
def okFC (s : Int) (p : List Int → Bool) (xss : List (List (List Int))) : Bool := inB 1 10 s && inB 1 3 (xss.length : Int) && xss.all (lineFC s p)
theorem lineFC_of {s : Int} {p : List Int → Bool} {xs : List (List Int)} (h : (xs.length : Int) = s) : lineFC s p xs = !xs.any (fun x => !p x) := by
  simp [lineFC, h, List.all_eq_not_any_not]
theorem lineFC_no {s : Int} {p : List Int → Bool} {xs : List (List Int)} (h : ¬ (xs.length : Int) = s) : lineFC s p xs = false := by simp [lineFC, h]
theorem okFC_1 {s : Int} {p : List Int → Bool} {xss : List (List (List Int))} (h : ¬ (1 ≤ s ∧ s ≤ 10)) : okFC s p xss = false := by rw [okFC, inB_f h]; rfl
theorem okFC_2 {s : Int} {p : List Int → Bool} {xss : List (List (List Int))} (h : ¬ (1 ≤ (xss.length : Int) ∧ (xss.length : Int) ≤ 3)) : okFC s p xss = false := by rw [okFC, inB_f h]; simp
theorem okFC_3 {s : Int} {p : List Int → Bool} {xss : List (List (List Int))} {k : Nat} {xs : List (List Int)} (hx : xss[k]? = some xs) (h : lineFC s p xs = false) : okFC s p xss = false := by
  have : xss.all (lineFC s p) = false := by rw [List.all_eq_false]; exact ⟨xs, List.mem_of_getElem? hx, by simp [h]⟩
  simp [okFC, this]
theorem okFC_t {s : Int} {p : List Int → Bool} {xss : List (List (List Int))} (h1 : 1 ≤ s ∧ s ≤ 10) (h2 : 1 ≤ (xss.length : Int) ∧ (xss.length : Int) ≤ 3) (h3 : xss.all (lineFC s p) = true) : okFC s p xss = true := by
  rw [okFC, inB_t h1, inB_t h2, h3]; rfl
theorem fillC_snoc {q : List (List Int) → Bool} {xss : List (List (List Int))} {k : Nat} {x : List (List Int)} (h : (xss.take k).all q = true) (hx : xss[k]? = some x) (hp : q x = true) : (xss.take (k + 1)).all q = true := by
  rw [List.take_add_one, hx]
  simp [hp]
  simpa using h

set_option maxRecDepth 100000 in
set_option maxHeartbeats 2000000 in
theorem isFilledC_any (F : Nat) (caps : Array Value) (p : List Int → Bool) (s : Int) (A : Option Addr) (n cap : Nat) (xss : List (List (List Int))) (w : World) (h : TabsAt w A n xss) (hn : n ≤ 4611686018427387904) (hrows : Wide3 4611686018427387904 xss) (henter : ∀ (args : Array Value) (W : World), (callFunc F args).run Tryd.prog W = .ok (.enter F args) W)
    (hp : ∀ (x : List Int), (∃ xs, xs ∈ xss ∧ x ∈ xs) → ∀ (A1 : Option Addr) (c1 : Nat) (W' : World), Below w.heap.size w W' → NumsAt W' A1 x.length x → Calls Tryd.prog F (#[.slice A1 x.length c1] ++ caps) W' fun e w' => e = .returned (.bool (p x)) ∧ Below W'.heap.size W' w') :
    Calls Tryd.prog 48 #[.int .i64 s, .slice A n cap, .func (.func F) #[] caps] w fun e w' => e = .returned (.bool (okFC s p xss)) ∧ Below w.heap.size w w' := by
  have HR := Lib.hid hrows
  have HL := Lib.hid h.1
  have HP := Lib.hid hp
  have HEN := Lib.hid henter
  clear hrows hp henter
  have hmf : ∀ (fn : Fn) (first cap : Array Value) (w : World), (Instr.makeFunc fn first cap).run Tryd.prog w = .ok (.func fn first cap) w := fun _ _ _ _ => rfl
  by_cases hs1 : 1 ≤ s
  · by_cases hs2 : s ≤ 10
    · by_cases hl1 : 1 ≤ n
      · by_cases hl2 : n ≤ 3
        · have e1 : decide (s < 1) = false := by simp; omega
          have e2 : decide (10 < s) = false := by simp; omega
          have e3 : decide ((n : Int) < 1) = false := by simp; omega
          have e4 : decide ((3 : Int) < (n : Int)) = false := by simp; omega
          go_enter Tryd.func48, Tryd.ntmps48
          go_wp2_with fail
          obtain ⟨w1, hw1⟩ : ∃ w1, w1 = w.alloc (.cells #[.func (.func F) #[] caps] 82) := ⟨_, rfl⟩
          rw [← hw1]
          have b1 : Below w.heap.size w w1 := by rw [hw1]; exact (Below.refl _ _).alloc (Nat.le_refl _) _
          have d0 : w1.cell? ⟨w.heap.size, 0, none⟩ = some (.func (.func F) #[] caps) := by rw [hw1]; go_cell
          have D0 := Lib.hid d0
          have B1 := Lib.hid b1
          have H1 := Lib.hid (h.below b1)
          clear hw1 b1 d0
          go_loopw [30] (fun i wr => ∃ k : Nat, k ≤ n ∧ i = .int .i64 k ∧ (xss.take k).all (lineFC s p) = true ∧ Below w1.heap.size w1 wr) (fun i _ => n - (intOf i).toNat)
          case atStart => exact ⟨0, Nat.zero_le _, rfl, by simp, Below.refl _ _⟩
          case round =>
            obtain ⟨k, hk, rfl, hall, hbel⟩ := hrel
            have HA := Lib.hid hall
            have HB := Lib.hid (below_then B1.out hbel)
            have D1 := Lib.hid ((hbel.cell (cell_lt D0.out)).trans D0.out)
            have h1 := H1.out.below hbel
            have HBL := Lib.hid hbel
            clear hall hbel
            by_cases hlt : k < n
            · obtain ⟨xs, b, off, A1, c1, hx, rfl, hc, hnum⟩ := h1.at_ hlt
              have HX := Lib.hid hx
              have HNM := Lib.hid hnum
              have hk0 : (0 : Int) ≤ (k : Int) := by omega
              have hkn : (k : Int) < (n : Int) := by omega
              clear hx hnum h1
              by_cases hls : (xs.length : Int) = s
              · have HLS := Lib.hid hls
                have hne : ((xs.length : Int) != s) = false := by simp [hls]
                clear hls
                obtain ⟨v, hv⟩ : ∃ v, v = xs.any (fun x => !p x) := ⟨_, rfl⟩
                have HV := Lib.hid hv
                have d0 := D1.out
                clear hv
                go_wp2_with fail
                refine (containsFuncC_any 66 #[.pointer (some ⟨w.heap.size, 0, none⟩)] (fun x => !p x) A1 xs.length c1 xs wr HNM.out (HR.out _ _ HX.out).1 (fun _ _ => rfl) (fun x hx A2 c2 W' hb hnx => isWrongC_any F caps p w.heap.size x W' A2 c2 hnx HEN.out ((hb.cell (cell_lt d0)).trans d0) (fun A3 c3 W2 hb2 hn2 => HP.out x ⟨xs, List.mem_of_getElem? HX.out, hx⟩ A3 c3 W2 (below_then HB.out (below_then hb hb2)) hn2))).mono ?_
                rw [← HV.out]
                rintro e w2 ⟨rfl, b2⟩
                have HB2 := Lib.hid (below_then HBL.out b2)
                have HB3 := Lib.hid (below_then HB.out b2)
                clear b2 d0
                rcases v with _ | _
                · go_wp2_with fail
                  go_roundw
                  case rel => exact ⟨k + 1, by omega, by go_num, fillC_snoc HA.out HX.out (by rw [lineFC_of HLS.out, ← HV.out]; rfl), HB2.out⟩
                  case measure => simp [intOf]; omega
                · go_wp2_with fail
                  go_ret
                  exact ⟨ret_bool (okFC_3 HX.out (by rw [lineFC_of HLS.out, ← HV.out]; rfl)).symm, HB3.out⟩
              · have HLS := Lib.hid hls
                have hne : ((xs.length : Int) != s) = true := by simp [hls]
                clear hls
                go_wp2_with fail
                go_ret
                exact ⟨ret_bool (okFC_3 HX.out (lineFC_no HLS.out)).symm, HB.out⟩
            · have hkn : k = n := by omega
              have HKN := Lib.hid hkn
              clear hkn
              go_wp2_with fail
              go_ret
              have ha := HA.out
              rw [HKN.out, List.take_of_length_le (by rw [HL.out]; exact Nat.le_refl _)] at ha
              exact ⟨ret_bool (okFC_t ⟨hs1, hs2⟩ (by rw [HL.out]; omega) ha).symm, HB.out⟩
        · have e1 : decide (s < 1) = false := by simp; omega
          have e2 : decide (10 < s) = false := by simp; omega
          have e3 : decide ((n : Int) < 1) = false := by simp; omega
          have e4 : decide ((3 : Int) < (n : Int)) = true := by simp; omega
          go_enter Tryd.func48, Tryd.ntmps48
          go_wp2_with fail
          go_ret
          exact ⟨ret_bool (okFC_2 (by rw [HL.out]; omega)).symm, by go_grown⟩
      · have e1 : decide (s < 1) = false := by simp; omega
        have e2 : decide (10 < s) = false := by simp; omega
        have e3 : decide ((n : Int) < 1) = true := by simp; omega
        go_enter Tryd.func48, Tryd.ntmps48
        go_wp2_with fail
        go_ret
        exact ⟨ret_bool (okFC_2 (by rw [HL.out]; omega)).symm, by go_grown⟩
    · have e1 : decide (s < 1) = false := by simp; omega
      have e2 : decide (10 < s) = true := by simp; omega
      go_enter Tryd.func48, Tryd.ntmps48
      go_wp2_with fail
      go_ret
      exact ⟨ret_bool (okFC_1 (by omega)).symm, by go_grown⟩
  · have e1 : decide (s < 1) = true := by simp; omega
    go_enter Tryd.func48, Tryd.ntmps48
    go_wp2_with fail
    go_ret
    exact ⟨ret_bool (okFC_1 (by omega)).symm, by go_grown⟩

end Go.Proofs.YtkfajimhooidcaaDoor
