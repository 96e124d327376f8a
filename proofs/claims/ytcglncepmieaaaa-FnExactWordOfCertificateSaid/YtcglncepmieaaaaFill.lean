/-
  Which automata are valid, in the program: the contracts of IndexFunc, ContainsFunc and isFilled, for whatever function tells which elements are right.
-/
import Derived.Test.YtcglncepmieaaaaAuto
namespace Go.Proofs.Ytcglncepmieaaaa
open Go.RowKit Go.Deep Go.ChangeShapes Go.WideShapes

set_option maxRecDepth 100000 in
set_option maxHeartbeats 1000000 in
theorem indexFunc_any (F : Nat) (caps : Array Value) (p : Int → Bool) (A : Option Addr) (n cap : Nat) (xs : List Int) (w : World) (h : NumsAt w A n xs) (hn : n ≤ 4611686018427387904) (henter : ∀ (args : Array Value) (W : World), (callFunc F args).run Try.prog W = .ok (.enter F args) W)
    (hp : ∀ (x : Int), x ∈ xs → ∀ W', Below w.heap.size w W' → Calls Try.prog F (#[.int .i64 x] ++ caps) W' fun e w' => e = .returned (.bool (p x)) ∧ Below W'.heap.size W' w') :
    Calls Try.prog 148 #[.slice A n cap, .func (.func F) #[] caps] w fun e w' => ∃ i : Int, e = .returned (.int .i64 i) ∧ decide (0 ≤ i) = xs.any p ∧ Below w.heap.size w w' := by
  have HL := Lib.hid h.1
  have HP := Lib.hid hp
  have HEN := Lib.hid henter
  clear hp henter
  go_enter Try.func148, Try.ntmps148
  go_wp2_with fail
  go_loopw [8] (fun i wr => ∃ k : Nat, k ≤ n ∧ i = .int .i64 k ∧ (xs.take k).any p = false ∧ Below w.heap.size w wr) (fun i _ => n - (intOf i).toNat)
  case atStart => exact ⟨0, Nat.zero_le _, rfl, by simp, Below.refl _ _⟩
  case round =>
    obtain ⟨k, hk, rfl, hany, hbel⟩ := hrel
    have HA := Lib.hid hany
    have HB := Lib.hid hbel
    have h1 := h.below hbel
    clear hany hbel
    by_cases hlt : k < n
    · obtain ⟨x, b, off, hx, rfl, hc⟩ := h1.at_ hlt
      have HX := Lib.hid hx
      have hk0 : (0 : Int) ≤ (k : Int) := by omega
      have hkn : (k : Int) < (n : Int) := by omega
      clear hx h1
      go_wp2_with fail
      rw [HEN.out, Oper.upon_enter]
      refine (HP.out x (List.mem_of_getElem? HX.out) wr HB.out).mono ?_
      rintro e w1 ⟨rfl, b1⟩
      have HB1 := Lib.hid (below_then HB.out b1)
      clear b1
      rcases hpx : p x with _ | _
      · have HPX := Lib.hid hpx
        clear hpx
        go_wp2_with fail
        go_roundw
        case rel => exact ⟨k + 1, by omega, by go_num, by rw [take_snoc HX.out, List.any_append, HA.out, List.any_cons, HPX.out]; rfl, HB1.out⟩
        case measure => simp [intOf]; omega
      · have HPX := Lib.hid hpx
        clear hpx
        go_wp2_with fail
        go_ret
        refine ⟨_, rfl, ?_, HB1.out⟩
        rw [List.any_eq_true.2 ⟨x, List.mem_of_getElem? HX.out, HPX.out⟩]
        simp
    · go_wp2_with fail
      go_ret
      refine ⟨_, rfl, ?_, HB.out⟩
      have ha := HA.out
      rw [List.take_of_length_le (by rw [HL.out]; omega)] at ha
      rw [ha]
      rfl

theorem containsFunc_any (F : Nat) (caps : Array Value) (p : Int → Bool) (A : Option Addr) (n cap : Nat) (xs : List Int) (w : World) (h : NumsAt w A n xs) (hn : n ≤ 4611686018427387904) (henter : ∀ (args : Array Value) (W : World), (callFunc F args).run Try.prog W = .ok (.enter F args) W)
    (hp : ∀ (x : Int), x ∈ xs → ∀ W', Below w.heap.size w W' → Calls Try.prog F (#[.int .i64 x] ++ caps) W' fun e w' => e = .returned (.bool (p x)) ∧ Below W'.heap.size W' w') :
    Calls Try.prog 135 #[.slice A n cap, .func (.func F) #[] caps] w fun e w' => e = .returned (.bool (xs.any p)) ∧ Below w.heap.size w w' := by
  have HP := Lib.hid hp
  have HEN := Lib.hid henter
  clear hp henter
  go_enter Try.func135, Try.ntmps135
  go_wp2_with fail
  refine (indexFunc_any F caps p A n cap xs w h hn HEN.out HP.out).mono ?_
  rintro e w1 ⟨i, rfl, hi, b1⟩
  have HI := Lib.hid hi
  have HB := Lib.hid b1
  clear hi b1
  go_wp2_with fail
  go_ret
  exact ⟨ret_bool HI.out, HB.out⟩

set_option maxRecDepth 100000 in
/-- The function that isFilled asks of each element: that it is not right. -/
theorem isWrong_any (F : Nat) (caps : Array Value) (p : Int → Bool) (pr : Nat) (x : Int) (w : World)  (henter : ∀ (args : Array Value) (W : World), (callFunc F args).run Try.prog W = .ok (.enter F args) W) (hc : w.cell? ⟨pr, 0, none⟩ = some (.func (.func F) #[] caps))
    (hp : ∀ W', Below w.heap.size w W' → Calls Try.prog F (#[.int .i64 x] ++ caps) W' fun e w' => e = .returned (.bool (p x)) ∧ Below W'.heap.size W' w') :
    Calls Try.prog 134 #[.int .i64 x, .pointer (some ⟨pr, 0, none⟩)] w fun e w' => e = .returned (.bool (!p x)) ∧ Below w.heap.size w w' := by
  have HP := Lib.hid hp
  have HEN := Lib.hid henter
  clear hp henter
  go_enter Try.func134, Try.ntmps134
  go_wp2_with fail
  rw [HEN.out, Oper.upon_enter]
  refine (HP.out w (Below.refl _ _)).mono ?_
  rintro e w1 ⟨rfl, b1⟩
  have HB := Lib.hid b1
  clear b1
  go_wp2_with fail
  go_ret
  exact ⟨rfl, HB.out⟩

/-- Valid: the numbers of states and letters are right, and each letter has a list with a right element for each state. -/
def lineF (s : Int) (p : Int → Bool) (xs : List Int) : Bool := xs.all p && decide ((xs.length : Int) = s)
def okF (s : Int) (p : Int → Bool) (xss : List (List Int)) : Bool := inB 1 10 s && inB 1 3 (xss.length : Int) && xss.all (lineF s p)
theorem lineF_of {s : Int} {p : Int → Bool} {xs : List Int} (h : (xs.length : Int) = s) : lineF s p xs = !xs.any (fun x => !p x) := by
  simp [lineF, h, List.all_eq_not_any_not]
theorem lineF_no {s : Int} {p : Int → Bool} {xs : List Int} (h : ¬ (xs.length : Int) = s) : lineF s p xs = false := by simp [lineF, h]
theorem okF_1 {s : Int} {p : Int → Bool} {xss : List (List Int)} (h : ¬ (1 ≤ s ∧ s ≤ 10)) : okF s p xss = false := by rw [okF, inB_f h]; rfl
theorem okF_2 {s : Int} {p : Int → Bool} {xss : List (List Int)} (h : ¬ (1 ≤ (xss.length : Int) ∧ (xss.length : Int) ≤ 3)) : okF s p xss = false := by rw [okF, inB_f h]; simp
theorem okF_3 {s : Int} {p : Int → Bool} {xss : List (List Int)} {k : Nat} {xs : List Int} (hx : xss[k]? = some xs) (h : lineF s p xs = false) : okF s p xss = false := by
  have : xss.all (lineF s p) = false := by rw [List.all_eq_false]; exact ⟨xs, List.mem_of_getElem? hx, by simp [h]⟩
  simp [okF, this]
theorem okF_t {s : Int} {p : Int → Bool} {xss : List (List Int)} (h1 : 1 ≤ s ∧ s ≤ 10) (h2 : 1 ≤ (xss.length : Int) ∧ (xss.length : Int) ≤ 3) (h3 : xss.all (lineF s p) = true) : okF s p xss = true := by
  rw [okF, inB_t h1, inB_t h2, h3]; rfl
theorem fill_snoc {q : List Int → Bool} {xss : List (List Int)} {k : Nat} {x : List Int} (h : (xss.take k).all q = true) (hx : xss[k]? = some x) (hp : q x = true) : (xss.take (k + 1)).all q = true := by
  rw [List.take_add_one, hx]
  simp [hp]
  simpa using h

set_option maxRecDepth 100000 in
set_option maxHeartbeats 2000000 in
theorem isFilled_any (F : Nat) (caps : Array Value) (p : Int → Bool) (s : Int) (A : Option Addr) (n cap : Nat) (xss : List (List Int)) (w : World) (h : RowsAt w A n xss) (hn : n ≤ 4611686018427387904) (hrows : ∀ (r : Nat) (xs : List Int), xss[r]? = some xs → xs.length ≤ 4611686018427387904) (henter : ∀ (args : Array Value) (W : World), (callFunc F args).run Try.prog W = .ok (.enter F args) W)
    (hp : ∀ (x : Int), (∃ xs, xs ∈ xss ∧ x ∈ xs) → ∀ W', Below w.heap.size w W' → Calls Try.prog F (#[.int .i64 x] ++ caps) W' fun e w' => e = .returned (.bool (p x)) ∧ Below W'.heap.size W' w') :
    Calls Try.prog 97 #[.int .i64 s, .slice A n cap, .func (.func F) #[] caps] w fun e w' => e = .returned (.bool (okF s p xss)) ∧ Below w.heap.size w w' := by
  have HR := Lib.hid hrows
  have HL := Lib.hid h.1
  have HP := Lib.hid hp
  have HEN := Lib.hid henter
  clear hrows hp henter
  have hmf : ∀ (fn : Fn) (first cap : Array Value) (w : World), (Instr.makeFunc fn first cap).run Try.prog w = .ok (.func fn first cap) w := fun _ _ _ _ => rfl
  by_cases hs1 : 1 ≤ s
  · by_cases hs2 : s ≤ 10
    · by_cases hl1 : 1 ≤ n
      · by_cases hl2 : n ≤ 3
        · have e1 : decide (s < 1) = false := by simp; omega
          have e2 : decide (10 < s) = false := by simp; omega
          have e3 : decide ((n : Int) < 1) = false := by simp; omega
          have e4 : decide ((3 : Int) < (n : Int)) = false := by simp; omega
          go_enter Try.func97, Try.ntmps97
          go_wp2_with fail
          obtain ⟨w1, hw1⟩ : ∃ w1, w1 = w.alloc (.cells #[.func (.func F) #[] caps] 123) := ⟨_, rfl⟩
          rw [← hw1]
          have b1 : Below w.heap.size w w1 := by rw [hw1]; exact (Below.refl _ _).alloc (Nat.le_refl _) _
          have d0 : w1.cell? ⟨w.heap.size, 0, none⟩ = some (.func (.func F) #[] caps) := by rw [hw1]; go_cell
          have D0 := Lib.hid d0
          have B1 := Lib.hid b1
          have H1 := Lib.hid (h.below b1)
          clear hw1 b1 d0
          go_loopw [30] (fun i wr => ∃ k : Nat, k ≤ n ∧ i = .int .i64 k ∧ (xss.take k).all (lineF s p) = true ∧ Below w1.heap.size w1 wr) (fun i _ => n - (intOf i).toNat)
          case atStart => exact ⟨0, Nat.zero_le _, rfl, by simp, Below.refl _ _⟩
          case round =>
            obtain ⟨k, hk, rfl, hall, hbel⟩ := hrel
            have HA := Lib.hid hall
            have HB := Lib.hid (below_then B1.out hbel)
            have D1 := Lib.hid ((hbel.cell (cell_lt D0.out)).trans D0.out)
            have h1 := H1.out.below hbel
            have HBL := Lib.hid hbel
            clear hall hbel
            by_cases hlt : k < n
            · obtain ⟨xs, b, off, A1, c1, hx, rfl, hc, hnum⟩ := h1.at_ hlt
              have HX := Lib.hid hx
              have HNM := Lib.hid hnum
              have hk0 : (0 : Int) ≤ (k : Int) := by omega
              have hkn : (k : Int) < (n : Int) := by omega
              clear hx hnum h1
              by_cases hls : (xs.length : Int) = s
              · have HLS := Lib.hid hls
                have hne : ((xs.length : Int) != s) = false := by simp [hls]
                clear hls
                obtain ⟨v, hv⟩ : ∃ v, v = xs.any (fun x => !p x) := ⟨_, rfl⟩
                have HV := Lib.hid hv
                have d0 := D1.out
                clear hv
                go_wp2_with fail
                refine (containsFunc_any 134 #[.pointer (some ⟨w.heap.size, 0, none⟩)] (fun x => !p x) A1 xs.length c1 xs wr HNM.out (HR.out _ _ HX.out) (fun _ _ => rfl) (fun x hx W' hb => isWrong_any F caps p w.heap.size x W' HEN.out ((hb.cell (cell_lt d0)).trans d0) (fun W2 hb2 => HP.out x ⟨xs, List.mem_of_getElem? HX.out, hx⟩ W2 (below_then HB.out (below_then hb hb2))))).mono ?_
                rw [← HV.out]
                rintro e w2 ⟨rfl, b2⟩
                have HB2 := Lib.hid (below_then HBL.out b2)
                have HB3 := Lib.hid (below_then HB.out b2)
                clear b2 d0
                rcases v with _ | _
                · go_wp2_with fail
                  go_roundw
                  case rel => exact ⟨k + 1, by omega, by go_num, fill_snoc HA.out HX.out (by rw [lineF_of HLS.out, ← HV.out]; rfl), HB2.out⟩
                  case measure => simp [intOf]; omega
                · go_wp2_with fail
                  go_ret
                  exact ⟨ret_bool (okF_3 HX.out (by rw [lineF_of HLS.out, ← HV.out]; rfl)).symm, HB3.out⟩
              · have HLS := Lib.hid hls
                have hne : ((xs.length : Int) != s) = true := by simp [hls]
                clear hls
                go_wp2_with fail
                go_ret
                exact ⟨ret_bool (okF_3 HX.out (lineF_no HLS.out)).symm, HB.out⟩
            · have hkn : k = n := by omega
              have HKN := Lib.hid hkn
              clear hkn
              go_wp2_with fail
              go_ret
              have ha := HA.out
              rw [HKN.out, List.take_of_length_le (by rw [HL.out]; exact Nat.le_refl _)] at ha
              exact ⟨ret_bool (okF_t ⟨hs1, hs2⟩ (by rw [HL.out]; omega) ha).symm, HB.out⟩
        · have e1 : decide (s < 1) = false := by simp; omega
          have e2 : decide (10 < s) = false := by simp; omega
          have e3 : decide ((n : Int) < 1) = false := by simp; omega
          have e4 : decide ((3 : Int) < (n : Int)) = true := by simp; omega
          go_enter Try.func97, Try.ntmps97
          go_wp2_with fail
          go_ret
          exact ⟨ret_bool (okF_2 (by rw [HL.out]; omega)).symm, by go_grown⟩
      · have e1 : decide (s < 1) = false := by simp; omega
        have e2 : decide (10 < s) = false := by simp; omega
        have e3 : decide ((n : Int) < 1) = true := by simp; omega
        go_enter Try.func97, Try.ntmps97
        go_wp2_with fail
        go_ret
        exact ⟨ret_bool (okF_2 (by rw [HL.out]; omega)).symm, by go_grown⟩
    · have e1 : decide (s < 1) = false := by simp; omega
      have e2 : decide (10 < s) = true := by simp; omega
      go_enter Try.func97, Try.ntmps97
      go_wp2_with fail
      go_ret
      exact ⟨ret_bool (okF_1 (by omega)).symm, by go_grown⟩
  · have e1 : decide (s < 1) = true := by simp; omega
    go_enter Try.func97, Try.ntmps97
    go_wp2_with fail
    go_ret
    exact ⟨ret_bool (okF_1 (by omega)).symm, by go_grown⟩

end Go.Proofs.Ytcglncepmieaaaa
