/-
  Which automata with lamps are valid: the contracts of l08Ok and of both ValidLit.
-/
import Derived.Test.YtdelanjkaokiaaaLit
namespace Go.Proofs.Ytdelanjkaokiaaa
open Go.RowKit Go.Deep Go.ChangeShapes Go.WideShapes

/-- The block p holds an automaton with lamps. -/
def LBox (w : World) (p : Nat) (s : Int) (A : Option Addr) (n c : Nat) (B : Option Addr) (m d : Nat) : Prop := Box w p [.int .i64 s, .slice A n c, .slice B m d]

def okL (s : Int) (xss : List (List Int)) (ls : List Int) : Bool := okA s xss && (decide ((ls.length : Int) = s) && ls.all (belowB 4))
theorem okL_1 {s : Int} {xss : List (List Int)} {ls : List Int} (h : okA s xss = false) : okL s xss ls = false := by simp [okL, h]
theorem okL_2 {s : Int} {xss : List (List Int)} {ls : List Int} (h : ¬ (ls.length : Int) = s) : okL s xss ls = false := by simp [okL, h]
theorem okL_3 {s : Int} {xss : List (List Int)} {ls : List Int} (h : ls.all (belowB 4) = false) : okL s xss ls = false := by simp [okL, h]
theorem okL_t {s : Int} {xss : List (List Int)} {ls : List Int} (h1 : okA s xss = true) (h2 : (ls.length : Int) = s) : okL s xss ls = ls.all (belowB 4) := by simp [okL, h1, h2]
theorem okL_auto {s : Int} {xss : List (List Int)} {ls : List Int} (h : okL s xss ls = true) : okA s xss = true := by simp only [okL, Bool.and_eq_true] at h; exact h.1
/-- A valid automaton with lamps: n states, m letters. -/
structure GoodL (n m : Nat) (xss : List (List Int)) (ls : List Int) : Prop where
  good : Good n m xss
  len : ls.length = n
  lamp : ∀ (q : Nat) (x : Int), ls[q]? = some x → 0 ≤ x ∧ x < 4
theorem goodL_of {s : Int} {m : Nat} {xss : List (List Int)} {ls : List Int} (h : okL s xss ls = true) (hm : xss.length = m) : ∃ n : Nat, s = (n : Int) ∧ GoodL n m xss ls := by
  simp only [okL, Bool.and_eq_true, decide_eq_true_eq] at h
  obtain ⟨h1, h2, h3⟩ := h
  obtain ⟨n, rfl, hg⟩ := good_of h1 hm
  refine ⟨n, rfl, hg, by omega, fun q x hx => ?_⟩
  have := List.all_eq_true.1 h3 x (List.mem_of_getElem? hx)
  simpa [belowB] using this

set_option maxRecDepth 100000 in
set_option maxHeartbeats 2000000 in
theorem l08Ok_any (p : Nat) (s : Int) (A : Option Addr) (n c : Nat) (xss : List (List Int)) (B : Option Addr) (m d : Nat) (ls : List Int) (w : World) (hb : LBox w p s A n c B m d) (h : RowsAt w A n xss) (hn : n ≤ 4611686018427387904)
    (hrows : ∀ (r : Nat) (xs : List Int), xss[r]? = some xs → xs.length ≤ 4611686018427387904) (g : NumsAt w B m ls) (hm : m ≤ 4611686018427387904) :
    Calls Try.prog 48 #[.pointer (some ⟨p, 0, none⟩)] w fun e w' => e = .returned (.bool (okL s xss ls)) ∧ ∃ k, w' = w.drewN k := by
  have HR := Lib.hid hrows
  have HB := Lib.hid hb
  have HX := Lib.hid h
  have HY := Lib.hid g
  have HL' := Lib.hid g.1
  have m0 := hb 0 _ rfl
  have m1 := hb 1 _ rfl
  have m2 := hb 2 _ rfl
  clear hrows hb h g
  go_enter Try.func48, Try.ntmps48
  rcases hok : okA s xss with _ | _
  · go_wp2_with fail
    go_quiet ((go_at_call 62; exact Calls.quiet_of (l01Ok_any p s A n c xss _ m0 m1 (HX.out.drewN _) hn HR.out)))
    go_wp2_with fail
    go_ret
    exact ⟨ret_bool (okL_1 hok).symm, _, rfl⟩
  · by_cases hms : (m : Int) = s
    · have hne : ((m : Int) != s) = false := by simp [hms]
      have HM := Lib.hid (okL_t (ls := ls) hok (by rw [HL'.out]; exact hms))
      have HMS := Lib.hid hms
      clear hms
      go_wp2_with fail
      go_quiet ((go_at_call 62; exact Calls.quiet_of (l01Ok_any p s A n c xss _ m0 m1 (HX.out.drewN _) hn HR.out)))
      go_wp2_with fail
      clear hok hne m0 m1 m2
      go_loopw [3] (fun i wr => ∃ k e : Nat, k ≤ m ∧ i = .int .i64 k ∧ wr = w.drewN e ∧ (ls.take k).all (belowB 4) = true) (fun i _ => m - (intOf i).toNat)
      case atStart => exact ⟨0, _, Nat.zero_le _, rfl, rfl, by simp⟩
      case round =>
        obtain ⟨k, e, hk, rfl, hw, hall⟩ := hrel
        have HA := Lib.hid hall
        have HW := Lib.hid hw
        have h1 : NumsAt wr B m ls := by rw [hw]; exact HY.out.drewN e
        have HBB := Lib.hid (show LBox wr p s A n c B m d by rw [hw]; exact HB.out)
        have d2 := HBB.out 2 _ rfl
        clear hall hw
        by_cases hlt : k < m
        · obtain ⟨x, b, off, hx, rfl, hc⟩ := h1.at_ hlt
          have HXX := Lib.hid hx
          have hk0 : (0 : Int) ≤ (k : Int) := by omega
          have hkm : (k : Int) < (m : Int) := by omega
          clear hx h1
          rcases hin : inB 0 3 x with _ | _
          · go_wp2_with fail
            refine (l00In_any _ _ _ _).mono ?_
            rw [hin]
            rintro e w' ⟨rfl, rfl⟩
            go_wp2_with fail
            go_ret
            exact ⟨ret_bool (HM.out.trans (all_stop HXX.out (by rw [belowB_inB]; exact hin))).symm, _, HW.out⟩
          · go_wp2_with fail
            refine (l00In_any _ _ _ _).mono ?_
            rw [hin]
            rintro e w' ⟨rfl, rfl⟩
            go_wp2_with fail
            go_roundw
            case rel => exact ⟨k + 1, _, by omega, by go_num, HW.out, all_snoc HA.out HXX.out (by rw [belowB_inB]; exact hin)⟩
            case measure => simp [intOf]; omega
        · have hkm : k = m := by omega
          subst hkm
          clear h1
          go_wp2_with fail
          go_ret
          exact ⟨ret_bool (HM.out.trans (all_done HL'.out HA.out)).symm, _, HW.out⟩
    · have hne : ((m : Int) != s) = true := by rw [bne_iff_ne]; exact hms
      have HMS := Lib.hid hms
      clear hms
      go_wp2_with fail
      go_quiet ((go_at_call 62; exact Calls.quiet_of (l01Ok_any p s A n c xss _ m0 m1 (HX.out.drewN _) hn HR.out)))
      go_wp2_with fail
      go_ret
      exact ⟨ret_bool (okL_2 (by rw [HL'.out]; exact HMS.out)).symm, _, rfl⟩

set_option maxRecDepth 100000 in
theorem implValidLit_any (s : Int) (A : Option Addr) (n c : Nat) (xss : List (List Int)) (B : Option Addr) (m d : Nat) (ls : List Int) (w : World) (h : RowsAt w A n xss) (hn : n ≤ 4611686018427387904)
    (hrows : ∀ (r : Nat) (xs : List Int), xss[r]? = some xs → xs.length ≤ 4611686018427387904) (g : NumsAt w B m ls) (hm : m ≤ 4611686018427387904) :
    Calls Try.prog 91 #[.agg #[.int .i64 s, .slice A n c, .slice B m d]] w fun e w' => e = .returned (.bool (okL s xss ls)) ∧ Below w.heap.size w w' := by
  have HR := Lib.hid hrows
  have HL' := Lib.hid g.1
  clear hrows
  obtain ⟨w1, hw1⟩ : ∃ w1, w1 = w.alloc (.cells #[.int .i64 s, .slice A n c, .slice B m d] 33) := ⟨_, rfl⟩
  have b1 : Below w.heap.size w w1 := by rw [hw1]; exact (Below.refl _ _).alloc (Nat.le_refl _) _
  have HB1 := Lib.hid (show LBox w1 w.heap.size s A n c B m d by rw [hw1]; exact Box.new _ _ _)
  have HX1 := Lib.hid (h.below b1)
  have HY1 := Lib.hid (g.below b1)
  have W1 := Lib.hid b1
  have HW := Lib.hid hw1
  clear h g b1 hw1
  go_enter Try.func91, Try.ntmps91
  go_wp2_with fail
  rw [← HW.out]
  refine (implValid_any s A n c xss w1 HX1.out hn HR.out).mono ?_
  rintro e w3 ⟨rfl, b3⟩
  have HB3 := Lib.hid (show LBox w3 w.heap.size s A n c B m d from Box.below HB1.out b3)
  have HY3 := Lib.hid (HY1.out.below b3)
  have W3 := Lib.hid (below_then W1.out b3)
  have m0 := HB3.out 0 _ rfl
  have m1 := HB3.out 1 _ rfl
  have m2 := HB3.out 2 _ rfl
  clear b3 HB1 HX1 HY1 W1
  rcases hok : okA s xss with _ | _
  · go_wp2_with fail
    go_ret
    exact ⟨ret_bool (okL_1 hok).symm, W3.out⟩
  · by_cases hms : (m : Int) = s
    · have hne : ((m : Int) == s) = true := by simp [hms]
      have HM := Lib.hid (okL_t (ls := ls) hok (by rw [HL'.out]; exact hms))
      clear hms
      go_wp2_with fail
      refine (areBelow_any B m d ls 4 _ HY3.out hm).mono ?_
      rintro e w4 ⟨rfl, rfl⟩
      go_wp2_with fail
      go_ret
      exact ⟨ret_bool HM.out.symm, W3.out⟩
    · have hne : ((m : Int) == s) = false := by rw [beq_eq_false_iff_ne]; exact hms
      have HMS := Lib.hid hms
      clear hms
      go_wp2_with fail
      go_ret
      exact ⟨ret_bool (okL_2 (by rw [HL'.out]; exact HMS.out)).symm, W3.out⟩

end Go.Proofs.Ytdelanjkaokiaaa
