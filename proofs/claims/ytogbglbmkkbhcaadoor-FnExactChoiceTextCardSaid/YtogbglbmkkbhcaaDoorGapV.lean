/-
  Which partial automata are valid: the contracts of l04Size, l04Ok and of both ValidPartial.
-/
import Derived.Test.YtogbglbmkkbhcaaDoorGapD
namespace Go.Proofs.YtogbglbmkkbhcaaDoor
open Go.RowKit Go.Deep Go.ChangeShapes Go.WideShapes

def sizeB (s : Int) (m : Nat) : Bool := inB 1 10 s && inB 1 3 (m : Int)
theorem l04Size_any (s : Int) (m : Nat) (w : World) : Calls Tryd.prog 73 #[.int .i64 s, .int .i64 (m : Int)] w fun e w' => e = .returned (.bool (sizeB s m)) ∧ w = w' := by
  unfold sizeB
  rcases hs : inB 1 10 s with _ | _
  · go_enter Tryd.func73, Tryd.ntmps73
    go_wp2_with (go_at_call 65; refine (l00In_any _ _ _ _).mono ?_; rintro e w' ⟨rfl, rfl⟩)
    go_ret
    exact ⟨rfl, rfl⟩
  · go_enter Tryd.func73, Tryd.ntmps73
    go_wp2_with (go_at_call 65; refine (l00In_any _ _ _ _).mono ?_; rintro e w' ⟨rfl, rfl⟩)
    go_ret
    exact ⟨rfl, rfl⟩
theorem sizeB_f {s : Int} {m : Nat} {p : Int → Bool} {xss : List (List Int)} (hm : xss.length = m) (h : sizeB s m = false) : okF s p xss = false := by
  subst hm
  unfold sizeB at h
  unfold okF
  rw [h]; rfl
theorem sizeB_t {s : Int} {m : Nat} (h : sizeB s m = true) : (1 ≤ s ∧ s ≤ 10) ∧ 1 ≤ (m : Int) ∧ (m : Int) ≤ 3 := by
  simp only [sizeB, inB, Bool.and_eq_true, decide_eq_true_eq] at h
  exact h

set_option maxRecDepth 100000 in
set_option maxHeartbeats 2000000 in
theorem l04Ok_any (p : Nat) (s : Int) (A : Option Addr) (n cap : Nat) (xss : List (List Int)) (w : World) (c0 : w.cell? ⟨p, 0, none⟩ = some (.int .i64 s)) (c1 : w.cell? ⟨p, 1, none⟩ = some (.slice A n cap)) (h : RowsAt w A n xss) (hn : n ≤ 4611686018427387904)
    (hrows : ∀ (r : Nat) (xs : List Int), xss[r]? = some xs → xs.length ≤ 4611686018427387904) :
    Calls Tryd.prog 41 #[.pointer (some ⟨p, 0, none⟩)] w fun e w' => e = .returned (.bool (okP s xss)) ∧ ∃ m, w' = w.drewN m := by
  have HR := Lib.hid hrows
  have HL := Lib.hid h.1
  clear hrows
  rcases hz : sizeB s n with _ | _
  · go_enter Tryd.func41, Tryd.ntmps41
    go_wp2_with fail
    go_quiet ((go_at_call 73; exact quiet_eq (l04Size_any _ _ _)))
    go_wp2_with fail
    go_ret
    exact ⟨ret_bool (sizeB_f HL.out hz).symm, _, rfl⟩
  · have HZ := Lib.hid (sizeB_t hz)
    have hs1 : 1 ≤ s := HZ.out.1.1
    have hs2 : s ≤ 10 := HZ.out.1.2
    have hsub : IntKind.i64.wrap (s - 1) = s - 1 := IntWalk.i64_in _ (by omega)
    have HSUB := Lib.hid hsub
    clear hsub
    go_enter Tryd.func41, Tryd.ntmps41
    go_wp2_with fail
    go_quiet ((go_at_call 73; exact quiet_eq (l04Size_any _ _ _)))
    go_wp2_with fail
    clear hz
    go_loopw [3] (fun i wr => ∃ k m : Nat, k ≤ n ∧ i = .int .i64 k ∧ wr = w.drewN m ∧ (xss.take k).all (lineF s (inB (-1) (s - 1))) = true) (fun i _ => n - (intOf i).toNat)
    case atStart => exact ⟨0, _, Nat.zero_le _, rfl, rfl, by simp⟩
    case round =>
      obtain ⟨k, m, hk, rfl, hw, hall⟩ := hrel
      have HA := Lib.hid hall
      have HW := Lib.hid hw
      have h1 : RowsAt wr A n xss := by rw [hw]; exact h.drewN m
      have d0 : wr.cell? ⟨p, 0, none⟩ = some (.int .i64 s) := by rw [hw]; exact c0
      have d1 : wr.cell? ⟨p, 1, none⟩ = some (.slice A n cap) := by rw [hw]; exact c1
      clear hall hw
      by_cases hlt : k < n
      · obtain ⟨xs, b, off, A1, c2, hx, rfl, hc, hnum⟩ := h1.at_ hlt
        have HX := Lib.hid hx
        have HN := Lib.hid hnum
        have hk0 : (0 : Int) ≤ (k : Int) := by omega
        have hkn : (k : Int) < (n : Int) := by omega
        have HC := Lib.hid hc
        have hxw := HR.out _ _ hx
        clear hx hnum h1
        by_cases hls : (xs.length : Int) = s
        · have HLS := Lib.hid hls
          have hne : ((xs.length : Int) != s) = false := by simp [hls]
          clear hls
          go_wp2_with fail
          go_quiet (fail)
          go_wp2_with fail
          clear hne
          go_loopw [4] (fun j wi => ∃ q m2 : Nat, q ≤ xs.length ∧ j = .int .i64 q ∧ wi = wr.drewN m2 ∧ (xs.take q).all (inB (-1) (s - 1)) = true) (fun j _ => xs.length - (intOf j).toNat)
          case atStart => exact ⟨0, _, Nat.zero_le _, rfl, rfl, by simp⟩
          case round =>
            obtain ⟨q, m2, hq, rfl, hwi, hin⟩ := hrel
            have HI := Lib.hid hin
            have HWI := Lib.hid hwi
            have g0 : World.cell? ‹World› ⟨p, 0, none⟩ = some (.int .i64 s) := by rw [hwi]; exact d0
            have g1 : World.cell? ‹World› ⟨p, 1, none⟩ = some (.slice (some ⟨b, off, none⟩) n cap) := by rw [hwi]; exact d1
            have g2 : World.cell? ‹World› ⟨b, off + k, none⟩ = some (.slice A1 xs.length c2) := by rw [hwi]; exact HC.out
            have g3 : NumsAt ‹World› A1 xs.length xs := by rw [hwi]; exact HN.out.drewN m2
            clear hin hwi
            by_cases hqn : q < xs.length
            · obtain ⟨x, b3, off3, hx, rfl, hcx⟩ := g3.at_ hqn
              have HXX := Lib.hid hx
              have hq0 : (0 : Int) ≤ (q : Int) := by omega
              have hqn' : (q : Int) < (xs.length : Int) := by omega
              have hsub := HSUB.out
              clear hx g3
              rcases hb : inB (-1) (s - 1) x with _ | _
              · go_wp2_with fail
                go_quiet ((go_at_call 65; exact quiet_eq (l00In_any _ _ _ _)))
                clear hsub
                go_wp2_with fail
                go_ret
                exact ⟨ret_bool (okF_3 HX.out (by unfold lineF; rw [all_stop HXX.out hb]; rfl)).symm, _, by rw [HWI.out, HW.out, World.drewN_drewN, World.drewN_drewN]⟩
              · go_wp2_with fail
                go_quiet ((go_at_call 65; exact quiet_eq (l00In_any _ _ _ _)))
                clear hsub
                go_wp2_with fail
                go_roundw
                case rel => exact ⟨q + 1, _, by omega, by go_num, by rw [HWI.out, World.drewN_drewN], all_snoc HI.out HXX.out hb⟩
                case measure => simp [intOf]; omega
            · have hqe : q = xs.length := by omega
              have HQ := Lib.hid hqe
              clear g3 hqe
              go_wp2_with fail
              go_roundw
              case rel =>
                refine ⟨k + 1, _, by omega, by go_num, by rw [HWI.out, HW.out, World.drewN_drewN], fill_snoc HA.out HX.out ?_⟩
                have hi := HI.out
                rw [HQ.out, List.take_of_length_le (Nat.le_refl _)] at hi
                simp [lineF, hi, HLS.out]
              case measure => simp [intOf]; omega
        · have HLS := Lib.hid hls
          have hne : ((xs.length : Int) != s) = true := by simp [hls]
          clear hls
          go_wp2_with fail
          go_quiet (fail)
          go_wp2_with fail
          go_ret
          exact ⟨ret_bool (okF_3 HX.out (lineF_no HLS.out)).symm, _, by rw [HW.out, World.drewN_drewN]⟩
      · have hkn : k = n := by omega
        have HKN := Lib.hid hkn
        clear h1 hkn
        go_wp2_with fail
        go_ret
        have ha := HA.out
        rw [HKN.out, List.take_of_length_le (by rw [HL.out]; exact Nat.le_refl _)] at ha
        exact ⟨ret_bool (okF_t HZ.out.1 (by rw [HL.out]; exact HZ.out.2) ha).symm, _, HW.out⟩

set_option maxRecDepth 100000 in
theorem isNext_any (b : Nat) (s x : Int) (w : World) (c0 : w.cell? ⟨b, 0, none⟩ = some (.int .i64 s)) (hs : 1 ≤ s) :
    Calls Tryd.prog 74 #[.int .i64 x, .pointer (some ⟨b, 0, none⟩)] w fun e w' => e = .returned (.bool (inB (-1) (s - 1) x)) ∧ w = w' := by
  by_cases hx : x = -1
  · subst hx
    rw [inB_t ⟨by omega, by omega⟩]
    go_enter Tryd.func74, Tryd.ntmps74
    go_wp2_with fail
    go_ret
    exact ⟨rfl, rfl⟩
  · have hne : (x == -1) = false := by simp [hx]
    have e : inB (-1) (s - 1) x = belowB s x := by
      unfold inB belowB
      congr 1
      exact propext ⟨fun h => by omega, fun h => by omega⟩
    rw [e]
    have HX := Lib.hid hx
    clear hx e
    go_enter Tryd.func74, Tryd.ntmps74
    go_wp2_with (go_at_call 70; refine (isBelow_any _ _ _).mono ?_; rintro e w' ⟨rfl, rfl⟩)
    go_ret
    exact ⟨rfl, rfl⟩

theorem okF_low {s : Int} {p : Int → Bool} {xss : List (List Int)} (hs : ¬ 1 ≤ s) : okF s p xss = okF s (inB (-1) (s - 1)) xss := by
  rw [okF_1 (fun h => hs h.1), okF_1 (fun h => hs h.1)]
set_option maxRecDepth 100000 in
set_option maxHeartbeats 1000000 in
theorem implValidPartial_any (s : Int) (A : Option Addr) (n cap : Nat) (xss : List (List Int)) (w : World) (h : RowsAt w A n xss) (hn : n ≤ 4611686018427387904)
    (hrows : ∀ (r : Nat) (xs : List Int), xss[r]? = some xs → xs.length ≤ 4611686018427387904) :
    Calls Tryd.prog 43 #[.agg #[.int .i64 s, .slice A n cap]] w fun e w' => e = .returned (.bool (okP s xss)) ∧ Below w.heap.size w w' := by
  have hmf : ∀ (fn : Fn) (first cap : Array Value) (w : World), (Instr.makeFunc fn first cap).run Tryd.prog w = .ok (.func fn first cap) w := fun _ _ _ _ => rfl
  have HR := Lib.hid hrows
  clear hrows
  have b0 : Below w.heap.size w (w.alloc (.cells #[.int .i64 s, .slice A n cap] 34)) := (Below.refl _ _).alloc (Nat.le_refl _) _
  have x0 : (w.alloc (.cells #[.int .i64 s, .slice A n cap] 34)).cell? ⟨w.heap.size, 0, none⟩ = some (.int .i64 s) := by go_cell
  have H0 := Lib.hid (h.below b0)
  have B0 := Lib.hid b0
  have X0 := Lib.hid x0
  clear b0 x0
  go_enter Tryd.func43, Tryd.ntmps43
  go_wp2_with fail
  by_cases hs : 1 ≤ s
  · refine (isFilled_any 74 #[.pointer (some ⟨w.heap.size, 0, none⟩)] (inB (-1) (s - 1)) s A n cap xss _ H0.out hn HR.out (fun _ _ => rfl) (fun x _ W' hb => (isNext_any w.heap.size s x W' ((hb.cell (cell_lt X0.out)).trans X0.out) hs).mono fun e w' he => ⟨he.1, by rw [← he.2]; exact Below.refl _ _⟩)).mono ?_
    rintro e w1 ⟨rfl, b1⟩
    have HB := Lib.hid (below_then B0.out b1)
    clear b1
    go_wp2_with fail
    go_ret
    exact ⟨rfl, HB.out⟩
  · refine (isFilled_any 74 #[.pointer (some ⟨w.heap.size, 0, none⟩)] (fun x => decide (x = -1) || belowB s x) s A n cap xss _ H0.out hn HR.out (fun _ _ => rfl) (fun x _ W' hb => ?_)).mono ?_
    · have d0 : W'.cell? ⟨w.heap.size, 0, none⟩ = some (.int .i64 s) := (hb.cell (cell_lt X0.out)).trans X0.out
      show Calls _ _ #[.int .i64 x, .pointer (some ⟨w.heap.size, 0, none⟩)] _ _
      by_cases hx : x = -1
      · subst hx
        go_enter Tryd.func74, Tryd.ntmps74
        go_wp2_with fail
        go_ret
        exact ⟨by simp, Below.refl _ _⟩
      · have hne : (x == -1) = false := by simp [hx]
        have HX := Lib.hid hx
        clear hx
        go_enter Tryd.func74, Tryd.ntmps74
        go_wp2_with (go_at_call 70; refine (isBelow_any _ _ _).mono ?_; rintro e w' ⟨rfl, rfl⟩)
        go_ret
        exact ⟨by simp [HX.out], Below.refl _ _⟩
    · rw [okF_low hs]
      rintro e w1 ⟨rfl, b1⟩
      have HB := Lib.hid (below_then B0.out b1)
      clear b1
      go_wp2_with fail
      go_ret
      exact ⟨rfl, HB.out⟩

end Go.Proofs.YtogbglbmkkbhcaaDoor
