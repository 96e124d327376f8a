/-
  Which automata with choices are valid: the contracts of l04Choices and of both ValidChoice.
-/
import Derived.Test.YtkfajimhooidcaaDoorFillC
import Derived.Test.YtkfajimhooidcaaDoorGapV
import Derived.Test.YtkfajimhooidcaaDoorSets
namespace Go.Proofs.YtkfajimhooidcaaDoor
open Go.RowKit Go.Deep Go.ChangeShapes Go.WideShapes

def okC (s : Int) (xss : List (List (List Int))) : Bool := okFC s (setB s) xss
theorem sizeC_f {s : Int} {m : Nat} {p : List Int → Bool} {xss : List (List (List Int))} (hm : xss.length = m) (h : sizeB s m = false) : okFC s p xss = false := by
  subst hm
  unfold sizeB at h
  unfold okFC
  rw [h]; rfl

set_option maxRecDepth 100000 in
set_option maxHeartbeats 2000000 in
theorem l04Choices_any (p : Nat) (s : Int) (A : Option Addr) (n cap : Nat) (xss : List (List (List Int))) (w : World) (c0 : w.cell? ⟨p, 0, none⟩ = some (.int .i64 s)) (c1 : w.cell? ⟨p, 1, none⟩ = some (.slice A n cap)) (h : TabsAt w A n xss) (hn : n ≤ 4611686018427387904)
    (hrows : Wide3 4611686018427387904 xss) :
    Calls Tryd.prog 31 #[.pointer (some ⟨p, 0, none⟩)] w fun e w' => e = .returned (.bool (okC s xss)) ∧ ∃ m, w' = w.drewN m := by
  have HR := Lib.hid hrows
  have HL := Lib.hid h.1
  clear hrows
  rcases hz : sizeB s n with _ | _
  · go_enter Tryd.func31, Tryd.ntmps31
    go_wp2_with fail
    go_quiet ((go_at_call 44; exact quiet_eq (l04Size_any _ _ _)))
    go_wp2_with fail
    go_ret
    exact ⟨ret_bool (sizeC_f HL.out hz).symm, _, rfl⟩
  · have HZ := Lib.hid (sizeB_t hz)
    have hs1 : 1 ≤ s := HZ.out.1.1
    have hs2 : s ≤ 10 := HZ.out.1.2
    have hsub : IntKind.i64.wrap (s - 1) = s - 1 := IntWalk.i64_in _ (by omega)
    have HSUB := Lib.hid hsub
    clear hsub
    go_enter Tryd.func31, Tryd.ntmps31
    go_wp2_with fail
    go_quiet ((go_at_call 44; exact quiet_eq (l04Size_any _ _ _)))
    go_wp2_with fail
    clear hz
    go_loopw [3] (fun i wr => ∃ k m : Nat, k ≤ n ∧ i = .int .i64 k ∧ wr = w.drewN m ∧ (xss.take k).all (lineFC s (setB s)) = true) (fun i _ => n - (intOf i).toNat)
    case atStart => exact ⟨0, _, Nat.zero_le _, rfl, rfl, by simp⟩
    case round =>
      obtain ⟨k, m, hk, rfl, hw, hall⟩ := hrel
      have HA := Lib.hid hall
      have HW := Lib.hid hw
      have h1 : TabsAt wr A n xss := by rw [hw]; exact h.drewN m
      have d0 : wr.cell? ⟨p, 0, none⟩ = some (.int .i64 s) := by rw [hw]; exact c0
      have d1 : wr.cell? ⟨p, 1, none⟩ = some (.slice A n cap) := by rw [hw]; exact c1
      clear hall hw
      by_cases hlt : k < n
      · obtain ⟨xs, b, off, A1, c2, hx, rfl, hc, hnum⟩ := h1.at_ hlt
        have HX := Lib.hid hx
        have HN := Lib.hid hnum
        have hk0 : (0 : Int) ≤ (k : Int) := by omega
        have hkn : (k : Int) < (n : Int) := by omega
        have HC := Lib.hid hc
        have HXW := Lib.hid (HR.out _ _ hx).2
        have hxw := (HR.out _ _ hx).1
        clear hx hnum h1
        by_cases hls : (xs.length : Int) = s
        · have HLS := Lib.hid hls
          have hne : ((xs.length : Int) != s) = false := by simp [hls]
          clear hls
          go_wp2_with fail
          go_quiet (fail)
          go_wp2_with fail
          clear hne
          go_loopw [4] (fun j wi => ∃ q m2 : Nat, q ≤ xs.length ∧ j = .int .i64 q ∧ wi = wr.drewN m2 ∧ (xs.take q).all (setB s) = true) (fun j _ => xs.length - (intOf j).toNat)
          case atStart => exact ⟨0, _, Nat.zero_le _, rfl, rfl, by simp⟩
          case round =>
            obtain ⟨q, m2, hq, rfl, hwi, hin⟩ := hrel
            have HI := Lib.hid hin
            have HWI := Lib.hid hwi
            have g0 : World.cell? ‹World› ⟨p, 0, none⟩ = some (.int .i64 s) := by rw [hwi]; exact d0
            have g1 : World.cell? ‹World› ⟨p, 1, none⟩ = some (.slice (some ⟨b, off, none⟩) n cap) := by rw [hwi]; exact d1
            have g2 : World.cell? ‹World› ⟨b, off + k, none⟩ = some (.slice A1 xs.length c2) := by rw [hwi]; exact HC.out
            have g3 : RowsAt ‹World› A1 xs.length xs := by rw [hwi]; exact HN.out.drewN m2
            clear hin hwi
            by_cases hqn : q < xs.length
            · obtain ⟨x, b3, off3, A3, c3, hx, rfl, hcx, hnx⟩ := g3.at_ hqn
              have HXX := Lib.hid hx
              have hq0 : (0 : Int) ≤ (q : Int) := by omega
              have hqn' : (q : Int) < (xs.length : Int) := by omega
              have hsub := HSUB.out
              have HNX := Lib.hid hnx
              have hxl := HXW.out _ _ hx
              clear hx g3 hnx
              rcases hb : setB s x with _ | _
              · go_wp2_with fail
                go_quiet ((go_at_call 45; exact Calls.quiet_of (l00Rises_any _ _ _ x s _ (HNX.out.drewN _) hxl)))
                clear hsub
                go_wp2_with fail
                go_ret
                exact ⟨ret_bool (okFC_3 HX.out (by unfold lineFC; rw [allR_stop HXX.out hb]; rfl)).symm, _, by rw [HWI.out, HW.out, World.drewN_drewN, World.drewN_drewN]⟩
              · go_wp2_with fail
                go_quiet ((go_at_call 45; exact Calls.quiet_of (l00Rises_any _ _ _ x s _ (HNX.out.drewN _) hxl)))
                clear hsub
                go_wp2_with fail
                go_roundw
                case rel => exact ⟨q + 1, _, by omega, by go_num, by rw [HWI.out, World.drewN_drewN], allR_snoc HI.out HXX.out hb⟩
                case measure => simp [intOf]; omega
            · have hqe : q = xs.length := by omega
              have HQ := Lib.hid hqe
              clear g3 hqe
              go_wp2_with fail
              go_roundw
              case rel =>
                refine ⟨k + 1, _, by omega, by go_num, by rw [HWI.out, HW.out, World.drewN_drewN], fillC_snoc HA.out HX.out ?_⟩
                have hi := HI.out
                rw [HQ.out, List.take_of_length_le (Nat.le_refl _)] at hi
                simp [lineFC, hi, HLS.out]
              case measure => simp [intOf]; omega
        · have HLS := Lib.hid hls
          have hne : ((xs.length : Int) != s) = true := by simp [hls]
          clear hls
          go_wp2_with fail
          go_quiet (fail)
          go_wp2_with fail
          go_ret
          exact ⟨ret_bool (okFC_3 HX.out (lineFC_no HLS.out)).symm, _, by rw [HW.out, World.drewN_drewN]⟩
      · have hkn : k = n := by omega
        have HKN := Lib.hid hkn
        clear h1 hkn
        go_wp2_with fail
        go_ret
        have ha := HA.out
        rw [HKN.out, List.take_of_length_le (by rw [HL.out]; exact Nat.le_refl _)] at ha
        exact ⟨ret_bool (okFC_t HZ.out.1 (by rw [HL.out]; exact HZ.out.2) ha).symm, _, HW.out⟩

set_option maxRecDepth 100000 in
theorem isChosen_any (b : Nat) (s : Int) (A : Option Addr) (l c : Nat) (xs : List Int) (w : World) (c0 : w.cell? ⟨b, 0, none⟩ = some (.int .i64 s)) (h : NumsAt w A l xs) (hl : l ≤ 4611686018427387904) :
    Calls Tryd.prog 49 #[.slice A l c, .pointer (some ⟨b, 0, none⟩)] w fun e w' => e = .returned (.bool (setB s xs)) ∧ w = w' := by
  go_enter Tryd.func49, Tryd.ntmps49
  go_wp2_with (go_at_call 50; refine (isSet_any _ _ _ _ _ _ h hl).mono ?_; rintro e w' ⟨rfl, rfl⟩)
  go_ret
  exact ⟨rfl, rfl⟩

set_option maxRecDepth 100000 in
set_option maxHeartbeats 1000000 in
theorem implValidChoice_any (s : Int) (A : Option Addr) (n cap : Nat) (xss : List (List (List Int))) (w : World) (h : TabsAt w A n xss) (hn : n ≤ 4611686018427387904)
    (hrows : Wide3 4611686018427387904 xss) :
    Calls Tryd.prog 34 #[.agg #[.int .i64 s, .slice A n cap]] w fun e w' => e = .returned (.bool (okC s xss)) ∧ Below w.heap.size w w' := by
  have hmf : ∀ (fn : Fn) (first cap : Array Value) (w : World), (Instr.makeFunc fn first cap).run Tryd.prog w = .ok (.func fn first cap) w := fun _ _ _ _ => rfl
  have HR := Lib.hid hrows
  clear hrows
  have b0 : Below w.heap.size w (w.alloc (.cells #[.int .i64 s, .slice A n cap] 38)) := (Below.refl _ _).alloc (Nat.le_refl _) _
  have x0 : (w.alloc (.cells #[.int .i64 s, .slice A n cap] 38)).cell? ⟨w.heap.size, 0, none⟩ = some (.int .i64 s) := by go_cell
  have H0 := Lib.hid (h.below b0)
  have B0 := Lib.hid b0
  have X0 := Lib.hid x0
  clear b0 x0
  go_enter Tryd.func34, Tryd.ntmps34
  go_wp2_with fail
  refine (isFilledC_any 49 #[.pointer (some ⟨w.heap.size, 0, none⟩)] (setB s) s A n cap xss _ H0.out hn HR.out (fun _ _ => rfl) (fun x hx A1 c1 W' hb hnx => (isChosen_any w.heap.size s A1 x.length c1 x W' ((hb.cell (cell_lt X0.out)).trans X0.out) hnx ?_).mono fun e w' he => ⟨he.1, by rw [← he.2]; exact Below.refl _ _⟩)).mono ?_
  · obtain ⟨xs, h1, h2⟩ := hx
    obtain ⟨r, hr⟩ := List.getElem?_of_mem h1
    obtain ⟨q, hq⟩ := List.getElem?_of_mem h2
    exact (HR.out r xs hr).2 q x hq
  · rintro e w1 ⟨rfl, b1⟩
    have HB := Lib.hid (below_then B0.out b1)
    clear b1
    go_wp2_with fail
    go_ret
    exact ⟨rfl, HB.out⟩

end Go.Proofs.YtkfajimhooidcaaDoor
