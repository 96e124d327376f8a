/-
  Which machines are valid: the contracts of l06Plain, l06Ok and of both ValidMachine.
-/
import Derived.Test.YtogbglbmkkbhcaaDoorMachD
import Derived.StillTailTactics
namespace Go.Proofs.YtogbglbmkkbhcaaDoor
open Go.RowKit Go.Deep Go.ChangeShapes Go.WideShapes

/-- The block p holds a machine, as the functions are handed it. -/
def MBox (w : World) (p : Nat) (s q : Int) (A : Option Addr) (n c : Nat) (B : Option Addr) (m d : Nat) : Prop := Box w p [.int .i64 s, .int .i64 q, .slice A n c, .slice B m d]

theorem MBox.drewN {w : World} {p : Nat} {s q : Int} {A : Option Addr} {n c : Nat} {B : Option Addr} {m d : Nat} (h : MBox w p s q A n c B m d) (k : Nat) : MBox (w.drewN k) p s q A n c B m d := h

set_option maxRecDepth 100000 in
theorem l06Plain_any (p : Nat) (s q : Int) (A : Option Addr) (n c : Nat) (B : Option Addr) (m d : Nat) (w : World) (hb : MBox w p s q A n c B m d) :
    Calls Tryd.prog 86 #[.pointer (some ⟨p, 0, none⟩)] w fun e w' => e = .returned (.agg #[.int .i64 s, .slice A n c]) ∧ Below w.heap.size w w' := by
  obtain ⟨w1, hw1⟩ : ∃ w1, w1 = w.alloc (.cells #[.int .i64 0, .slice none 0 0] 27) := ⟨_, rfl⟩
  have b1 : Below w.heap.size w w1 := by rw [hw1]; exact (Below.refl _ _).alloc (Nat.le_refl _) _
  have c0 := (Box.below hb b1) 0 _ rfl
  have c2 := (Box.below hb b1) 2 _ rfl
  have x0 : w1.cell? ⟨w.heap.size, 0, none⟩ = some (.int .i64 0) := by rw [hw1]; go_cell
  have x1 : w1.cell? ⟨w.heap.size, 1, none⟩ = some (.slice none 0 0) := by rw [hw1]; go_cell
  have f0 : w1.frozen? ⟨w.heap.size, 0, none⟩ = false := by rw [hw1]; go_cell
  have f1 : w1.frozen? ⟨w.heap.size, 1, none⟩ = false := by rw [hw1]; go_cell
  have HB := Lib.hid b1
  have HW := Lib.hid hw1
  clear hb b1 hw1
  go_enter Tryd.func86, Tryd.ntmps86
  go_wp2_with fail
  rw [← HW.out]
  go_still_tail 9, (by kernel_rfl)
  obtain ⟨W5, hW5⟩ : ∃ W5, W5 = w1.drew := ⟨_, rfl⟩
  have b5 : Below w.heap.size w W5 := by rw [hW5]; exact below_drewN' HB.out 1
  have x0 : W5.cell? ⟨w.heap.size, 0, none⟩ = some (.int .i64 0) := by rw [hW5]; exact x0
  have x1 : W5.cell? ⟨w.heap.size, 1, none⟩ = some (.slice none 0 0) := by rw [hW5]; exact x1
  have f0 : W5.frozen? ⟨w.heap.size, 0, none⟩ = false := by rw [hW5]; exact f0
  have f1 : W5.frozen? ⟨w.heap.size, 1, none⟩ = false := by rw [hW5]; exact f1
  change wpList _ _ _ _ _ w1.drew
  rw [← hW5]
  have HB5 := Lib.hid b5
  clear hW5 b5
  go_wp2_with fail
  refine bodyPost_ret (v := .agg #[.int .i64 s, .slice A n c]) (by simp [results, Tryd.results86, go_sem, x0, x1]) rfl ⟨rfl, ?_⟩
  exact (HB5.out.setCell (Nat.le_refl _) _).setCell (Nat.le_refl _) _

set_option maxRecDepth 100000 in
set_option maxHeartbeats 4000000 in
theorem l06Ok_any (p : Nat) (s q : Int) (A : Option Addr) (n c : Nat) (xss : List (List Int)) (B : Option Addr) (m d : Nat) (yss : List (List Int)) (w : World) (hb : MBox w p s q A n c B m d) (h : RowsAt w A n xss) (hn : n ≤ 4611686018427387904)
    (hrows : ∀ (r : Nat) (xs : List Int), xss[r]? = some xs → xs.length ≤ 4611686018427387904) (g : RowsAt w B m yss) (hm : m ≤ 4611686018427387904) (houts : ∀ (r : Nat) (xs : List Int), yss[r]? = some xs → xs.length ≤ 4611686018427387904) :
    Calls Tryd.prog 58 #[.pointer (some ⟨p, 0, none⟩)] w fun e w' => e = .returned (.bool (okM s q xss yss)) ∧ Below w.heap.size w w' := by
  have HR := Lib.hid hrows
  have HO := Lib.hid houts
  have HL := Lib.hid h.1
  have HL' := Lib.hid g.1
  clear hrows houts
  go_enter Tryd.func58, Tryd.ntmps58
  go_wp2_with fail
  refine (l06Plain_any p s q A n c B m d w hb).mono ?_
  rintro e w1 ⟨rfl, b1⟩
  go_wp2_with fail
  obtain ⟨w2, hw2⟩ : ∃ w2, w2 = w1.alloc (.cells #[.int .i64 s, .slice A n c] 27) := ⟨_, rfl⟩
  rw [← hw2]
  have b2 : Below w1.heap.size w1 w2 := by rw [hw2]; exact (Below.refl _ _).alloc (Nat.le_refl _) _
  have x0 : w2.cell? ⟨w1.heap.size, 0, none⟩ = some (.int .i64 s) := by rw [hw2]; go_cell
  have x1 : w2.cell? ⟨w1.heap.size, 1, none⟩ = some (.slice A n c) := by rw [hw2]; go_cell
  have HB2 := Lib.hid (show MBox w2 p s q A n c B m d from (Box.below hb b1).below b2)
  have HX2 := Lib.hid ((h.below b1).below b2)
  have HY2 := Lib.hid ((g.below b1).below b2)
  have W2 := Lib.hid (below_then b1 b2)
  have X0 := Lib.hid x0
  have X1 := Lib.hid x1
  have m1 := HB2.out 1 _ rfl
  have m2 := HB2.out 2 _ rfl
  have m3 := HB2.out 3 _ rfl
  clear b1 b2 hw2 hb h g x0 x1
  rcases hok : okA s xss with _ | _
  · go_wp2_with fail
    go_quiet (first | (go_at_call 34; exact Calls.quiet_of (l01Ok_any w1.heap.size s A n c xss _ X0.out X1.out (HX2.out.drewN _) hn HR.out)) | (go_at_call 65; exact quiet_eq (l00In_any _ _ _ _)))
    go_wp2_with fail
    go_ret
    exact ⟨ret_bool (okM_1 hok).symm, below_drewN' W2.out _⟩
  · obtain ⟨n', hs, hg⟩ := good_of hok HL.out
    have hs1 : 1 ≤ s := by have := hg.n1; omega
    have hs2 : s ≤ 10 := by have := hg.n10; omega
    have HOK := Lib.hid hok
    clear hg hs
    rcases hq : inB 1 3 q with _ | _
    · go_wp2_with fail
      go_quiet (first | (go_at_call 34; exact Calls.quiet_of (l01Ok_any w1.heap.size s A n c xss _ X0.out X1.out (HX2.out.drewN _) hn HR.out)) | (go_at_call 65; exact quiet_eq (l00In_any _ _ _ _)))
      go_wp2_with fail
      go_ret
      exact ⟨ret_bool (okM_2 hq).symm, below_drewN' W2.out _⟩
    · have hq' : 1 ≤ q ∧ q ≤ 3 := by simpa [inB] using hq
      have hq1 : 1 ≤ q := hq'.1
      have hq2 : q ≤ 3 := hq'.2
      clear hq'
      by_cases hmn : m = n
      · have hne : ((m : Int) != (n : Int)) = false := by simp [hmn]
        have hMN : yss.length = xss.length := by rw [HL.out, HL'.out, hmn]
        have HM := Lib.hid (okM_t HOK.out hq hMN)
        have hml : 1 ≤ yss.length ∧ yss.length ≤ 3 := by have := (okA_parts HOK.out).2.1; omega
        have HML := Lib.hid hml
        clear hMN hmn hml
        go_wp2_with fail
        go_quiet (first | (go_at_call 34; exact Calls.quiet_of (l01Ok_any w1.heap.size s A n c xss _ X0.out X1.out (HX2.out.drewN _) hn HR.out)) | (go_at_call 65; exact quiet_eq (l00In_any _ _ _ _)))
        go_wp2_with fail
        clear hok hq hne
        have HSUB := Lib.hid (show IntKind.i64.wrap (q - 1) = q - 1 from IntWalk.i64_in _ (by omega))
        clear m1 m2 m3
        go_loopw [4] (fun i wr => ∃ k e : Nat, k ≤ m ∧ i = .int .i64 k ∧ wr = w2.drewN e ∧ (yss.take k).all (lineF s (belowB q)) = true) (fun i _ => m - (intOf i).toNat)
        case atStart => exact ⟨0, _, Nat.zero_le _, rfl, rfl, by simp⟩
        case round =>
          obtain ⟨k, e, hk, rfl, hw, hall⟩ := hrel
          have HA := Lib.hid hall
          have HW := Lib.hid hw
          have h1 : RowsAt wr B m yss := by rw [hw]; exact HY2.out.drewN e
          have HBB := Lib.hid (show MBox wr p s q A n c B m d by rw [hw]; exact HB2.out)
          have d0 := HBB.out 0 _ rfl
          have d1 := HBB.out 1 _ rfl
          have d3 := HBB.out 3 _ rfl
          clear hall hw
          by_cases hlt : k < m
          · obtain ⟨xs, b, off, A1, a1, hx, rfl, hc1, hnum1⟩ := h1.at_ hlt
            have HX := Lib.hid hx
            have HN := Lib.hid hnum1
            have hxw := HO.out _ _ hx
            have hk0 : (0 : Int) ≤ (k : Int) := by omega
            have hkm : (k : Int) < (m : Int) := by omega
            have HC := Lib.hid hc1
            clear hx hnum1 h1
            by_cases hls : (xs.length : Int) = s
            · have HLS := Lib.hid hls
              have hne : ((xs.length : Int) != s) = false := by simp [hls]
              clear hls
              go_wp2_with fail
              go_quiet (fail)
              go_wp2_with fail
              clear hne
              go_loopw [5] (fun j wi => ∃ r m2 : Nat, r ≤ xs.length ∧ j = .int .i64 r ∧ wi = wr.drewN m2 ∧ (xs.take r).all (belowB q) = true) (fun j _ => xs.length - (intOf j).toNat)
              case atStart => exact ⟨0, _, Nat.zero_le _, rfl, rfl, by simp⟩
              case round =>
                obtain ⟨r, m2, hr, rfl, hwi, hin⟩ := hrel
                have HI := Lib.hid hin
                have HWI := Lib.hid hwi
                have g1 : World.cell? ‹World› ⟨p, 1, none⟩ = some (.int .i64 q) := by rw [hwi]; exact d1
                have g3 : World.cell? ‹World› ⟨p, 3, none⟩ = some (.slice (some ⟨b, off, none⟩) m d) := by rw [hwi]; exact d3
                have g2 : World.cell? ‹World› ⟨b, off + k, none⟩ = some (.slice A1 xs.length a1) := by rw [hwi]; exact HC.out
                have gn : NumsAt ‹World› A1 xs.length xs := by rw [hwi]; exact HN.out.drewN m2
                clear hin hwi
                by_cases hrn : r < xs.length
                · obtain ⟨x, b3, off3, hx, rfl, hcx⟩ := gn.at_ hrn
                  have HXX := Lib.hid hx
                  have hr0 : (0 : Int) ≤ (r : Int) := by omega
                  have hrn' : (r : Int) < (xs.length : Int) := by omega
                  have hsub := HSUB.out
                  clear hx gn
                  rcases hin : inB 0 (q - 1) x with _ | _
                  · go_wp2_with fail
                    go_quiet ((go_at_call 65; exact quiet_eq (l00In_any _ _ _ _)))
                    go_wp2_with fail
                    go_ret
                    refine ⟨ret_bool (HM.out.trans (okF_3 HX.out ?_)).symm, by rw [HWI.out, HW.out]; exact below_drewN' (below_drewN' (below_drewN' W2.out _) _) _⟩
                    unfold lineF
                    rw [all_stop HXX.out (by rw [belowB_inB]; exact hin)]
                    rfl
                  · go_wp2_with fail
                    go_quiet ((go_at_call 65; exact quiet_eq (l00In_any _ _ _ _)))
                    go_wp2_with fail
                    go_roundw
                    case rel => exact ⟨r + 1, _, by omega, by go_num, by rw [HWI.out, World.drewN_drewN], all_snoc HI.out HXX.out (by rw [belowB_inB]; exact hin)⟩
                    case measure => simp [intOf]; omega
                · clear gn
                  go_wp2_with fail
                  go_roundw
                  case rel =>
                    have hre : r = xs.length := by omega
                    refine ⟨k + 1, _, by omega, by go_num, by rw [HWI.out, HW.out, World.drewN_drewN], allR_snoc HA.out HX.out ?_⟩
                    unfold lineF
                    rw [all_done hre.symm HI.out]
                    simp [HLS.out]
                  case measure => simp [intOf]; omega
            · have hne : ((xs.length : Int) != s) = true := by rw [bne_iff_ne]; exact hls
              have HLS := Lib.hid hls
              clear hls
              go_wp2_with fail
              go_quiet (fail)
              go_wp2_with fail
              go_ret
              exact ⟨ret_bool (HM.out.trans (okF_3 HX.out (lineF_no HLS.out))).symm, by rw [HW.out]; exact below_drewN' (below_drewN' W2.out _) _⟩
          · have hkm : k = m := by omega
            have HKM := Lib.hid hkm
            clear hkm
            go_wp2_with fail
            go_ret
            refine ⟨ret_bool (HM.out.trans (okF_t ⟨hs1, hs2⟩ ?_ (allR_done HL'.out (by rw [← HKM.out]; exact HA.out)))).symm, by rw [HW.out]; exact below_drewN' W2.out _⟩
            have := HML.out
            omega
      · have hne : ((m : Int) != (n : Int)) = true := by rw [bne_iff_ne]; omega
        have HMN := Lib.hid hmn
        clear hmn
        go_wp2_with fail
        go_quiet (first | (go_at_call 34; exact Calls.quiet_of (l01Ok_any w1.heap.size s A n c xss _ X0.out X1.out (HX2.out.drewN _) hn HR.out)) | (go_at_call 65; exact quiet_eq (l00In_any _ _ _ _)))
        go_wp2_with fail
        go_ret
        exact ⟨ret_bool (okM_3 (by rw [HL.out, HL'.out]; exact HMN.out)).symm, below_drewN' W2.out _⟩

set_option maxRecDepth 100000 in
theorem automatonOf_any (s q : Int) (A : Option Addr) (n c : Nat) (B : Option Addr) (m d : Nat) (w : World) :
    Calls Tryd.prog 87 #[.agg #[.int .i64 s, .int .i64 q, .slice A n c, .slice B m d]] w fun e w' => e = .returned (.agg #[.int .i64 s, .slice A n c]) ∧ Below w.heap.size w w' := by
  go_enter Tryd.func87, Tryd.ntmps87
  go_wp2_with fail
  refine bodyPost_ret (v := .agg #[.int .i64 s, .slice A n c]) (by simp [results, Tryd.results87, go_sem]) rfl ⟨rfl, ?_⟩
  go_grown

set_option maxRecDepth 100000 in
theorem isRightOut_any (b : Nat) (s q x : Int) (A : Option Addr) (n c : Nat) (B : Option Addr) (m d : Nat) (w : World) (hb : MBox w b s q A n c B m d) :
    Calls Tryd.prog 88 #[.int .i64 x, .pointer (some ⟨b, 0, none⟩)] w fun e w' => e = .returned (.bool (belowB q x)) ∧ Below w.heap.size w w' := by
  have c1 := hb 1 _ rfl
  clear hb
  go_enter Tryd.func88, Tryd.ntmps88
  go_wp2_with (go_at_call 70; refine (isBelow_any _ _ _).mono ?_; rintro e w' ⟨rfl, rfl⟩)
  go_ret
  exact ⟨rfl, Below.refl _ _⟩

set_option maxRecDepth 100000 in
set_option maxHeartbeats 2000000 in
theorem implValidMachine_any (s q : Int) (A : Option Addr) (n c : Nat) (xss : List (List Int)) (B : Option Addr) (m d : Nat) (yss : List (List Int)) (w : World) (h : RowsAt w A n xss) (hn : n ≤ 4611686018427387904)
    (hrows : ∀ (r : Nat) (xs : List Int), xss[r]? = some xs → xs.length ≤ 4611686018427387904) (g : RowsAt w B m yss) (hm : m ≤ 4611686018427387904) (houts : ∀ (r : Nat) (xs : List Int), yss[r]? = some xs → xs.length ≤ 4611686018427387904) :
    Calls Tryd.prog 60 #[.agg #[.int .i64 s, .int .i64 q, .slice A n c, .slice B m d]] w fun e w' => e = .returned (.bool (okM s q xss yss)) ∧ Below w.heap.size w w' := by
  have hmf : ∀ (fn : Fn) (first cap : Array Value) (w : World), (Instr.makeFunc fn first cap).run Tryd.prog w = .ok (.func fn first cap) w := fun _ _ _ _ => rfl
  have HR := Lib.hid hrows
  have HO := Lib.hid houts
  have HL := Lib.hid h.1
  have HL' := Lib.hid g.1
  clear hrows houts
  obtain ⟨w1, hw1⟩ : ∃ w1, w1 = w.alloc (.cells #[.int .i64 s, .int .i64 q, .slice A n c, .slice B m d] 59) := ⟨_, rfl⟩
  have b1 : Below w.heap.size w w1 := by rw [hw1]; exact (Below.refl _ _).alloc (Nat.le_refl _) _
  have HB1 := Lib.hid (show MBox w1 w.heap.size s q A n c B m d by rw [hw1]; exact Box.new _ _ _)
  have HX1 := Lib.hid (h.below b1)
  have HY1 := Lib.hid (g.below b1)
  have W1 := Lib.hid b1
  have HW := Lib.hid hw1
  clear h g b1 hw1
  go_enter Tryd.func60, Tryd.ntmps60
  go_wp2_with fail
  rw [← HW.out]
  refine (automatonOf_any s q A n c B m d w1).mono ?_
  rintro e w2 ⟨rfl, b2⟩
  have HB2 := Lib.hid (Box.below HB1.out b2)
  have HX2 := Lib.hid (HX1.out.below b2)
  have HY2 := Lib.hid (HY1.out.below b2)
  have W2 := Lib.hid (below_then W1.out b2)
  clear b2 HB1 HX1 HY1 W1
  go_wp2_with fail
  refine (implValid_any s A n c xss w2 HX2.out hn HR.out).mono ?_
  rintro e w3 ⟨rfl, b3⟩
  have HB3 := Lib.hid (show MBox w3 w.heap.size s q A n c B m d from Box.below HB2.out b3)
  have HY3 := Lib.hid (HY2.out.below b3)
  have W3 := Lib.hid (below_then W2.out b3)
  have m0 := HB3.out 0 _ rfl
  have m1 := HB3.out 1 _ rfl
  have m2 := HB3.out 2 _ rfl
  have m3 := HB3.out 3 _ rfl
  clear b3 HB2 HX2 HY2 W2
  rcases hok : okA s xss with _ | _
  · go_wp2_with fail
    go_ret
    exact ⟨ret_bool (okM_1 hok).symm, W3.out⟩
  · by_cases hq1 : 1 ≤ q
    · have e1 : decide (q < 1) = false := by simp; omega
      by_cases hq2 : q ≤ 3
      · have e2 : decide (3 < q) = false := by simp; omega
        by_cases hmn : m = n
        · have hne : ((m : Int) != (n : Int)) = false := by simp [hmn]
          have HM := Lib.hid (okM_t hok (inB_t ⟨hq1, hq2⟩) (show yss.length = xss.length by rw [HL.out, HL'.out, hmn]))
          clear hmn
          go_wp2_with fail
          refine (isFilled_any 88 #[.pointer (some ⟨w.heap.size, 0, none⟩)] (belowB q) s B m d yss _ HY3.out hm HO.out (fun _ _ => rfl) (fun x _ W' hb => isRightOut_any w.heap.size s q x A n c B m d W' (Box.below HB3.out hb))).mono ?_
          rintro e w4 ⟨rfl, b4⟩
          have W4 := Lib.hid (below_then W3.out b4)
          clear b4
          go_wp2_with fail
          go_ret
          exact ⟨ret_bool HM.out.symm, W4.out⟩
        · have hne : ((m : Int) != (n : Int)) = true := by rw [bne_iff_ne]; omega
          have HMN := Lib.hid hmn
          clear hmn
          go_wp2_with fail
          go_ret
          exact ⟨ret_bool (okM_3 (by rw [HL.out, HL'.out]; exact HMN.out)).symm, W3.out⟩
      · have e2 : decide (3 < q) = true := by simp; omega
        go_wp2_with fail
        go_ret
        exact ⟨ret_bool (okM_2 (inB_f (by omega))).symm, W3.out⟩
    · have e1 : decide (q < 1) = true := by simp; omega
      go_wp2_with fail
      go_ret
      exact ⟨ret_bool (okM_2 (inB_f (by omega))).symm, W3.out⟩

end Go.Proofs.YtogbglbmkkbhcaaDoor
