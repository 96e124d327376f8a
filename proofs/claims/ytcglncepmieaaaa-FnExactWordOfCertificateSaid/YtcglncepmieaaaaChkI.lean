/-
  The order of lists of two numbers: the contracts of l02Before and of slices.Compare.
  Certificates that are checked: pairs that stay apart: the model's l02Apart.
  Certificates that are checked: pairs that stay apart: the program's side.
  Certificates that are checked: the contracts of l02Right, of claimOf and of both CheckCertificate.
  Certificates that are checked: the contract of the program's CheckCertificate.
-/
import Derived.Test.YtcglncepmieaaaaChkD
import Derived.Test.YtcglncepmieaaaaChkM
import Derived.BigQuiet
namespace Go.Proofs.Ytcglncepmieaaaa
open Go.RowKit Go.Deep Go.ChangeShapes Go.WideShapes
open Hunt Srch From Moved

theorem two_cells {w : World} {A : Option Addr} {x y : Int} (h : NumsAt w A 2 [x, y]) : ∃ b o, A = some ⟨b, o, none⟩ ∧ w.cell? ⟨b, o, none⟩ = some (.int .i64 x) ∧ w.cell? ⟨b, o + 1, none⟩ = some (.int .i64 y) := by
  obtain ⟨z, b, o, hz, rfl, hc⟩ := h.at_ (show 0 < 2 by decide)
  obtain ⟨z', b', o', hz', he, hc'⟩ := h.at_ (show 1 < 2 by decide)
  obtain ⟨rfl, rfl⟩ : b = b' ∧ o = o' := by simpa using he
  simp only [List.getElem?_cons_zero, Option.some.injEq] at hz
  simp only [List.getElem?_cons_succ, List.getElem?_cons_zero, Option.some.injEq] at hz'
  subst hz hz'
  exact ⟨b, o, rfl, hc, hc'⟩
theorem befB_two (x y x' y' : Int) : befB [x, y] [x', y'] = (decide (x < x') || (decide (x = x') && decide (y < y'))) := rfl

set_option maxRecDepth 100000 in
set_option maxHeartbeats 4000000 in
theorem l02Before_any (A A' : Option Addr) (c c' : Nat) (x y x' y' : Int) (w : World) (h : NumsAt w A 2 [x, y]) (h' : NumsAt w A' 2 [x', y']) :
    Calls Try.prog 145 #[.slice A 2 c, .slice A' 2 c'] w fun e w' => e = .returned (.bool (befB [x, y] [x', y'])) ∧ ∃ d, w' = w.drewN d := by
  obtain ⟨b, o, rfl, c0, c1⟩ := two_cells h
  obtain ⟨b', o', rfl, c2, c3⟩ := two_cells h'
  rw [befB_two]
  clear h h'
  rcases h1 : decide (x < x') with _ | _
  · rcases h2 : decide (x = x') with _ | _
    · have h3 : (x == x') = false := by rw [beq_eq_false_iff_ne]; simpa using h2
      have HF := Lib.hid (show (false || (false && decide (y < y'))) = false from rfl)
      rw [HF.out]
      go_enter Try.func145, Try.ntmps145
      go_upto_region 1 with fail
      go_quiet (fail)
      go_wp2_with fail
      go_ret
      exact ⟨rfl, _, rfl⟩
    · have h3 : (x == x') = true := by rw [beq_iff_eq]; simpa using h2
      rcases h4 : decide (y < y') with _ | _
      all_goals
        have HF := Lib.hid (show (false || (true && false)) = false from rfl)
        have HT := Lib.hid (show (false || (true && true)) = true from rfl)
        first | rw [HF.out] | rw [HT.out]
        go_enter Try.func145, Try.ntmps145
        go_upto_region 1 with fail
        go_quiet (fail)
        go_wp2_with fail
        go_ret
        exact ⟨rfl, _, rfl⟩
  · have HF := Lib.hid (show ∀ b, (true || b) = true from fun b => rfl)
    rw [HF.out]
    go_enter Try.func145, Try.ntmps145
    go_upto_region 1 with fail
    go_quiet (fail)
    go_wp2_with fail
    go_ret
    exact ⟨rfl, _, rfl⟩

theorem isNaNC_any (x : Int) (w : World) : Calls Try.prog 173 #[.int .i64 x] w fun e w' => e = .returned (.bool false) ∧ w = w' := by
  go_enter Try.func173, Try.ntmps173
  go_wp2
  go_ret
  exact ⟨rfl, rfl⟩
def cmpN (x y : Int) : Int := if x < y then -1 else if y < x then 1 else 0
set_option maxRecDepth 100000 in
theorem cmpC_any (x y : Int) (w : World) : Calls Try.prog 172 #[.int .i64 x, .int .i64 y] w fun e w' => e = .returned (.int .i64 (cmpN x y)) ∧ w = w' := by
  have HC := Lib.hid (show (x < y → cmpN x y = -1) ∧ (¬ x < y → y < x → cmpN x y = 1) ∧ (¬ x < y → ¬ y < x → cmpN x y = 0) from ⟨fun h => if_pos h, fun h h' => by unfold cmpN; rw [if_neg h, if_pos h'], fun h h' => by unfold cmpN; rw [if_neg h, if_neg h']⟩)
  go_enter Try.func172, Try.ntmps172
  go_wp2_with fail
  refine (isNaNC_any x w).mono ?_
  rintro e w' ⟨rfl, rfl⟩
  go_wp2_with fail
  refine (isNaNC_any y w).mono ?_
  rintro e w' ⟨rfl, rfl⟩
  by_cases h1 : x < y
  · have HE := Lib.hid (HC.out.1 h1)
    go_wp2_with fail
    go_ret
    rw [HE.out]
    exact ⟨rfl, rfl⟩
  · by_cases h2 : y < x
    · have HE := Lib.hid (HC.out.2.1 (by omega) h2)
      go_wp2_with fail
      go_ret
      rw [HE.out]
      exact ⟨rfl, rfl⟩
    · have HE := Lib.hid (HC.out.2.2 (by omega) (by omega))
      go_wp2_with fail
      go_ret
      rw [HE.out]
      exact ⟨rfl, rfl⟩
theorem cmpN_0 {x y : Int} : cmpN x y = 0 ↔ x = y := by
  unfold cmpN
  split
  · omega
  · split <;> omega
theorem cmpN_le {x y : Int} : 0 ≤ cmpN x y ↔ ¬ x < y := by
  unfold cmpN
  split
  · rename_i h; exact ⟨fun h' => by omega, fun h' => absurd h h'⟩
  · rename_i h
    refine ⟨fun _ => h, fun _ => ?_⟩
    split <;> omega

set_option maxRecDepth 100000 in
set_option maxHeartbeats 4000000 in
theorem slCompare_any (A A' : Option Addr) (c c' : Nat) (x y x' y' : Int) (w : World) (h : NumsAt w A 2 [x, y]) (h' : NumsAt w A' 2 [x', y']) :
    Calls Try.prog 171 #[.slice A 2 c, .slice A' 2 c'] w fun e w' => (∃ v : Int, e = .returned (.int .i64 v) ∧ decide (0 ≤ v) = !befB [x, y] [x', y']) ∧ w = w' := by
  obtain ⟨b, o, rfl, c0, c1⟩ := two_cells h
  obtain ⟨b', o', rfl, c2, c3⟩ := two_cells h'
  have HL := Lib.hid h
  have HL' := Lib.hid h'
  have HBF := Lib.hid (befB_two x y x' y')
  clear h h'
  go_enter Try.func171, Try.ntmps171
  go_wp2_with fail
  go_loop [11] (fun i => ∃ k : Nat, k ≤ 2 ∧ i = .int .i64 k ∧ (0 < k → x = x') ∧ (1 < k → y = y')) (fun i => 2 - (intOf i).toNat)
  case atStart => exact ⟨0, by decide, rfl, fun h => by omega, fun h => by omega⟩
  case round =>
    obtain ⟨k, hk, rfl, hx, hy⟩ := hrel
    rcases k with _ | _ | _ | k
    · obtain ⟨v, hv⟩ : ∃ v, v = cmpN x x' := ⟨_, rfl⟩
      have HV := Lib.hid hv
      by_cases h0 : v = 0
      · have hz : (v != 0) = false := by rw [h0]; rfl
        have HE := Lib.hid (show x = x' from cmpN_0.1 (by rw [← hv]; exact h0))
        have HX := Lib.hid hx
        clear hv h0 hx hy
        go_wp2_with fail
        refine (cmpC_any x x' w).mono ?_
        rw [← HV.out]
        rintro e w' ⟨rfl, rfl⟩
        go_wp2_with fail
        go_round
        case rel => exact ⟨1, by decide, by go_num, fun _ => HE.out, fun h => absurd h (by decide)⟩
        case measure => simp [intOf]
      · have hz : (v != 0) = true := by rw [bne_iff_ne]; exact h0
        have HX := Lib.hid hx
        have HR := Lib.hid (show decide (0 ≤ v) = !befB [x, y] [x', y'] from by
          rw [HBF.out]
          have hne : ¬ x = x' := fun e => h0 (by rw [hv, cmpN_0]; exact e)
          have hle : 0 ≤ v ↔ ¬ x < x' := by rw [hv]; exact cmpN_le
          rw [decide_eq_false hne, Bool.false_and, Bool.or_false, Bool.eq_iff_iff, decide_eq_true_eq, hle, Bool.not_eq_true', decide_eq_false_iff_not])
        clear hv h0 hx hy
        go_wp2_with fail
        refine (cmpC_any x x' w).mono ?_
        rw [← HV.out]
        rintro e w' ⟨rfl, rfl⟩
        go_wp2_with fail
        go_ret
        exact ⟨⟨v, rfl, HR.out⟩, rfl⟩
    · obtain ⟨v, hv⟩ : ∃ v, v = cmpN y y' := ⟨_, rfl⟩
      have HV := Lib.hid hv
      by_cases h0 : v = 0
      · have hz : (v != 0) = false := by rw [h0]; rfl
        have HE := Lib.hid (show y = y' from cmpN_0.1 (by rw [← hv]; exact h0))
        have HX := Lib.hid hx
        clear hv h0 hx hy
        go_wp2_with fail
        refine (cmpC_any y y' w).mono ?_
        rw [← HV.out]
        rintro e w' ⟨rfl, rfl⟩
        go_wp2_with fail
        go_round
        case rel => exact ⟨2, by decide, by go_num, fun _ => HX.out (by decide), fun h => HE.out⟩
        case measure => simp [intOf]
      · have hz : (v != 0) = true := by rw [bne_iff_ne]; exact h0
        have HX := Lib.hid hx
        have HR := Lib.hid (show decide (0 ≤ v) = !befB [x, y] [x', y'] from by
          rw [HBF.out]
          have hxx : x = x' := hx (by decide)
          have hle : 0 ≤ v ↔ ¬ y < y' := by rw [hv]; exact cmpN_le
          rw [decide_eq_true hxx, Bool.true_and, decide_eq_false (show ¬ x < x' by omega), Bool.false_or, Bool.eq_iff_iff, decide_eq_true_eq, hle, Bool.not_eq_true', decide_eq_false_iff_not])
        clear hv h0 hx hy
        go_wp2_with fail
        refine (cmpC_any y y' w).mono ?_
        rw [← HV.out]
        rintro e w' ⟨rfl, rfl⟩
        go_wp2_with fail
        go_ret
        exact ⟨⟨v, rfl, HR.out⟩, rfl⟩
    · have HX := Lib.hid (hx (by decide))
      have HY := Lib.hid (hy (by decide))
      clear hx hy
      go_wp2_with fail
      go_ret
      refine ⟨⟨0, rfl, ?_⟩, rfl⟩
      rw [HBF.out, HX.out, HY.out]
      simp
    · omega

end Go.Proofs.Ytcglncepmieaaaa

namespace Go.Proofs.Ytcglncepmieaaaa
open Go.RowKit Go.Deep Go.ChangeShapes Go.WideShapes
open Hunt Srch From Moved

theorem two_of_len {l : List Int} (h : l.length = 2) : ∃ x y, l = [x, y] := by
  rcases l with _ | ⟨x, _ | ⟨y, _ | ⟨z, l⟩⟩⟩
  · simp at h
  · simp at h
  · exact ⟨x, y, rfl⟩
  · simp at h
theorem apoB_row {n m k : Nat} {xss : List (List Int)} {ps : List (List Int)} (hk : k < ps.length) (h : rowB n ps k = false) : apoB n m xss ps = false := by
  unfold apoB; rw [all_no hk h, Bool.false_and]
theorem apoB_in {n m k x : Nat} {xss : List (List Int)} {ps : List (List Int)} (hk : k < ps.length) (hx : x < m) (h : inAt xss ps k x = false) : apoB n m xss ps = false := by
  unfold apoB
  rw [all_no (f := fun i => (List.range m).all (inAt xss ps i)) hk (all_no hx h), Bool.false_and, Bool.and_false]
theorem apoB_all {n m N : Nat} {xss : List (List Int)} {ps : List (List Int)} (hN : ps.length = N) (h1 : ∀ k, k < N → rowB n ps k = true) (h2 : ∀ k, k < N → ∀ x, x < m → inAt xss ps k x = true) : apoB n m xss ps = decide (0 < N) := by
  unfold apoB
  rw [hN, all_yes h1, all_yes (f := fun i => (List.range m).all (inAt xss ps i)) fun k hk => all_yes (h2 k hk), Bool.true_and, Bool.true_and]
theorem row_of_at {ps : List (List Int)} {k : Nat} {xs : List Int} (h : ps[k]? = some xs) : ps.getD k [] = xs := by rw [List.getD_eq_getElem?_getD, h]; rfl

set_option maxRecDepth 100000 in
set_option maxHeartbeats 8000000 in
theorem l02Apart_any (p0 : Nat) (Pd A : Option Addr) (N c n m cap : Nat) (ps xss : List (List Int)) (w : World) (hg : Good n m xss) (hR : RowsAt w A m xss) (hb : Box w p0 [.int .i64 (n : Int), .slice A m cap]) (hP : RowsAt w Pd N ps) (hN : N ≤ 4611686018427387904)
    (hrows : ∀ (r : Nat) (xs : List Int), ps[r]? = some xs → xs.length ≤ 4611686018427387904) :
    Calls Try.prog 123 #[.pointer (some ⟨p0, 0, none⟩), .slice Pd N c] w fun e w' => e = .returned (.bool (apoB n m xss ps)) ∧ Below w.heap.size w w' := by
  have hn10 := hg.n10
  have hn1 := hg.n1
  have hm3 := hg.m3
  have HBX := Lib.hid hb
  have HX := Lib.hid hR
  have HV := Lib.hid hP
  have HG := Lib.hid hg
  have HR := Lib.hid hrows
  have HPL := Lib.hid hP.1
  obtain ⟨R, hRR⟩ : ∃ R, R = apoB n m xss ps := ⟨_, rfl⟩
  rw [← hRR]
  have HRR := Lib.hid hRR
  clear hR hP hg hrows hRR hb
  go_enter Try.func123, Try.ntmps123
  go_wp2_with fail
  go_loopw [5] (fun iv wr => ∃ k : Nat, k ≤ N ∧ iv = .int .i64 k ∧ (∀ j, j < k → rowB n ps j = true) ∧ Below w.heap.size w wr) (fun iv _ => N - (intOf iv).toNat)
  case atStart => exact ⟨0, Nat.zero_le _, rfl, fun j hj => by omega, Below.refl _ _⟩
  case round =>
    obtain ⟨k, hk, rfl, hall, hbel⟩ := hrel
    have HA := Lib.hid hall
    have HB := Lib.hid hbel
    have hk0 : (0 : Int) ≤ (k : Int) := by omega
    clear hall hbel
    by_cases hlt : k < N
    · have hkn : (k : Int) < (N : Int) := by omega
      have HVR := Lib.hid (HV.out.below HB.out)
      obtain ⟨xs, bP, oP, A', c', hxs, rfl, hcw, hnum⟩ := HVR.out.at_ hlt
      have hxl := HR.out k xs hxs
      have HGD := Lib.hid (row_of_at hxs)
      have q0 := (Box.below HBX.out HB.out) 0 _ rfl
      have HKL := Lib.hid (show k < ps.length by rw [HPL.out]; exact hlt)
      clear hxs
      by_cases h2 : xs.length = 2
      · obtain ⟨x, y, rfl⟩ := two_of_len h2
        simp only [List.length_cons, List.length_nil] at hcw hnum hxl
        have HNM := Lib.hid hnum
        have HQ1 := Lib.hid (fun d => l01Set_any p0 (n : Int) A' 2 c' [x, y] (wr.drewN d) q0 (HNM.out.drewN d) (by omega) (by omega) (by omega))
        clear hnum h2 hxl
        rcases hs : setB (n : Int) [x, y] with _ | _
        · have HF1 := Lib.hid (show R = false by
            rw [HRR.out]; refine apoB_row HKL.out ?_
            unfold rowB
            rw [HGD.out, hs, Bool.and_false, Bool.false_and])
          rw [hs] at HQ1
          clear hs
          go_upto_region 4 with fail
          go_quiet ((go_at_call 144; exact Calls.quiet_of (HQ1.out _)))
          go_wp2_with fail
          go_ret
          rw [HF1.out]
          exact ⟨rfl, below_drewN' HB.out _⟩
        · rw [hs] at HQ1
          have HS := Lib.hid hs
          clear hs
          rcases Nat.eq_zero_or_pos k with hz | hpos
          · have HT := Lib.hid (show rowB n ps k = true by unfold rowB; rw [HGD.out, HS.out, decide_eq_true hz]; rfl)
            have HZ := Lib.hid hz
            have hg0 : decide ((0 : Int) < (k : Int)) = false := decide_eq_false (by omega)
            have hk1 : ¬ 0 < k := by omega
            have hk2 : ¬ (0 : Int) < (k : Int) := by omega
            clear hz
            go_upto_region 4 with fail
            go_quiet ((go_at_call 144; exact Calls.quiet_of (HQ1.out _)))
            go_wp2_with fail
            go_roundw
            case rel =>
              refine ⟨k + 1, by omega, by go_num, fun j hj => ?_, below_drewN' HB.out _⟩
              have hz := HZ.out
              obtain rfl : j = k := by omega
              exact HT.out
            case measure => simp [intOf]; omega
          · obtain ⟨us, bP', oP', A9, c9, hus, he9, hcu, hnu⟩ := HVR.out.at_ (show k - 1 < N by omega)
            obtain ⟨rfl, rfl⟩ : bP = bP' ∧ oP = oP' := by simpa using he9
            have hprev := HA.out (k - 1) (by omega)
            have hul : us.length = 2 := by
              simp only [rowB, Bool.and_eq_true, decide_eq_true_eq] at hprev
              rw [row_of_at hus] at hprev
              exact hprev.1.1
            obtain ⟨x9, y9, rfl⟩ := two_of_len hul
            simp only [List.length_cons, List.length_nil] at hcu hnu
            have HN9 := Lib.hid hnu
            have HQ2 := Lib.hid (fun d => l02Before_any A9 A' c9 c' x9 y9 x y (wr.drewN d) (HN9.out.drewN d) (HNM.out.drewN d))
            have HROW := Lib.hid (show rowB n ps k = befB [x9, y9] [x, y] by
              unfold rowB
              rw [HGD.out, HS.out, row_of_at hus, decide_eq_false (show ¬ k = 0 by omega)]
              simp)
            have hg0 : decide ((0 : Int) < (k : Int)) = true := decide_eq_true (by omega)
            have hwr : IntKind.i64.wrap ((k : Int) - 1) = (k : Int) - 1 := IntWalk.i64_in _ (by omega)
            have hto : ((k : Int) - 1).toNat = k - 1 := by omega
            have j1 : (0 : Int) ≤ (k : Int) - 1 := by omega
            have j2 : (k : Int) - 1 < (N : Int) := by omega
            clear hnu hprev hul he9 hus
            rcases hbf : befB [x9, y9] [x, y] with _ | _
            · rw [hbf] at HQ2
              have HF1 := Lib.hid (show R = false by rw [HRR.out]; exact apoB_row HKL.out (by rw [HROW.out, hbf]))
              clear hbf
              go_upto_region 4 with fail
              go_quiet (first
                | (go_at_call 144; exact Calls.quiet_of (HQ1.out _))
                | (go_at_call 145; exact Calls.quiet_of (HQ2.out _)))
              go_wp2_with fail
              go_ret
              rw [HF1.out]
              exact ⟨rfl, below_drewN' HB.out _⟩
            · rw [hbf] at HQ2
              have HT := Lib.hid (show rowB n ps k = true by rw [HROW.out, hbf])
              clear hbf
              go_upto_region 4 with fail
              go_quiet (first
                | (go_at_call 144; exact Calls.quiet_of (HQ1.out _))
                | (go_at_call 145; exact Calls.quiet_of (HQ2.out _)))
              go_wp2_with fail
              go_roundw
              case rel =>
                refine ⟨k + 1, by omega, by go_num, fun j hj => ?_, below_drewN' HB.out _⟩
                rcases Nat.lt_or_ge j k with a | a
                · exact HA.out j a
                · obtain rfl : j = k := by omega
                  exact HT.out
              case measure => simp [intOf]; omega
      · have HF1 := Lib.hid (show R = false by
          rw [HRR.out]; refine apoB_row HKL.out ?_
          unfold rowB
          rw [HGD.out, decide_eq_false h2, Bool.false_and, Bool.false_and])
        obtain ⟨l, hl⟩ : ∃ l, l = xs.length := ⟨_, rfl⟩
        rw [← hl] at hcw h2
        have hd0 : ((l : Int) == 2) = false := by rw [beq_eq_false_iff_ne]; omega
        have hd1 : ((l : Int) != 2) = true := by rw [bne_iff_ne]; omega
        have hd2 : decide ((l : Int) = 2) = false := decide_eq_false (by omega)
        clear hl hnum h2 hxl
        go_upto_region 4 with fail
        go_quiet (fail)
        go_wp2_with fail
        go_ret
        rw [HF1.out]
        exact ⟨rfl, below_drewN' HB.out _⟩
    · have hke : k = N := by omega
      have hkn : ¬ (k : Int) < (N : Int) := by omega
      have HALL := Lib.hid (show ∀ j, j < N → rowB n ps j = true from fun j hj => HA.out j (by omega))
      obtain ⟨w1, hw1⟩ : ∃ w1, w1 = wr := ⟨_, rfl⟩
      rw [← hw1] at HB ⊢
      clear hke hlt hw1
      go_wp2_with fail
      go_loopw [6] (fun iv wr => ∃ k : Nat, k ≤ N ∧ iv = .int .i64 k ∧ (∀ j, j < k → ∀ x, x < m → inAt xss ps j x = true) ∧ Below w.heap.size w wr) (fun iv _ => N - (intOf iv).toNat)
      case atStart => exact ⟨0, Nat.zero_le _, rfl, fun j hj => by omega, HB.out⟩
      case round =>
        obtain ⟨i, hi, rfl, hin, hbel⟩ := hrel
        have HA2 := Lib.hid hin
        have HB2 := Lib.hid hbel
        have hi0 : (0 : Int) ≤ (i : Int) := by omega
        clear hin hbel
        by_cases hlti : i < N
        · have hin : (i : Int) < (N : Int) := by omega
          go_wp2_with fail
          go_loopw [7] (fun xv wr => ∃ x : Nat, x ≤ m ∧ xv = .int .i64 x ∧ (∀ z, z < x → inAt xss ps i z = true) ∧ Below w.heap.size w wr) (fun xv _ => m - (intOf xv).toNat)
          case atStart => exact ⟨0, Nat.zero_le _, rfl, fun j hj => by omega, HB2.out⟩
          case round =>
            obtain ⟨x, hx, rfl, hdone, hbel⟩ := hrel
            have HA3 := Lib.hid hdone
            have HB3 := Lib.hid hbel
            have hx0 : (0 : Int) ≤ (x : Int) := by omega
            have q1 := (Box.below HBX.out hbel) 1 _ rfl
            clear hdone hbel
            by_cases hltx : x < m
            · have hxm : (x : Int) < (m : Int) := by omega
              obtain ⟨xs, bP, oP, A', c', hxs, rfl, hcw, hnum⟩ := (HV.out.below HB3.out).at_ hlti
              have hxl := HR.out i xs hxs
              have HGD := Lib.hid (row_of_at hxs)
              have hrow := HALL.out i hlti
              simp only [rowB, Bool.and_eq_true, decide_eq_true_eq] at hrow
              rw [HGD.out] at hrow
              have HST := Lib.hid hrow.1.2
              obtain ⟨a, b, rfl⟩ := two_of_len hrow.1.1
              simp only [List.length_cons, List.length_nil] at hcw hnum hxl
              obtain ⟨w4, hw4⟩ : ∃ w4, w4 = wr.alloc (.cells #[.int .i64 (x : Int)] 2) := ⟨_, rfl⟩
              have b4 : Below wr.heap.size wr w4 := by rw [hw4]; exact (Below.refl _ _).alloc (Nat.le_refl _) _
              have HW1 := Lib.hid (show NumsAt w4 (some ⟨wr.heap.size, 0, none⟩) 1 [(x : Int)] by rw [hw4]; exact nums_one wr _ _)
              have HNM := Lib.hid (hnum.below b4)
              have HWW := Lib.hid hw4
              have HQ1 := Lib.hid ((b4.cell (cell_lt q1)).trans q1)
              have HB4 := Lib.hid (below_then HB3.out b4)
              have HIN := Lib.hid (show inAt xss ps i x = (decide ((imageL xss [a, b] [(x : Int)]).length = 2) && decide (0 ≤ findL ps (imageL xss [a, b] [(x : Int)]) 0)) by unfold inAt; rw [HGD.out])
              have HV4 := Lib.hid (HV.out.below HB4.out)
              have hx1 : ∀ z ∈ [(x : Int)], 0 ≤ z ∧ z < (m : Int) := fun z hz => by rw [List.mem_singleton.1 hz]; omega
              have HX1 := Lib.hid hx1
              clear hnum hxs hrow b4 hw4 hx1
              go_wp2_with fail
              rw [← HWW.out]
              refine (l01Image_any p0 A _ A' n m cap 1 1 2 c' xss [a, b] [(x : Int)] w4 HG.out HQ1.out (HX.out.below HB4.out) (HNM.out) HW1.out HX1.out (fun z hz => by have := setB_mem HST.out z hz; exact this) (by omega) (by omega)).mono ?_
              rintro e w5 ⟨u, rfl, o5, b5⟩
              obtain ⟨T, hT⟩ : ∃ T, T = imageL xss [a, b] [(x : Int)] := ⟨_, rfl⟩
              rw [← hT] at o5 HIN
              obtain ⟨A5, C5, rfl⟩ := own_form o5
              have HN5 := Lib.hid (NumsAt.own o5 rfl rfl)
              have HB5 := Lib.hid (below_then HB4.out b5)
              have HV5 := Lib.hid (HV4.out.below b5)
              clear o5 b5 hT q1 hcw
              by_cases h2 : T.length = 2
              · have HFD := Lib.hid (l01Find_any _ A5 N c 2 C5 ps T w5 HV5.out (by rw [← h2]; exact HN5.out) hN (by omega) HR.out)
                obtain ⟨F, hF⟩ : ∃ F, F = findL ps T 0 := ⟨_, rfl⟩
                rw [← hF] at HFD HIN
                have HIN2 := Lib.hid (show inAt xss ps i x = decide (0 ≤ F) by rw [HIN.out, decide_eq_true h2, Bool.true_and])
                rw [h2]
                clear h2 hF
                by_cases hf : 0 ≤ F
                · have hf1 : ¬ F < 0 := by omega
                  have hf2 : decide (F < 0) = false := decide_eq_false hf1
                  have HT := Lib.hid (show inAt xss ps i x = true by rw [HIN2.out, decide_eq_true hf])
                  go_wp2_with fail
                  refine HFD.out.mono ?_
                  rintro e w6 ⟨rfl, d, hd⟩
                  have HB6 := Lib.hid (show Below w.heap.size w w6 by rw [hd]; exact below_drewN' HB5.out _)
                  clear hd
                  go_wp2_with fail
                  go_roundw
                  case rel =>
                    refine ⟨x + 1, by omega, by go_num, fun z hz => ?_, HB6.out⟩
                    rcases Nat.lt_or_ge z x with q | q
                    · exact HA3.out z q
                    · obtain rfl : z = x := by omega
                      exact HT.out
                  case measure => simp [intOf]; omega
                · have hf1 : F < 0 := by omega
                  have HF1 := Lib.hid (show R = false by rw [HRR.out]; exact apoB_in (by rw [HPL.out]; exact hlti) hltx (by rw [HIN2.out, decide_eq_false hf]))
                  go_wp2_with fail
                  refine HFD.out.mono ?_
                  rintro e w6 ⟨rfl, d, hd⟩
                  have HB6 := Lib.hid (show Below w.heap.size w w6 by rw [hd]; exact below_drewN' HB5.out _)
                  clear hd
                  go_wp2_with fail
                  go_ret
                  rw [HF1.out]
                  exact ⟨rfl, HB6.out⟩
              · have HF1 := Lib.hid (show R = false by rw [HRR.out]; exact apoB_in (by rw [HPL.out]; exact hlti) hltx (by rw [HIN.out, decide_eq_false h2, Bool.false_and]))
                obtain ⟨l, hl⟩ : ∃ l, l = T.length := ⟨_, rfl⟩
                rw [← hl] at h2 ⊢
                have hd0 : ((l : Int) == 2) = false := by rw [beq_eq_false_iff_ne]; omega
                have hd1 : ((l : Int) != 2) = true := by rw [bne_iff_ne]; omega
                clear hl h2
                go_wp2_with fail
                go_ret
                rw [HF1.out]
                exact ⟨rfl, HB5.out⟩
            · have hxe : x = m := by omega
              have hxm : ¬ (x : Int) < (m : Int) := by omega
              have HROW := Lib.hid (show ∀ z, z < m → inAt xss ps i z = true from fun z hz => HA3.out z (by omega))
              clear hxe hltx
              go_wp2_with fail
              go_roundw
              case rel =>
                refine ⟨i + 1, by omega, by go_num, fun j hj => ?_, HB3.out⟩
                rcases Nat.lt_or_ge j i with q | q
                · exact HA2.out j q
                · obtain rfl : j = i := by omega
                  exact HROW.out
              case measure => simp [intOf]; omega
        · have hie : i = N := by omega
          have hin : ¬ (i : Int) < (N : Int) := by omega
          have HE := Lib.hid (show R = decide (0 < N) by rw [HRR.out]; exact apoB_all HPL.out HALL.out (fun j hj => HA2.out j (by omega)))
          clear hie hlti
          go_wp2_with fail
          go_ret
          rw [HE.out]
          exact ⟨rfl, HB2.out⟩

end Go.Proofs.Ytcglncepmieaaaa

namespace Go.Proofs.Ytcglncepmieaaaa
open Go.RowKit Go.Deep Go.ChangeShapes Go.WideShapes
open Hunt Srch From Moved

theorem row_code {n : Nat} {ps : List (List Int)} (hn : n ≤ 10) : ∀ (k j : Nat), j < k → (∀ i, i < k → rowB n ps i = true) → ∃ p q : Nat, p < 10 ∧ q < 10 ∧ ps.getD j [] = [((p : Nat) : Int), ((q : Nat) : Int)] ∧ j ≤ 10 * p + q
  | 0, j, hj, _ => absurd hj (Nat.not_lt_zero _)
  | k + 1, j, hj, h => by
    have hr := h j hj
    simp only [rowB, Bool.and_eq_true, Bool.or_eq_true, decide_eq_true_eq] at hr
    obtain ⟨⟨h1, h2⟩, h3⟩ := hr
    obtain ⟨p, q, hpq, hq, hl⟩ := two_set h1 h2
    refine ⟨p, q, by omega, by omega, hl, ?_⟩
    rcases h3 with h3 | h3
    · omega
    · rcases Nat.eq_zero_or_pos j with hz | hz
      · omega
      · obtain ⟨p', q', h4, h5, h6, h7⟩ := row_code hn k (j - 1) (by omega) (fun i hi => h i (by omega))
        rw [hl, h6, befB_two] at h3
        simp only [Bool.or_eq_true, Bool.and_eq_true, decide_eq_true_eq] at h3
        omega
/-- There are not many rows that are right. -/
theorem rows_few {n : Nat} {ps : List (List Int)} (hn : n ≤ 10) (k : Nat) (h : ∀ i, i < k → rowB n ps i = true) : k ≤ 100 := by
  rcases Nat.eq_zero_or_pos k with hz | hz
  · omega
  · obtain ⟨p, q, h1, h2, _, h3⟩ := row_code hn k (k - 1) (by omega) h
    omega

set_option maxRecDepth 100000 in
set_option maxHeartbeats 8000000 in
theorem apartHolds_any (Pd A : Option Addr) (N c n m cap : Nat) (ps xss : List (List Int)) (w : World) (hg : Good n m xss) (hR : RowsAt w A m xss) (hP : RowsAt w Pd N ps) (hN : N ≤ 4611686018427387904)
    (hrows : ∀ (r : Nat) (xs : List Int), ps[r]? = some xs → xs.length ≤ 4611686018427387904) :
    Calls Try.prog 169 #[.slice Pd N c, .agg #[.int .i64 (n : Int), .slice A m cap]] w fun e w' => e = .returned (.bool (apoB n m xss ps)) ∧ Below w.heap.size w w' := by
  obtain ⟨iS0, iS1, iS2, iS3, iS4⟩ := info_parts info_set
  have hn10 := hg.n10
  have hn1 := hg.n1
  have hm3 := hg.m3
  obtain ⟨w0, hw0⟩ : ∃ w0, w0 = w.alloc (.cells #[.int .i64 (n : Int), .slice A m cap] 28) := ⟨_, rfl⟩
  have b0 : Below w.heap.size w w0 := by rw [hw0]; exact (Below.refl _ _).alloc (Nat.le_refl _) _
  have HBX := Lib.hid (show Box w0 w.heap.size [.int .i64 (n : Int), .slice A m cap] by rw [hw0]; exact Box.new _ _ _)
  have HX := Lib.hid (hR.below b0)
  have HV := Lib.hid (hP.below b0)
  have HB0 := Lib.hid b0
  have HW := Lib.hid hw0
  have HG := Lib.hid hg
  have HR := Lib.hid hrows
  have HPL := Lib.hid hP.1
  obtain ⟨R, hRR⟩ : ∃ R, R = apoB n m xss ps := ⟨_, rfl⟩
  rw [← hRR]
  have HRR := Lib.hid hRR
  clear hR hP hg hrows hRR b0 hw0
  go_enter Try.func169, Try.ntmps169
  go_wp2_with fail
  rw [← HW.out]
  go_loopw [5, 14] (fun ov iv wr => ∃ (k : Nat) (Y : List Nat), k ≤ N ∧ iv = .int .i64 k ∧ Y = (ps.take k).map setN ∧ Y.length = k ∧ (∀ j, j < k → rowB n ps j = true) ∧ wr.ownsRow w0.heap.size 74 1 ov Y.length (Y.map bitU) ∧ Below w0.heap.size w0 wr) (fun _ iv _ => N - (intOf iv).toNat)
  case atStart => exact ⟨0, [], Nat.zero_le _, rfl, rfl, rfl, fun j hj => by omega, own2_nil _ _ _ _, Below.refl _ _⟩
  case round =>
    obtain ⟨k, Y, hk, rfl, hY, hYl, hall, hown, hbel⟩ := hrel
    obtain ⟨A3, C3, rfl⟩ := own2_form hown
    have HO := Lib.hid hown
    have HB := Lib.hid hbel
    have HY := Lib.hid hY
    have HYL := Lib.hid hYl
    have HA := Lib.hid hall
    have hk0 : (0 : Int) ≤ (k : Int) := by omega
    clear hall hbel hown hY
    by_cases hlt : k < N
    · have hkn : (k : Int) < (N : Int) := by omega
      have HVR := Lib.hid (HV.out.below HB.out)
      obtain ⟨xs, bP, oP, A', c', hxs, rfl, hcw, hnum⟩ := HVR.out.at_ hlt
      have hxl := HR.out k xs hxs
      have HGD := Lib.hid (row_of_at hxs)
      have q0 := (Box.below HBX.out HB.out) 0 _ rfl
      have HKL := Lib.hid (show k < ps.length by rw [HPL.out]; exact hlt)
      have hYm : Y.length ≤ 100 := by rw [hYl]; exact rows_few hn10 k HA.out
      have HTK := Lib.hid (show (ps.take (k + 1)).map setN = Y ++ [setN xs] by rw [take_snoc hxs, List.map_append, HY.out]; rfl)
      clear hxs hYl
      by_cases h2 : xs.length = 2
      · obtain ⟨x, y, rfl⟩ := two_of_len h2
        simp only [List.length_cons, List.length_nil] at hcw hnum hxl
        have HNM := Lib.hid hnum
        have HQ1 := Lib.hid (isSet_any (n : Int) A' 2 c' [x, y] wr HNM.out (by omega))
        clear hnum h2 hxl
        rcases hs : setB (n : Int) [x, y] with _ | _
        · have HF1 := Lib.hid (show R = false by
            rw [HRR.out]; refine apoB_row HKL.out ?_
            unfold rowB
            rw [HGD.out, hs, Bool.and_false, Bool.false_and])
          rw [hs] at HQ1
          clear hs
          go_wp2_with fail
          refine HQ1.out.mono ?_
          rintro e w' ⟨rfl, rfl⟩
          go_wp2_with fail
          go_ret
          rw [HF1.out]
          exact ⟨rfl, below_then HB0.out HB.out⟩
        · rw [hs] at HQ1
          have HS := Lib.hid hs
          have HM10 := Lib.hid (show ∀ z ∈ [x, y], 0 ≤ z ∧ z < 10 from fun z hz => by have := setB_mem hs z hz; omega)
          clear hs
          rcases Nat.eq_zero_or_pos k with hz | hpos
          · have HT := Lib.hid (show rowB n ps k = true by unfold rowB; rw [HGD.out, HS.out, decide_eq_true hz]; rfl)
            have HZ := Lib.hid hz
            have hg0 : decide ((0 : Int) < (k : Int)) = false := decide_eq_false (by omega)
            have hk1 : ¬ 0 < k := by omega
            have hk2 : ¬ (0 : Int) < (k : Int) := by omega
            clear hz
            go_wp2_with fail
            refine HQ1.out.mono ?_
            rintro e w' ⟨rfl, rfl⟩
            go_wp2_with fail
            refine (setOf_any A' 2 c' [x, y] wr HNM.out HM10.out (by omega)).mono ?_
            obtain ⟨b, hb⟩ : ∃ b, b = setN [x, y] := ⟨_, rfl⟩
            rw [← hb] at HTK ⊢
            rintro e w' ⟨rfl, rfl⟩
            clear hb
            go_wp2_with (at_builtin; refine wpList_append_own _ rfl _ _ 81 rfl (w0.heap.size) 74 iS0 (.int .u16 0) 1 2 Try.underlying81 iS1 iS2 iS3 iS4 rfl (by decide) _ _ _ rfl (World.ownsRow.alloc (HO.out) _) ⟨(wr).heap.size, 0, none⟩ 1 1 [.int .u16 (b : Int)] rfl rfl (cell_one_new _ _ _) (ones_bitU [b]) (by unfold maxLen; omega) (by omega) (by rw [World.size_alloc]; exact Nat.le_succ_of_le (HB.out.size)) ?_)
            intro v' w4 hown' hgrow _
            have ba : Below wr.heap.size wr (wr.alloc (.cells #[.int .u16 (b : Int)] 74)) := (Below.refl _ _).alloc (Nat.le_refl _) _
            have HB4 := Lib.hid (below_grown (below_then HB.out ba) hgrow (fun g hg => (HO.out.lt g hg).1))
            have HO4 := Lib.hid hown'
            clear hown' hgrow ba hYm
            go_wp2_with fail
            go_roundw
            case rel =>
              refine ⟨k + 1, Y ++ [b], by omega, by go_num, HTK.out.symm, by rw [List.length_append, HYL.out]; rfl, fun j hj => ?_, by rw [List.length_append, List.map_append]; exact HO4.out, HB4.out⟩
              have hz := HZ.out
              obtain rfl : j = k := by omega
              exact HT.out
            case measure => simp [intOf]; omega
          · obtain ⟨us, bP', oP', A9, c9, hus, he9, hcu, hnu⟩ := HVR.out.at_ (show k - 1 < N by omega)
            obtain ⟨rfl, rfl⟩ : bP = bP' ∧ oP = oP' := by simpa using he9
            have hprev := HA.out (k - 1) (by omega)
            have hul : us.length = 2 := by
              simp only [rowB, Bool.and_eq_true, decide_eq_true_eq] at hprev
              rw [row_of_at hus] at hprev
              exact hprev.1.1
            obtain ⟨x9, y9, rfl⟩ := two_of_len hul
            simp only [List.length_cons, List.length_nil] at hcu hnu
            have HN9 := Lib.hid hnu
            have HQ2 := Lib.hid (slCompare_any A9 A' c9 c' x9 y9 x y wr HN9.out HNM.out)
            have HROW := Lib.hid (show rowB n ps k = befB [x9, y9] [x, y] by
              unfold rowB
              rw [HGD.out, HS.out, row_of_at hus, decide_eq_false (show ¬ k = 0 by omega)]
              simp)
            have hg0 : decide ((0 : Int) < (k : Int)) = true := decide_eq_true (by omega)
            have hkp : (0 : Int) < (k : Int) := by omega
            have hwr : IntKind.i64.wrap ((k : Int) - 1) = (k : Int) - 1 := IntWalk.i64_in _ (by omega)
            have hto : ((k : Int) - 1).toNat = k - 1 := by omega
            have j1 : (0 : Int) ≤ (k : Int) - 1 := by omega
            have j2 : (k : Int) - 1 < (N : Int) := by omega
            clear hnu hprev hul he9 hus
            rcases hbf : befB [x9, y9] [x, y] with _ | _
            · rw [hbf] at HQ2
              have HF1 := Lib.hid (show R = false by rw [HRR.out]; exact apoB_row HKL.out (by rw [HROW.out, hbf]))
              clear hbf
              go_wp2_with fail
              refine HQ1.out.mono ?_
              rintro e w' ⟨rfl, rfl⟩
              go_wp2_with fail
              refine HQ2.out.mono ?_
              rintro e w' ⟨⟨v, rfl, hv⟩, rfl⟩
              have hv0 : 0 ≤ v := by simpa using hv
              clear hv
              go_wp2_with fail
              go_ret
              rw [HF1.out]
              exact ⟨rfl, below_then HB0.out HB.out⟩
            · rw [hbf] at HQ2
              have HT := Lib.hid (show rowB n ps k = true by rw [HROW.out, hbf])
              clear hbf
              go_wp2_with fail
              refine HQ1.out.mono ?_
              rintro e w' ⟨rfl, rfl⟩
              go_wp2_with fail
              refine HQ2.out.mono ?_
              rintro e w' ⟨⟨v, rfl, hv⟩, rfl⟩
              have hv0 : ¬ 0 ≤ v := by simpa using hv
              clear hv
              go_wp2_with fail
              refine (setOf_any A' 2 c' [x, y] wr HNM.out HM10.out (by omega)).mono ?_
              obtain ⟨b, hb⟩ : ∃ b, b = setN [x, y] := ⟨_, rfl⟩
              rw [← hb] at HTK ⊢
              rintro e w' ⟨rfl, rfl⟩
              clear hb
              go_wp2_with (at_builtin; refine wpList_append_own _ rfl _ _ 81 rfl (w0.heap.size) 74 iS0 (.int .u16 0) 1 2 Try.underlying81 iS1 iS2 iS3 iS4 rfl (by decide) _ _ _ rfl (World.ownsRow.alloc (HO.out) _) ⟨(wr).heap.size, 0, none⟩ 1 1 [.int .u16 (b : Int)] rfl rfl (cell_one_new _ _ _) (ones_bitU [b]) (by unfold maxLen; omega) (by omega) (by rw [World.size_alloc]; exact Nat.le_succ_of_le (HB.out.size)) ?_)
              intro v' w4 hown' hgrow _
              have ba : Below wr.heap.size wr (wr.alloc (.cells #[.int .u16 (b : Int)] 74)) := (Below.refl _ _).alloc (Nat.le_refl _) _
              have HB4 := Lib.hid (below_grown (below_then HB.out ba) hgrow (fun g hg => (HO.out.lt g hg).1))
              have HO4 := Lib.hid hown'
              clear hown' hgrow ba hYm
              go_wp2_with fail
              go_roundw
              case rel =>
                refine ⟨k + 1, Y ++ [b], by omega, by go_num, HTK.out.symm, by rw [List.length_append, HYL.out]; rfl, fun j hj => ?_, by rw [List.length_append, List.map_append]; exact HO4.out, HB4.out⟩
                rcases Nat.lt_or_ge j k with a | a
                · exact HA.out j a
                · obtain rfl : j = k := by omega
                  exact HT.out
              case measure => simp [intOf]; omega
      · have HF1 := Lib.hid (show R = false by
          rw [HRR.out]; refine apoB_row HKL.out ?_
          unfold rowB
          rw [HGD.out, decide_eq_false h2, Bool.false_and, Bool.false_and])
        obtain ⟨l, hl⟩ : ∃ l, l = xs.length := ⟨_, rfl⟩
        rw [← hl] at hcw h2
        have hd0 : ((l : Int) == 2) = false := by rw [beq_eq_false_iff_ne]; omega
        have hd1 : ((l : Int) != 2) = true := by rw [bne_iff_ne]; omega
        have hd2 : decide ((l : Int) = 2) = false := decide_eq_false (by omega)
        clear hl hnum h2 hxl
        go_wp2_with fail
        go_ret
        rw [HF1.out]
        exact ⟨rfl, below_then HB0.out HB.out⟩
    · have hke : k = N := by omega
      have hkn : ¬ (k : Int) < (N : Int) := by omega
      have HALL := Lib.hid (show ∀ j, j < N → rowB n ps j = true from fun j hj => HA.out j (by omega))
      have HYA := Lib.hid (show Y = ps.map setN by rw [HY.out, hke, ← HPL.out, List.take_length])
      have hyn : Y.length = N := by omega
      obtain ⟨w1, hw1⟩ : ∃ w1, w1 = wr := ⟨_, rfl⟩
      rw [← hw1] at HB HO ⊢
      have hO1 := HO.out
      rw [hyn] at hO1 ⊢
      have HS1 := Lib.hid (show SetsAt w1 A3 N Y by
        rcases hO1.2 with ⟨hv0, h0⟩ | ⟨g, cap', cur, hv0, hg, hh, hnc, hcap, hsz, htake⟩
        · have hq : Y = [] := List.eq_nil_of_length_eq_zero (by omega)
          refine ⟨hyn, fun k b hb => ?_⟩
          rw [hq] at hb; simp at hb
        · simp only [Value.slice.injEq] at hv0
          obtain ⟨rfl, _, rfl⟩ := hv0
          exact SetsAt.own hO1 hyn)
      have HSZ := Lib.hid (show w0.heap.size ≤ w1.heap.size from HB.out.size)
      have HB1 := Lib.hid (below_then HB0.out HB.out)
      have HX1 := Lib.hid (HX.out.below HB.out)
      have HV1 := Lib.hid (HV.out.below HB.out)
      have HBX1 := Lib.hid (Box.below HBX.out HB.out)
      clear hke hlt hw1 hYl hyn hO1 HO
      go_wp2_with fail
      go_loopw [51] (fun iv wr => ∃ k : Nat, k ≤ N ∧ iv = .int .i64 k ∧ (∀ j, j < k → ∀ x, x < m → inAt xss ps j x = true) ∧ Below w1.heap.size w1 wr) (fun iv _ => N - (intOf iv).toNat)
      case atStart => exact ⟨0, Nat.zero_le _, rfl, fun j hj => by omega, Below.refl _ _⟩
      case round =>
        obtain ⟨i, hi, rfl, hin, hbel⟩ := hrel
        have HA2 := Lib.hid hin
        have HB2 := Lib.hid hbel
        have hi0 : (0 : Int) ≤ (i : Int) := by omega
        clear hin hbel
        by_cases hlti : i < N
        · have hin : (i : Int) < (N : Int) := by omega
          obtain ⟨xs, hxs⟩ : ∃ xs, ps[i]? = some xs := ⟨_, List.getElem?_eq_getElem (by rw [HPL.out]; exact hlti)⟩
          have hYi : Y[i]? = some (setN xs) := by rw [HYA.out, List.getElem?_map, hxs]; rfl
          obtain ⟨g, off, rfl, hc⟩ := (HS1.out.below HB2.out).2 i _ hYi
          have hrow := HALL.out i hlti
          simp only [rowB, Bool.and_eq_true, decide_eq_true_eq] at hrow
          have HGD := Lib.hid (row_of_at hxs)
          rw [HGD.out] at hrow
          obtain ⟨p, q, hpq, hqn, hl⟩ := two_set hrow.1.1 hrow.1.2
          have hb10 : setN xs < 1024 := by rw [hl, setN_pair]; exact pair_lt p (by omega) q (by omega)
          have HIB := Lib.hid (fun x (hx : x < m) => in_bits (x := x) HG.out hx (show i < ps.length by rw [HPL.out]; exact hlti) (fun j hj => HALL.out j (by rw [← HPL.out]; exact hj)))
          rw [HGD.out] at HIB
          obtain ⟨b, hb⟩ : ∃ b, b = setN xs := ⟨_, rfl⟩
          rw [← hb] at hc hb10 HIB
          rw [← HYA.out] at HIB
          have q1 := (Box.below HBX1.out HB2.out) 1 _ rfl
          clear hxs hYi hrow hl hb
          go_wp2_with fail
          clear q1 hc
          go_loopw [58] (fun xv wr => ∃ x : Nat, x ≤ m ∧ xv = .int .i64 x ∧ (∀ z, z < x → inAt xss ps i z = true) ∧ Below w1.heap.size w1 wr) (fun xv _ => m - (intOf xv).toNat)
          case atStart => exact ⟨0, Nat.zero_le _, rfl, fun j hj => by omega, HB2.out⟩
          case round =>
            obtain ⟨x, hx, rfl, hdone, hbel⟩ := hrel
            have HA3 := Lib.hid hdone
            have HB3 := Lib.hid hbel
            have hx0 : (0 : Int) ≤ (x : Int) := by omega
            clear hdone hbel
            by_cases hltx : x < m
            · have hxm : (x : Int) < (m : Int) := by omega
              obtain ⟨row, bA, oA, A2, c2, hrw, rfl, hcA, hnA⟩ := (HX1.out.below HB3.out).at_ hltx
              have hrl : row.length = n := (HG.out.rows x row hrw).1
              have hrr : ∀ y ∈ row, 0 ≤ y ∧ y < 10 := fun y hy => by have := (HG.out.rows x row hrw).2 y hy; omega
              have HRR2 := Lib.hid hrr
              rw [hrl] at hcA hnA
              have HNA := Lib.hid hnA
              have HIX := Lib.hid (HIB.out x hltx)
              rw [show xss.getD x [] = row from row_of_at hrw] at HIX
              have hD10 : aftB b row n < 1024 := aftB_lt n (fun j hj => by
                rcases Nat.lt_or_ge j row.length with a | a
                · have := hrr (row.getD j 0) (by rw [List.getD_eq_getElem?_getD, List.getElem?_eq_getElem a]; exact List.getElem_mem a)
                  omega
                · rw [List.getD_eq_getElem?_getD, List.getElem?_eq_none a]; simp)
              obtain ⟨D, hD⟩ : ∃ D, D = aftB b row n := ⟨_, rfl⟩
              rw [← hD] at HIX hD10
              have HDD := Lib.hid hD
              have HSR := Lib.hid (HS1.out.below HB3.out)
              have HCN := Lib.hid (slContainsU_any _ N C3 D Y wr HSR.out (by omega))
              rw [HIX.out] at HCN
              clear hrw hrl hrr hnA hD
              go_wp2_with fail
              refine (after_any A2 n c2 b row wr hb10 HNA.out hn10 HRR2.out).mono ?_
              rw [← HDD.out]
              rintro e w' ⟨rfl, rfl⟩
              rcases hok : inAt xss ps i x with _ | _
              · rw [hok] at HCN
                have HF1 := Lib.hid (show R = false by rw [HRR.out]; exact apoB_in (by rw [HPL.out]; exact hlti) hltx hok)
                clear hok
                go_wp2_with fail
                refine HCN.out.mono ?_
                rintro e w' ⟨rfl, rfl⟩
                go_wp2_with fail
                go_ret
                rw [HF1.out]
                exact ⟨rfl, below_then HB1.out HB3.out⟩
              · rw [hok] at HCN
                have HT := Lib.hid hok
                clear hok
                go_wp2_with fail
                refine HCN.out.mono ?_
                rintro e w' ⟨rfl, rfl⟩
                go_wp2_with fail
                go_roundw
                case rel =>
                  refine ⟨x + 1, by omega, by go_num, fun z hz => ?_, HB3.out⟩
                  rcases Nat.lt_or_ge z x with a | a
                  · exact HA3.out z a
                  · obtain rfl : z = x := by omega
                    exact HT.out
                case measure => simp [intOf]; omega
            · have hxe : x = m := by omega
              have hxm : ¬ (x : Int) < (m : Int) := by omega
              have HROW := Lib.hid (show ∀ z, z < m → inAt xss ps i z = true from fun z hz => HA3.out z (by omega))
              clear hxe hltx
              go_wp2_with fail
              go_roundw
              case rel =>
                refine ⟨i + 1, by omega, by go_num, fun j hj => ?_, HB3.out⟩
                rcases Nat.lt_or_ge j i with a | a
                · exact HA2.out j a
                · obtain rfl : j = i := by omega
                  exact HROW.out
              case measure => simp [intOf]; omega
        · have hie : i = N := by omega
          have hin : ¬ (i : Int) < (N : Int) := by omega
          have HE := Lib.hid (show R = decide (0 < N) by rw [HRR.out]; exact apoB_all HPL.out HALL.out (fun j hj => HA2.out j (by omega)))
          clear hie hlti
          go_wp2_with fail
          go_ret
          rw [HE.out]
          exact ⟨rfl, below_then HB1.out HB2.out⟩

end Go.Proofs.Ytcglncepmieaaaa

namespace Go.Proofs.Ytcglncepmieaaaa
open Go.RowKit Go.Deep Go.ChangeShapes Go.WideShapes
open Hunt Srch From Moved

set_option maxRecDepth 100000 in
set_option maxHeartbeats 4000000 in
theorem l02Right_any (p0 pc : Nat) (A Pd Wd : Option Addr) (n m cap N c M d : Nat) (k : Int) (xss ps ws : List (List Int)) (w : World) (hg : Good n m xss) (hR : RowsAt w A m xss) (hb : Box w p0 [.int .i64 (n : Int), .slice A m cap])
    (hc : Box w pc [.int .i64 k, .slice Pd N c, .slice Wd M d]) (hP : RowsAt w Pd N ps) (hN : N ≤ 4611686018427387904) (hpr : ∀ (r : Nat) (xs : List Int), ps[r]? = some xs → xs.length ≤ 4611686018427387904)
    (hW : RowsAt w Wd M ws) (hM : M ≤ 4611686018427387904) (hwr : ∀ (r : Nat) (xs : List Int), ws[r]? = some xs → xs.length ≤ 4611686018427387904) :
    Calls Try.prog 73 #[.pointer (some ⟨p0, 0, none⟩), .pointer (some ⟨pc, 0, none⟩)] w fun e w' => e = .returned (.bool (rightB n m xss k ps ws)) ∧ Below w.heap.size w w' := by
  have c0 := hc 0 _ rfl
  have c1 := hc 1 _ rfl
  have c2 := hc 2 _ rfl
  have HPL := Lib.hid hP.1
  have HWL := Lib.hid hW.1
  have HA := Lib.hid (l02Apart_any p0 Pd A N c n m cap ps xss w hg hR hb hP hN hpr)
  have HMm := Lib.hid (l02Merges_any p0 Wd A M d n m cap ws xss w hg hR hb hW hM hwr)
  obtain ⟨R, hRR⟩ : ∃ R, R = rightB n m xss k ps ws := ⟨_, rfl⟩
  rw [← hRR]
  unfold rightB at hRR
  rw [HPL.out, HWL.out] at hRR
  have HRR := Lib.hid hRR
  clear hRR hg hR hb hc hP hpr hW hwr
  by_cases h1 : k = 1
  · subst h1
    by_cases hz : N = 0
    · subst hz
      have HE := Lib.hid (show R = mgB n m xss ws by rw [HRR.out, if_pos rfl, decide_eq_true rfl, Bool.true_and])
      obtain ⟨D, hD⟩ : ∃ D, D = mgB n m xss ws := ⟨_, rfl⟩
      rw [← hD] at HMm HE
      clear hD
      go_enter Try.func73, Try.ntmps73
      go_wp2_with fail
      refine HMm.out.mono ?_
      rintro e w' ⟨rfl, b⟩
      go_wp2_with fail
      go_ret
      rw [HE.out]
      exact ⟨rfl, b⟩
    · have HE := Lib.hid (show R = false by rw [HRR.out, if_pos rfl, decide_eq_false hz, Bool.false_and])
      have hz1 : ((N : Int) == 0) = false := by rw [beq_eq_false_iff_ne]; omega
      have hz2 : ¬ (N : Int) = 0 := by omega
      go_enter Try.func73, Try.ntmps73
      go_wp2_with fail
      go_ret
      rw [HE.out]
      exact ⟨rfl, Below.refl _ _⟩
  · have hk1 : (k == 1) = false := by rw [beq_eq_false_iff_ne]; exact h1
    by_cases h2 : k = 2
    · subst h2
      by_cases hz : M = 0
      · subst hz
        have HE := Lib.hid (show R = apoB n m xss ps by rw [HRR.out, if_neg (by decide), if_pos rfl, decide_eq_true rfl, Bool.true_and])
        obtain ⟨D, hD⟩ : ∃ D, D = apoB n m xss ps := ⟨_, rfl⟩
        rw [← hD] at HA HE
        clear hD hk1 h1
        go_enter Try.func73, Try.ntmps73
        go_wp2_with fail
        refine HA.out.mono ?_
        rintro e w' ⟨rfl, b⟩
        go_wp2_with fail
        go_ret
        rw [HE.out]
        exact ⟨rfl, b⟩
      · have HE := Lib.hid (show R = false by rw [HRR.out, if_neg (by decide), if_pos rfl, decide_eq_false hz, Bool.false_and])
        have hz1 : ((M : Int) == 0) = false := by rw [beq_eq_false_iff_ne]; omega
        have hz2 : ¬ (M : Int) = 0 := by omega
        clear hk1 h1
        go_enter Try.func73, Try.ntmps73
        go_wp2_with fail
        go_ret
        rw [HE.out]
        exact ⟨rfl, Below.refl _ _⟩
    · have hk2 : (k == 2) = false := by rw [beq_eq_false_iff_ne]; exact h2
      have HE := Lib.hid (show R = false by rw [HRR.out, if_neg h1, if_neg h2])
      go_enter Try.func73, Try.ntmps73
      go_wp2_with fail
      go_ret
      rw [HE.out]
      exact ⟨rfl, Below.refl _ _⟩

set_option maxRecDepth 100000 in
set_option maxHeartbeats 4000000 in
theorem specCheckCertificate_any (s : Int) (A : Option Addr) (m cap : Nat) (xss : List (List Int)) (k : Int) (Pd : Option Addr) (N c : Nat) (ps : List (List Int)) (Wd : Option Addr) (M d : Nat) (ws : List (List Int)) (w : World) (h : RowsAt w A m xss) (hm : m ≤ 4611686018427387904)
    (hrows : ∀ (r : Nat) (xs : List Int), xss[r]? = some xs → xs.length ≤ 4611686018427387904) (hP : RowsAt w Pd N ps) (hN : N ≤ 4611686018427387904) (hpr : ∀ (r : Nat) (xs : List Int), ps[r]? = some xs → xs.length ≤ 4611686018427387904)
    (hW : RowsAt w Wd M ws) (hM : M ≤ 4611686018427387904) (hwr : ∀ (r : Nat) (xs : List Int), ws[r]? = some xs → xs.length ≤ 4611686018427387904) :
    Calls Try.prog 35 #[.agg #[.int .i64 s, .slice A m cap], .agg #[.int .i64 k, .slice Pd N c, .slice Wd M d]] w fun e w' => e = .returned (.tuple #[.bool (checkCertificate s xss k ps ws).1, .int .i64 (checkCertificate s xss k ps ws).2]) ∧ Below w.heap.size w w' := by
  have HR := Lib.hid hrows
  have HM := Lib.hid h.1
  obtain ⟨W2, hW2⟩ : ∃ W2, W2 = (w.alloc (.cells #[.int .i64 s, .slice A m cap] 28)).alloc (.cells #[.int .i64 k, .slice Pd N c, .slice Wd M d] 41) := ⟨_, rfl⟩
  have b2 : Below w.heap.size w W2 := by rw [hW2]; go_grown
  have B2 := Lib.hid b2
  have HB2 := Lib.hid (show Box W2 w.heap.size [.int .i64 s, .slice A m cap] by rw [hW2]; exact Box.below (Box.new w _ _) ((Below.refl _ _).alloc (Nat.le_refl _) _))
  have HC2 := Lib.hid (show Box W2 (w.heap.size + 1) [.int .i64 k, .slice Pd N c, .slice Wd M d] by
    have h9 := Box.new (w.alloc (.cells #[.int .i64 s, .slice A m cap] 28)) #[.int .i64 k, .slice Pd N c, .slice Wd M d] 41
    rw [World.size_alloc, ← hW2] at h9
    exact h9)
  have HX2 := Lib.hid (h.below b2)
  have HP2 := Lib.hid (hP.below b2)
  have HV2 := Lib.hid (hW.below b2)
  have HW2 := Lib.hid hW2
  have HPR := Lib.hid hpr
  have HWR := Lib.hid hwr
  clear hrows b2 hW2 h hP hW hpr hwr
  go_enter Try.func35, Try.ntmps35
  go_wp2_with fail
  rw [← HW2.out]
  refine (l01Ok_any w.heap.size s A m cap xss W2 (HB2.out 0 _ rfl) (HB2.out 1 _ rfl) HX2.out hm HR.out).mono ?_
  rintro e w1 ⟨rfl, d9, hd⟩
  have b1 : Below W2.heap.size W2 w1 := by rw [hd]; exact below_drewN' (Below.refl _ _) _
  have B1 := Lib.hid (below_then B2.out b1)
  have HX1 := Lib.hid (HX2.out.below b1)
  have HP1 := Lib.hid (HP2.out.below b1)
  have HV1 := Lib.hid (HV2.out.below b1)
  have HB1 := Lib.hid (Box.below HB2.out b1)
  have HC1 := Lib.hid (Box.below HC2.out b1)
  clear b1 hd
  rcases hok : okA s xss with _ | _
  · have HF := Lib.hid (checkCertificate_1 (k := k) (ps := ps) (ws := ws) hok)
    go_wp2_with fail
    go_ret2
    rw [HF.out]
    exact ⟨rfl, B1.out⟩
  · obtain ⟨n, hsn, hg⟩ := good_of hok HM.out
    subst hsn
    have HF := Lib.hid (checkCertificate_0 (k := k) (ps := ps) (ws := ws) hok HM.out)
    clear hok
    go_wp2_with fail
    refine (l02Right_any w.heap.size (w.heap.size + 1) A Pd Wd n m cap N c M d k xss ps ws w1 hg HX1.out HB1.out HC1.out HP1.out hN HPR.out HV1.out hM HWR.out).mono ?_
    rintro e w3 ⟨rfl, b3⟩
    have B3 := Lib.hid (below_then B1.out b3)
    clear b3
    go_wp2_with fail
    go_ret2
    rw [HF.out]
    exact ⟨rfl, B3.out⟩

/-- What a certificate tells. -/
def claimV (k : Int) (ps ws : List (List Int)) (P W : Value) : Value × Bool := if k = 1 ∧ ps.length = 0 then (.iface 105 W, true) else if k = 2 ∧ ws.length = 0 then (.iface 150 P, true) else (.nilIface, false)

set_option maxRecDepth 100000 in
set_option maxHeartbeats 4000000 in
theorem claimOf_any (k : Int) (Pd Wd : Option Addr) (N c M d : Nat) (ps ws : List (List Int)) (w : World) (hN : ps.length = N) (hM : ws.length = M) :
    Calls Try.prog 74 #[.agg #[.int .i64 k, .slice Pd N c, .slice Wd M d]] w fun e w' => e = .returned (.tuple #[(claimV k ps ws (.slice Pd N c) (.slice Wd M d)).1, .bool (claimV k ps ws (.slice Pd N c) (.slice Wd M d)).2]) ∧ Below w.heap.size w w' := by
  obtain ⟨R, hRR⟩ : ∃ R, R = claimV k ps ws (.slice Pd N c) (.slice Wd M d) := ⟨_, rfl⟩
  rw [← hRR]
  unfold claimV at hRR
  rw [hN, hM] at hRR
  have HRR := Lib.hid hRR
  have b1 : Below w.heap.size w (w.alloc (.cells #[.int .i64 k, .slice Pd N c, .slice Wd M d] 41)) := (Below.refl _ _).alloc (Nat.le_refl _) _
  have HB := Lib.hid b1
  clear hRR b1
  by_cases h1 : k = 1
  · subst h1
    by_cases hz : N = 0
    · subst hz
      have HE := Lib.hid (show R = (.iface 105 (.slice Wd M d), true) by rw [HRR.out, if_pos ⟨rfl, rfl⟩])
      go_enter Try.func74, Try.ntmps74
      go_wp2_with fail
      go_ret2
      rw [HE.out]
      exact ⟨rfl, HB.out⟩
    · have HE := Lib.hid (show R = (.nilIface, false) by rw [HRR.out, if_neg (fun h => hz h.2), if_neg (fun h => absurd h.1 (by decide))])
      have hz1 : ((N : Int) == 0) = false := by rw [beq_eq_false_iff_ne]; omega
      have hz2 : ¬ (N : Int) = 0 := by omega
      go_enter Try.func74, Try.ntmps74
      go_wp2_with fail
      go_ret2
      rw [HE.out]
      exact ⟨rfl, HB.out⟩
  · have hk1 : (k == 1) = false := by rw [beq_eq_false_iff_ne]; exact h1
    by_cases h2 : k = 2
    · subst h2
      clear hk1
      by_cases hz : M = 0
      · subst hz
        have HE := Lib.hid (show R = (.iface 150 (.slice Pd N c), true) by rw [HRR.out, if_neg (fun h => absurd h.1 (by decide)), if_pos ⟨rfl, rfl⟩])
        clear h1
        go_enter Try.func74, Try.ntmps74
        go_wp2_with fail
        go_ret2
        rw [HE.out]
        exact ⟨rfl, HB.out⟩
      · have HE := Lib.hid (show R = (.nilIface, false) by rw [HRR.out, if_neg (fun h => absurd h.1 (by decide)), if_neg (fun h => hz h.2)])
        have hz1 : ((M : Int) == 0) = false := by rw [beq_eq_false_iff_ne]; omega
        have hz2 : ¬ (M : Int) = 0 := by omega
        clear h1
        go_enter Try.func74, Try.ntmps74
        go_wp2_with fail
        go_ret2
        rw [HE.out]
        exact ⟨rfl, HB.out⟩
    · have hk2 : (k == 2) = false := by rw [beq_eq_false_iff_ne]; exact h2
      have HE := Lib.hid (show R = (.nilIface, false) by rw [HRR.out, if_neg (fun h => h1 h.1), if_neg (fun h => h2 h.1)])
      go_enter Try.func74, Try.ntmps74
      go_wp2_with fail
      go_ret2
      rw [HE.out]
      exact ⟨rfl, HB.out⟩

end Go.Proofs.Ytcglncepmieaaaa

namespace Go.Proofs.Ytcglncepmieaaaa
open Go.RowKit Go.Deep Go.ChangeShapes Go.WideShapes
open Hunt Srch From Moved

theorem claimV_1 {k : Int} {ps ws : List (List Int)} {P W : Value} (h : k = 1 ∧ ps.length = 0) : claimV k ps ws P W = (.iface 105 W, true) := by unfold claimV; rw [if_pos h]
theorem claimV_2 {k : Int} {ps ws : List (List Int)} {P W : Value} (h1 : ¬ (k = 1 ∧ ps.length = 0)) (h : k = 2 ∧ ws.length = 0) : claimV k ps ws P W = (.iface 150 P, true) := by unfold claimV; rw [if_neg h1, if_pos h]
theorem claimV_0 {k : Int} {ps ws : List (List Int)} {P W : Value} (h1 : ¬ (k = 1 ∧ ps.length = 0)) (h : ¬ (k = 2 ∧ ws.length = 0)) : claimV k ps ws P W = (.nilIface, false) := by unfold claimV; rw [if_neg h1, if_neg h]
theorem rightB_1 {n m : Nat} {xss ps ws : List (List Int)} {k : Int} (h : k = 1 ∧ ps.length = 0) : rightB n m xss k ps ws = mgB n m xss ws := by unfold rightB; rw [if_pos h.1, decide_eq_true h.2, Bool.true_and]
theorem rightB_2 {n m : Nat} {xss ps ws : List (List Int)} {k : Int} (h : k = 2 ∧ ws.length = 0) : rightB n m xss k ps ws = apoB n m xss ps := by unfold rightB; rw [if_neg (by rw [h.1]; decide), if_pos h.1, decide_eq_true h.2, Bool.true_and]
theorem rightB_0 {n m : Nat} {xss ps ws : List (List Int)} {k : Int} (h1 : ¬ (k = 1 ∧ ps.length = 0)) (h : ¬ (k = 2 ∧ ws.length = 0)) : rightB n m xss k ps ws = false := by
  unfold rightB
  by_cases c : k = 1
  · rw [if_pos c, decide_eq_false (fun e => h1 ⟨c, e⟩), Bool.false_and]
  · rw [if_neg c]
    by_cases c2 : k = 2
    · rw [if_pos c2, decide_eq_false (fun e => h ⟨c2, e⟩), Bool.false_and]
    · rw [if_neg c2]

set_option maxRecDepth 100000 in
set_option maxHeartbeats 4000000 in
theorem implCheckCertificate_any (s : Int) (A : Option Addr) (m cap : Nat) (xss : List (List Int)) (k : Int) (Pd : Option Addr) (N c : Nat) (ps : List (List Int)) (Wd : Option Addr) (M d : Nat) (ws : List (List Int)) (w : World) (h : RowsAt w A m xss) (hm : m ≤ 4611686018427387904)
    (hrows : ∀ (r : Nat) (xs : List Int), xss[r]? = some xs → xs.length ≤ 4611686018427387904) (hP : RowsAt w Pd N ps) (hN : N ≤ 4611686018427387904) (hpr : ∀ (r : Nat) (xs : List Int), ps[r]? = some xs → xs.length ≤ 4611686018427387904)
    (hW : RowsAt w Wd M ws) (hM : M ≤ 4611686018427387904) (hwr : ∀ (r : Nat) (xs : List Int), ws[r]? = some xs → xs.length ≤ 4611686018427387904) :
    Calls Try.prog 37 #[.agg #[.int .i64 s, .slice A m cap], .agg #[.int .i64 k, .slice Pd N c, .slice Wd M d]] w fun e w' => e = .returned (.tuple #[.bool (checkCertificate s xss k ps ws).1, .int .i64 (checkCertificate s xss k ps ws).2]) ∧ Below w.heap.size w w' := by
  have HR := Lib.hid hrows
  have HM := Lib.hid h.1
  obtain ⟨W2, hW2⟩ : ∃ W2, W2 = (w.alloc (.cells #[.int .i64 s, .slice A m cap] 28)).alloc (.cells #[.int .i64 k, .slice Pd N c, .slice Wd M d] 41) := ⟨_, rfl⟩
  have b2 : Below w.heap.size w W2 := by rw [hW2]; go_grown
  have B2 := Lib.hid b2
  have HB2 := Lib.hid (show Box W2 w.heap.size [.int .i64 s, .slice A m cap] by rw [hW2]; exact Box.below (Box.new w _ _) ((Below.refl _ _).alloc (Nat.le_refl _) _))
  have HC2 := Lib.hid (show Box W2 (w.heap.size + 1) [.int .i64 k, .slice Pd N c, .slice Wd M d] by
    have h9 := Box.new (w.alloc (.cells #[.int .i64 s, .slice A m cap] 28)) #[.int .i64 k, .slice Pd N c, .slice Wd M d] 41
    rw [World.size_alloc, ← hW2] at h9
    exact h9)
  have HX2 := Lib.hid (h.below b2)
  have HP2 := Lib.hid (hP.below b2)
  have HV2 := Lib.hid (hW.below b2)
  have HPL := Lib.hid hP.1
  have HWL := Lib.hid hW.1
  have HW2 := Lib.hid hW2
  have HPR := Lib.hid hpr
  have HWR := Lib.hid hwr
  have c0 := HB2.out 0 _ rfl
  have c1 := HB2.out 1 _ rfl
  rw [hW2] at c0 c1
  clear hrows b2 hW2 h hP hW hpr hwr
  go_enter Try.func37, Try.ntmps37
  go_wp2_with fail
  rw [← HW2.out]
  refine (implValid_any s A m cap xss W2 HX2.out hm HR.out).mono ?_
  rintro e w1 ⟨rfl, b1⟩
  have B1 := Lib.hid (below_then B2.out b1)
  have HX1 := Lib.hid (HX2.out.below b1)
  have HP1 := Lib.hid (HP2.out.below b1)
  have HV1 := Lib.hid (HV2.out.below b1)
  have HB1 := Lib.hid (Box.below HB2.out b1)
  have HC1 := Lib.hid (Box.below HC2.out b1)
  clear b1 c0 c1
  rcases hok : okA s xss with _ | _
  · have HF := Lib.hid (checkCertificate_1 (k := k) (ps := ps) (ws := ws) hok)
    go_wp2_with fail
    go_ret2
    rw [HF.out]
    exact ⟨rfl, B1.out⟩
  · obtain ⟨n, hsn, hg⟩ := good_of hok HM.out
    subst hsn
    have HG := Lib.hid hg
    have HF := Lib.hid (checkCertificate_0 (k := k) (ps := ps) (ws := ws) hok HM.out)
    have d0 := HC1.out 0 _ rfl
    have d1 := HC1.out 1 _ rfl
    have d2 := HC1.out 2 _ rfl
    clear hok hg
    go_wp2_with fail
    refine (claimOf_any k Pd Wd N c M d ps ws w1 HPL.out HWL.out).mono ?_
    rintro e w3 ⟨rfl, b3⟩
    have B3 := Lib.hid (below_then B1.out b3)
    have HX3 := Lib.hid (HX1.out.below b3)
    have HP3 := Lib.hid (HP1.out.below b3)
    have HV3 := Lib.hid (HV1.out.below b3)
    have HB3 := Lib.hid (Box.below HB1.out b3)
    have q0 := HB3.out 0 _ rfl
    have q1 := HB3.out 1 _ rfl
    clear b3 d0 d1 d2
    by_cases h1 : k = 1 ∧ ps.length = 0
    · have HE := Lib.hid (rightB_1 (n := n) (m := m) (xss := xss) (ws := ws) h1)
      rw [claimV_1 h1]
      obtain ⟨D, hD⟩ : ∃ D, D = mgB n m xss ws := ⟨_, rfl⟩
      have HMm := Lib.hid (mergesHolds_any Wd A M d n m cap ws xss w3 HG.out HX3.out HV3.out hM HWR.out)
      rw [← hD] at HE HMm
      clear hD h1
      go_wp2_with fail
      refine HMm.out.mono ?_
      rintro e w4 ⟨rfl, b4⟩
      have B4 := Lib.hid (below_then B3.out b4)
      clear b4
      go_wp2_with fail
      go_ret2
      rw [HF.out, HE.out]
      exact ⟨rfl, B4.out⟩
    · by_cases h2 : k = 2 ∧ ws.length = 0
      · have HE := Lib.hid (rightB_2 (n := n) (m := m) (xss := xss) (ps := ps) h2)
        rw [claimV_2 h1 h2]
        obtain ⟨D, hD⟩ : ∃ D, D = apoB n m xss ps := ⟨_, rfl⟩
        have HMm := Lib.hid (apartHolds_any Pd A N c n m cap ps xss w3 HG.out HX3.out HP3.out hN HPR.out)
        rw [← hD] at HE HMm
        clear hD h1 h2
        go_wp2_with fail
        refine HMm.out.mono ?_
        rintro e w4 ⟨rfl, b4⟩
        have B4 := Lib.hid (below_then B3.out b4)
        clear b4
        go_wp2_with fail
        go_ret2
        rw [HF.out, HE.out]
        exact ⟨rfl, B4.out⟩
      · have HE := Lib.hid (rightB_0 (n := n) (m := m) (xss := xss) h1 h2)
        rw [claimV_0 h1 h2]
        clear h1 h2
        go_wp2_with fail
        go_ret2
        rw [HF.out, HE.out]
        exact ⟨rfl, B3.out⟩

end Go.Proofs.Ytcglncepmieaaaa
