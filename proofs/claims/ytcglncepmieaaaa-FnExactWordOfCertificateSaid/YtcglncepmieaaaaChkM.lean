/-
  Certificates that are checked: words for all pairs: the model's l02Merges.
  Certificates that are checked: words for all pairs: the program's side and the model's.
-/
import Derived.Test.YtcglncepmieaaaaChkD
import Derived.BigQuiet
import Derived.Deep.RegionLaw
import Derived.Deep.RegionHeld
namespace Go.Proofs.Ytcglncepmieaaaa
open Go.RowKit Go.Deep Go.ChangeShapes Go.WideShapes
open Hunt Srch From Moved

set_option maxRecDepth 100000 in
set_option maxHeartbeats 8000000 in
theorem l02Merges_any (p0 : Nat) (Wd A : Option Addr) (N c n m cap : Nat) (ws xss : List (List Int)) (w : World) (hg : Good n m xss) (hR : RowsAt w A m xss) (hb : Box w p0 [.int .i64 (n : Int), .slice A m cap]) (hW : RowsAt w Wd N ws) (hN : N ≤ 4611686018427387904)
    (hrows : ∀ (r : Nat) (xs : List Int), ws[r]? = some xs → xs.length ≤ 4611686018427387904) :
    Calls Try.prog 122 #[.pointer (some ⟨p0, 0, none⟩), .slice Wd N c] w fun e w' => e = .returned (.bool (mgB n m xss ws)) ∧ Below w.heap.size w w' := by
  have hn10 := hg.n10
  have hm3 := hg.m3
  have hm1 := hg.m1
  have HBX := Lib.hid hb
  have HX := Lib.hid hR
  have HV := Lib.hid hW
  have HG := Lib.hid hg
  have HR := Lib.hid hrows
  have HWL := Lib.hid hW.1
  obtain ⟨R, hRR⟩ : ∃ R, R = mgB n m xss ws := ⟨_, rfl⟩
  rw [← hRR]
  have HRR := Lib.hid hRR
  have q0 := hb 0 _ rfl
  clear hR hW hg hrows hRR hb
  go_enter Try.func122, Try.ntmps122
  go_wp2_with fail
  refine (l02Pairs_any n w hn10).mono ?_
  rintro e w3 ⟨u, rfl, ⟨ps, t3⟩, b3⟩
  obtain ⟨gs, hgs⟩ : ∃ gs, gs = prL n n := ⟨_, rfl⟩
  rw [← hgs] at t3
  obtain ⟨At, ct, rfl⟩ := own_form t3.out
  obtain ⟨M, hM⟩ : ∃ M, M = gs.length := ⟨_, rfl⟩
  have hrp := TabIn.rows ⟨ps, t3⟩ rfl
  rw [prT_len, ← hM] at t3 hrp ⊢
  have hM100 : M ≤ 100 := by rw [hM, hgs]; exact prL_leS n hn10
  have HML := Lib.hid hM
  have HGS := Lib.hid hgs
  have HT3 := Lib.hid (show RowsAt w3 At M (gs.map fun g => [((g.1 : Nat) : Int), ((g.2 : Nat) : Int)]) from hrp)
  have HB3 := Lib.hid b3
  have HX3 := Lib.hid (HX.out.below b3)
  have HV3 := Lib.hid (HV.out.below b3)
  have HBX3 := Lib.hid (Box.below HBX.out b3)
  clear t3 b3 hgs hM q0 hrp
  by_cases hNM : N = M
  · subst hNM
    go_wp2_with fail
    go_loopw [6] (fun iv wr => ∃ k : Nat, k ≤ N ∧ iv = .int .i64 k ∧ (∀ j, j < k → mgAt m xss (prL n n) ws j = true) ∧ Below w3.heap.size w3 wr) (fun iv _ => N - (intOf iv).toNat)
    case atStart => exact ⟨0, Nat.zero_le _, rfl, fun j hj => by omega, Below.refl _ _⟩
    case round =>
      obtain ⟨k, hk, rfl, hall, hbel⟩ := hrel
      have HA := Lib.hid hall
      have HB := Lib.hid hbel
      have hk0 : (0 : Int) ≤ (k : Int) := by omega
      clear hall hbel
      by_cases hlt : k < N
      · have hkn : (k : Int) < (N : Int) := by omega
        obtain ⟨⟨s, t⟩, hst⟩ : ∃ g, gs[k]? = some g := ⟨_, List.getElem?_eq_getElem (by rw [← HML.out]; exact hlt)⟩
        have hlim := prL_mem (show (s, t) ∈ prL n n by rw [← HGS.out]; exact List.mem_of_getElem? hst)
        obtain ⟨bT, oT, bR, oR, cR, rfl, d1, d2, d3⟩ := pair_readC (HT3.out.below HB.out) hst hlt
        obtain ⟨xs, bW, oW, A', c', hxs, rfl, hcw, hnum⟩ := (HV3.out.below HB.out).at_ hlt
        have hxl := HR.out k xs hxs
        have HBXR := Lib.hid (Box.below HBX3.out HB.out)
        have q1 := HBXR.out 1 _ rfl
        have q0 := HBXR.out 0 _ rfl
        have HAT := Lib.hid (show mgAt m xss (prL n n) ws k = (isWordB (m : Int) xs && decide (toS xss xs s = toS xss xs t)) by
          unfold mgAt
          rw [List.getD_eq_getElem?_getD, hxs, List.getD_eq_getElem?_getD, ← HGS.out, hst]; rfl)
        have HLM := Lib.hid hlim
        have HBR := Lib.hid (below_then HB3.out HB.out)
        have HXR := Lib.hid (HX3.out.below HB.out)
        obtain ⟨L, hL⟩ : ∃ L, L = xs.length := ⟨_, rfl⟩
        rw [← hL] at hcw hxl
        have HNM := Lib.hid (show NumsAt wr A' L xs by rw [hL]; exact hnum)
        clear hnum hst hxs hlim hL
        rcases hiw : isWordB (m : Int) xs with _ | _
        · have HF1 := Lib.hid (show R = false by
            rw [HRR.out]
            unfold mgB
            rw [all_no (k := k) (by rw [← HGS.out, ← HML.out]; exact hlt) (by rw [HAT.out, hiw]; rfl), Bool.and_false])
          have HQ := Lib.hid (fun d => l01Word_any p0 (some ⟨bW, oW, none⟩) A' N c L c' xs (wr.drewN d))
          have HQ1 := Lib.hid (fun d => (l01Word_any p0 A A' m cap L c' xs (wr.drewN d) q1 (HNM.out.drewN d) hm1 hm3 hxl))
          rw [hiw] at HQ1
          clear hiw HQ
          go_upto_region 7 with fail
          go_quiet ((go_at_call 143; exact Calls.quiet_of (HQ1.out _)))
          go_wp2_with fail
          go_ret
          rw [HF1.out]
          exact ⟨rfl, below_drewN' HBR.out _⟩
        · obtain ⟨hokw, hlw⟩ := word_ok hiw
          have HQ1 := Lib.hid (fun d => (l01Word_any p0 A A' m cap L c' xs (wr.drewN d) q1 (HNM.out.drewN d) hm1 hm3 hxl))
          rw [hiw] at HQ1
          have HQ2 := Lib.hid (fun d => (l01To_any p0 A A' n m cap L c' s xss xs (wr.drewN d) HG.out q1 (HXR.out.drewN d) (HNM.out.drewN d) hokw (by have := HLM.out; omega) hxl))
          have HQ3 := Lib.hid (fun d => (l01To_any p0 A A' n m cap L c' t xss xs (wr.drewN d) HG.out q1 (HXR.out.drewN d) (HNM.out.drewN d) hokw HLM.out.2.2 hxl))
          obtain ⟨x, hx⟩ : ∃ x, x = toS xss xs s := ⟨_, rfl⟩
          obtain ⟨y, hy⟩ : ∃ y, y = toS xss xs t := ⟨_, rfl⟩
          have HAT2 := Lib.hid (show mgAt m xss (prL n n) ws k = decide (x = y) by rw [HAT.out, hiw, hx, hy]; rfl)
          rw [← hx] at HQ2
          rw [← hy] at HQ3
          clear hiw hokw hlw hx hy
          by_cases hxy : x = y
          · have hne : ((x : Int) != (y : Int)) = false := by rw [hxy]; simp
            have HA1 := Lib.hid (show mgAt m xss (prL n n) ws k = true by rw [HAT2.out, decide_eq_true hxy])
            clear hxy
            go_upto_region 7 with fail
            go_quiet (first
              | (go_at_call 143; exact Calls.quiet_of (HQ1.out _))
              | (go_at_call_of 126 (Value.int IntKind.i64 (s : Int)); exact Calls.quiet_of (HQ2.out _))
              | (go_at_call_of 126 (Value.int IntKind.i64 (t : Int)); exact Calls.quiet_of (HQ3.out _)))
            go_wp2_with fail
            go_roundw
            case rel =>
              refine ⟨k + 1, by omega, by go_num, fun j hj => ?_, below_drewN' HB.out _⟩
              rcases Nat.lt_or_ge j k with a | a
              · exact HA.out j a
              · obtain rfl : j = k := by omega
                exact HA1.out
            case measure => simp [intOf]; omega
          · have hne : ((x : Int) != (y : Int)) = true := by rw [bne_iff_ne]; omega
            have hne2 : decide ((x : Int) = (y : Int)) = false := decide_eq_false (by omega)
            have HF1 := Lib.hid (show R = false by
              rw [HRR.out]
              unfold mgB
              rw [all_no (k := k) (by rw [← HGS.out, ← HML.out]; exact hlt) (by rw [HAT2.out, decide_eq_false hxy]), Bool.and_false])
            clear hxy
            go_upto_region 7 with fail
            go_quiet (first
              | (go_at_call 143; exact Calls.quiet_of (HQ1.out _))
              | (go_at_call_of 126 (Value.int IntKind.i64 (s : Int)); exact Calls.quiet_of (HQ2.out _))
              | (go_at_call_of 126 (Value.int IntKind.i64 (t : Int)); exact Calls.quiet_of (HQ3.out _)))
            go_wp2_with fail
            go_ret
            rw [HF1.out]
            exact ⟨rfl, below_drewN' HBR.out _⟩
      · have hke : k = N := by omega
        have hkn : ¬ (k : Int) < (N : Int) := by omega
        have HF1 := Lib.hid (show R = true by
          rw [HRR.out]
          unfold mgB
          rw [HWL.out, ← HGS.out, ← HML.out, decide_eq_true rfl, Bool.true_and]
          exact all_yes fun j hj => by rw [HGS.out]; exact HA.out j (by omega))
        clear hke hlt
        go_wp2_with fail
        go_ret
        rw [HF1.out]
        exact ⟨rfl, below_then HB3.out HB.out⟩
  · have hne : ((N : Int) == (M : Int)) = false := by rw [beq_eq_false_iff_ne]; omega
    have hne2 : ¬ (N : Int) = (M : Int) := by omega
    have HF1 := Lib.hid (show R = false by
      rw [HRR.out]
      unfold mgB
      rw [HWL.out, ← HGS.out, ← HML.out, decide_eq_false hNM, Bool.false_and])
    go_wp2_with fail
    go_ret
    rw [HF1.out]
    exact ⟨rfl, HB3.out⟩

end Go.Proofs.Ytcglncepmieaaaa

namespace Go.Proofs.Ytcglncepmieaaaa
open Go.RowKit Go.Deep Go.ChangeShapes Go.WideShapes
open Hunt Srch From Moved

set_option maxRecDepth 100000 in
set_option maxHeartbeats 8000000 in
theorem mergesHolds_any (Wd A : Option Addr) (N c n m cap : Nat) (ws xss : List (List Int)) (w : World) (hg : Good n m xss) (hR : RowsAt w A m xss) (hW : RowsAt w Wd N ws) (hN : N ≤ 4611686018427387904)
    (hrows : ∀ (r : Nat) (xs : List Int), ws[r]? = some xs → xs.length ≤ 4611686018427387904) :
    Calls Try.prog 168 #[.slice Wd N c, .agg #[.int .i64 (n : Int), .slice A m cap]] w fun e w' => e = .returned (.bool (mgB n m xss ws)) ∧ Below w.heap.size w w' := by
  have hn10 := hg.n10
  have hm3 := hg.m3
  obtain ⟨w1, hw1⟩ : ∃ w1, w1 = w.alloc (.cells #[.int .i64 (n : Int), .slice A m cap] 28) := ⟨_, rfl⟩
  have b1 : Below w.heap.size w w1 := by rw [hw1]; exact (Below.refl _ _).alloc (Nat.le_refl _) _
  have HBX := Lib.hid (show Box w1 w.heap.size [.int .i64 (n : Int), .slice A m cap] by rw [hw1]; exact Box.new _ _ _)
  have HX := Lib.hid (hR.below b1)
  have HV := Lib.hid (hW.below b1)
  have HB1 := Lib.hid b1
  have HW := Lib.hid hw1
  have HG := Lib.hid hg
  have HR := Lib.hid hrows
  have HWL := Lib.hid hW.1
  obtain ⟨R, hRR⟩ : ∃ R, R = mgB n m xss ws := ⟨_, rfl⟩
  rw [← hRR]
  have HRR := Lib.hid hRR
  clear hR hW b1 hw1 hg hrows hRR
  go_enter Try.func168, Try.ntmps168
  go_wp2_with fail
  rw [← HW.out]
  refine (allStates_any A n m cap w1 hn10).mono ?_
  obtain ⟨F, hF⟩ : ∃ F, F = 2 ^ n - 1 := ⟨_, rfl⟩
  rw [← hF]
  have hF10 : F < 1024 := by have := pow_le hn10; have := Nat.two_pow_pos n; omega
  have HF := Lib.hid hF
  rintro e w2 ⟨rfl, b2⟩
  have HB2 := Lib.hid (below_then HB1.out b2)
  have HX2 := Lib.hid (HX.out.below b2)
  have HV2 := Lib.hid (HV.out.below b2)
  have HBX2 := Lib.hid (Box.below HBX.out b2)
  clear b2 hF
  go_wp2_with fail
  refine (pairs_any F w2 hF10).mono ?_
  rintro e w3 ⟨u, rfl, o3, b3⟩
  obtain ⟨P, hP⟩ : ∃ P, P = prsS F := ⟨_, rfl⟩
  rw [← hP] at o3
  have hPF : P = (prL n n).map fun g => pairB g.1 g.2 := by rw [hP, HF.out, prsS_full hn10]
  obtain ⟨A3, C3, rfl⟩ := own2_form o3
  obtain ⟨M, hM⟩ : ∃ M, M = P.length := ⟨_, rfl⟩
  rw [← hM] at o3 ⊢
  have HML := Lib.hid (show M = (prL n n).length by rw [hM, hPF, List.length_map])
  have hM100 : M ≤ 100 := by rw [HML.out]; exact prL_leS n hn10
  have HS3 := Lib.hid (show ∀ (k s t : Nat), (prL n n)[k]? = some (s, t) → ∃ g, A3 = some ⟨g, 0, none⟩ ∧ w3.cell? ⟨g, k, none⟩ = some (.int .u16 ((pairB s t : Nat) : Int)) from fun k s t hb => by
    have hk : k < P.length := by
      rw [hPF, List.length_map]
      exact lt_of_some hb
    rcases o3.2 with ⟨hv0, h0⟩ | ⟨g, cap', cur, hv0, hg, hh, hnc, hcap, hsz, htake⟩
    · omega
    · simp only [Value.slice.injEq] at hv0
      obtain ⟨rfl, _, rfl⟩ := hv0
      refine ⟨g, rfl, (o3.cellAt k (by omega)).trans ?_⟩
      rw [List.getElem?_map, hPF, List.getElem?_map, hb]
      rfl)
  have HB3 := Lib.hid (below_then HB2.out b3)
  have HX3 := Lib.hid (HX2.out.below b3)
  have HV3 := Lib.hid (HV2.out.below b3)
  have HBX3 := Lib.hid (Box.below HBX2.out b3)
  clear b3 hP hM o3 hPF
  by_cases hNM : N = M
  · subst hNM
    go_wp2_with fail
    go_loopw [18] (fun iv wr => ∃ k : Nat, k ≤ N ∧ iv = .int .i64 k ∧ (∀ j, j < k → mgAt m xss (prL n n) ws j = true) ∧ Below w3.heap.size w3 wr) (fun iv _ => N - (intOf iv).toNat)
    case atStart => exact ⟨0, Nat.zero_le _, rfl, fun j hj => by omega, Below.refl _ _⟩
    case round =>
      obtain ⟨k, hk, rfl, hall, hbel⟩ := hrel
      have HA := Lib.hid hall
      have HB := Lib.hid hbel
      have hk0 : (0 : Int) ≤ (k : Int) := by omega
      clear hall hbel
      by_cases hlt : k < N
      · have hkn : (k : Int) < (N : Int) := by omega
        obtain ⟨⟨s, t⟩, hst⟩ : ∃ g, (prL n n)[k]? = some g := ⟨_, List.getElem?_eq_getElem (by rw [← HML.out]; exact hlt)⟩
        have hlim := prL_mem (List.mem_of_getElem? hst)
        obtain ⟨g, rfl, hc⟩ := HS3.out k s t hst
        have hcc := (HB.out.cell (cell_lt hc)).trans hc
        obtain ⟨xs, bW, oW, A', c', hxs, rfl, hcw, hnum⟩ := (HV3.out.below HB.out).at_ hlt
        have hxl := HR.out k xs hxs
        have q1 := (Box.below HBX3.out HB.out) 1 _ rfl
        have q0 := (Box.below HBX3.out HB.out) 0 _ rfl
        have HAT := Lib.hid (show mgAt m xss (prL n n) ws k = (isWordB (m : Int) xs && decide (toS xss xs s = toS xss xs t)) by
          unfold mgAt
          rw [List.getD_eq_getElem?_getD, hxs, List.getD_eq_getElem?_getD, hst]; rfl)
        have HNM := Lib.hid hnum
        have HBXR := Lib.hid (Box.below HBX3.out HB.out)
        have HLM := Lib.hid hlim
        have hb10 : pairB s t < 1024 := pair_lt s (by omega) t (by omega)
        obtain ⟨b, hb⟩ : ∃ b, b = pairB s t := ⟨_, rfl⟩
        rw [← hb] at hcc hb10
        have HBP := Lib.hid hb
        have HBR := Lib.hid (below_then HB3.out HB.out)
        obtain ⟨L, hL⟩ : ∃ L, L = xs.length := ⟨_, rfl⟩
        rw [← hL] at hcw hxl
        have HNM := Lib.hid (show NumsAt wr A' L xs by rw [hL]; exact hnum)
        clear hnum hst hxs hlim hc hb hL
        have r0 : ∀ W', Below wr.heap.size wr W' → W'.cell? ⟨w.heap.size, 0, none⟩ = some (.int .i64 (n : Int)) := fun W' hb => (hb.cell (cell_lt q0)).trans q0
        have r1 : ∀ W', Below wr.heap.size wr W' → W'.cell? ⟨w.heap.size, 1, none⟩ = some (.slice A m cap) := fun W' hb => (hb.cell (cell_lt q1)).trans q1
        have r2 : ∀ W', Below wr.heap.size wr W' → W'.cell? ⟨bW, oW + k, none⟩ = some (.slice A' L c') := fun W' hb => (hb.cell (cell_lt hcw)).trans hcw
        rcases hiw : isWordB (m : Int) xs with _ | _
        · have HF1 := Lib.hid (show R = false by
            rw [HRR.out]
            unfold mgB
            rw [all_no (k := k) (by rw [← HML.out]; exact hlt) (by rw [HAT.out, hiw]; rfl), Bool.and_false])
          have HIW := Lib.hid hiw
          clear hiw
          go_upto_region 7 with fail
          refine wp_region_held_drew (S := (fun w' => Below wr.heap.size wr w')) (by kernel_rfl) ?_ (fun hHeld => ?_)
          · exact below_drewN' (Below.refl _ _) 1
          refine wpAnyH_take (i := 0) (v := ?_) rfl (by kernel_rfl) (by kernel_rfl) (by kernel_rfl) (fun _ _ _ h => h) (Or.inl ⟨by kernel_rfl, ?_⟩) (by assumption) ?_
          rotate_left
          · (intro w hSw; (try dsimp only at hSw); go_simp; try with_reducible rfl)
          simp only [Act.put, List.setIfInBounds_toArray]
          refine wpAnyH_take (i := 1) (v := ?_) rfl (by kernel_rfl) (by kernel_rfl) (by kernel_rfl) (fun _ _ _ h => h) (Or.inl ⟨by kernel_rfl, ?_⟩) (by assumption) ?_
          rotate_left
          · (intro w hSw; (try dsimp only at hSw); go_simp; try with_reducible rfl)
          simp only [Act.put]
          refine wpAnyH_take (i := 2) (v := ?_) rfl (by kernel_rfl) (by kernel_rfl) (by kernel_rfl) (fun _ _ _ h => h) (Or.inl ⟨by kernel_rfl, ?_⟩) (by assumption) ?_
          rotate_left
          · (intro w hSw; (try dsimp only at hSw); go_simp; try with_reducible rfl)
          simp only [Act.put]
          refine wpAnyH_take (i := 3) (v := ?_) rfl (by kernel_rfl) (by kernel_rfl) (by kernel_rfl) (fun _ _ _ h => h) (Or.inl ⟨by kernel_rfl, ?_⟩) (by assumption) ?_
          rotate_left
          · (intro w hSw; (try dsimp only at hSw); go_simp; try with_reducible rfl)
          simp only [Act.put]
          refine wpAnyH_take (i := 4) (v := ?_) rfl (by kernel_rfl) (by kernel_rfl) (by kernel_rfl) (fun _ _ _ h => h) (Or.inl ⟨by kernel_rfl, ?_⟩) (by assumption) ?_
          rotate_left
          · (intro w hSw; (try dsimp only at hSw); go_simp; try with_reducible rfl)
          simp only [Act.put]
          refine wpAnyH_take (i := 5) (v := ?_) rfl (by kernel_rfl) (by kernel_rfl) (by kernel_rfl) (fun _ _ _ h => h) (Or.inl ⟨by kernel_rfl, ?_⟩) (by assumption) ?_
          rotate_left
          · (intro w hSw; (try dsimp only at hSw); go_simp; try with_reducible rfl)
          simp only [Act.put]
          refine wpAnyH_take (i := 6) (v := ?_) rfl (by kernel_rfl) (by kernel_rfl) (by kernel_rfl) (fun _ _ _ h => h) (Or.inl ⟨by kernel_rfl, ?_⟩) (by assumption) ?_
          rotate_left
          · (intro w hSw; (try dsimp only at hSw); go_simp; try with_reducible rfl)
          simp only [Act.put]
          refine wpAnyH_ready (rs := [7]) (by kernel_rfl) (by simp) ?_
          refine AllReadyH.cons rfl (fun K hK => ?_) AllReadyH.nil
          go_simp
          go_at_call 89
          refine (isLetterList_any 0 none A' m 0 L c' xs _ (HNM.out.below (below_drewN' (Below.refl _ _) 1)) (by omega) hxl).mono ?_
          rw [HIW.out]
          rintro e w5 ⟨rfl, b5⟩
          have B5 : Hid (Below wr.heap.size wr w5) := Lib.hid (below_then (below_drewN' (Below.refl _ _) 1) b5)
          clear b5
          refine hK.out _ _ B5.out (fun hHeld5 => ?_)
          clear hK K
          refine wpAnyH_take (i := 8) (v := ?_) rfl (by kernel_rfl) (by kernel_rfl) (by kernel_rfl) (fun _ _ _ h => h) (Or.inl ⟨by kernel_rfl, ?_⟩) (by assumption) ?_
          rotate_left
          · (intro w hSw; (try dsimp only at hSw); go_simp; try with_reducible rfl)
          simp only [Act.put]
          refine wpAnyH_take (i := 9) (v := ?_) rfl (by kernel_rfl) (by kernel_rfl) (by kernel_rfl) (fun _ _ _ h => h) (Or.inl ⟨by kernel_rfl, ?_⟩) (by assumption) ?_
          rotate_left
          · (intro w hSw; (try dsimp only at hSw); go_simp; try with_reducible rfl)
          simp only [Act.put]
          refine wpAnyH_take (i := 10) (v := undef) rfl (by kernel_rfl) (by kernel_rfl) (by kernel_rfl) (fun _ _ _ h => h) (Or.inr ⟨by kernel_rfl, rfl⟩) (by assumption) ?_
          simp only [Act.put]
          refine wpAnyH_take (i := 11) (v := undef) rfl (by kernel_rfl) (by kernel_rfl) (by kernel_rfl) (fun _ _ _ h => h) (Or.inr ⟨by kernel_rfl, rfl⟩) (by assumption) ?_
          simp only [Act.put]
          refine wpAnyH_take (i := 12) (v := undef) rfl (by kernel_rfl) (by kernel_rfl) (by kernel_rfl) (fun _ _ _ h => h) (Or.inr ⟨by kernel_rfl, rfl⟩) (by assumption) ?_
          simp only [Act.put]
          refine wpAnyH_take (i := 13) (v := undef) rfl (by kernel_rfl) (by kernel_rfl) (by kernel_rfl) (fun _ _ _ h => h) (Or.inr ⟨by kernel_rfl, rfl⟩) (by assumption) ?_
          simp only [Act.put]
          refine wpAnyH_take (i := 14) (v := undef) rfl (by kernel_rfl) (by kernel_rfl) (by kernel_rfl) (fun _ _ _ h => h) (Or.inr ⟨by kernel_rfl, rfl⟩) (by assumption) ?_
          simp only [Act.put]
          refine wpAnyH_take (i := 15) (v := undef) rfl (by kernel_rfl) (by kernel_rfl) (by kernel_rfl) (fun _ _ _ h => h) (Or.inr ⟨by kernel_rfl, rfl⟩) (by assumption) ?_
          simp only [Act.put]
          refine wpAnyH_take (i := 16) (v := undef) rfl (by kernel_rfl) (by kernel_rfl) (by kernel_rfl) (fun _ _ _ h => h) (Or.inr ⟨by kernel_rfl, rfl⟩) (by assumption) ?_
          simp only [Act.put]
          refine wpAnyH_take (i := 17) (v := undef) rfl (by kernel_rfl) (by kernel_rfl) (by kernel_rfl) (fun _ _ _ h => h) (Or.inr ⟨by kernel_rfl, rfl⟩) (by assumption) ?_
          simp only [Act.put]
          refine wpAnyH_take (i := 18) (v := undef) rfl (by kernel_rfl) (by kernel_rfl) (by kernel_rfl) (fun _ _ _ h => h) (Or.inr ⟨by kernel_rfl, rfl⟩) (by assumption) ?_
          simp only [Act.put]
          refine wpAnyH_take (i := 19) (v := ?_) rfl (by kernel_rfl) (by kernel_rfl) (by kernel_rfl) (fun _ _ _ h => h) (Or.inl ⟨by kernel_rfl, ?_⟩) (by assumption) ?_
          rotate_left
          · (intro w hSw; (try dsimp only at hSw); go_simp; try with_reducible rfl)
          simp only [Act.put]
          refine wpAnyH_done (by kernel_rfl) ?_ _
          go_simp
          go_wp2_with fail
          go_ret
          rw [HF1.out]
          exact ⟨rfl, below_then HBR.out B5.out⟩
        · obtain ⟨hokw, hlw⟩ := word_ok hiw
          have HMT := Lib.hid (merged_to (xss := xss) HG.out (show s < n by have := HLM.out; omega) HLM.out.2.2 hokw)
          rw [← HBP.out] at HMT
          have HIW := Lib.hid hiw
          have HOK := Lib.hid hokw
          obtain ⟨D, hD⟩ : ∃ D, D = aftW b n xss xs := ⟨_, rfl⟩
          obtain ⟨ok, hok⟩ : ∃ ok, ok = decide (toS xss xs s = toS xss xs t) := ⟨_, rfl⟩
          rw [← hD, ← hok] at HMT
          have HDD := Lib.hid hD
          have HOKK := Lib.hid hok
          have HAT2 := Lib.hid (show mgAt m xss (prL n n) ws k = ok by rw [HAT.out, hiw, hok]; rfl)
          clear hiw hokw hlw hD hok
          go_upto_region 7 with fail
          refine wp_region_held_drew (S := (fun w' => Below wr.heap.size wr w')) (by kernel_rfl) ?_ (fun hHeld => ?_)
          · exact below_drewN' (Below.refl _ _) 1
          refine wpAnyH_take (i := 0) (v := ?_) rfl (by kernel_rfl) (by kernel_rfl) (by kernel_rfl) (fun _ _ _ h => h) (Or.inl ⟨by kernel_rfl, ?_⟩) (by assumption) ?_
          rotate_left
          · (intro w hSw; (try dsimp only at hSw); go_simp; try with_reducible rfl)
          simp only [Act.put, List.setIfInBounds_toArray]
          refine wpAnyH_take (i := 1) (v := ?_) rfl (by kernel_rfl) (by kernel_rfl) (by kernel_rfl) (fun _ _ _ h => h) (Or.inl ⟨by kernel_rfl, ?_⟩) (by assumption) ?_
          rotate_left
          · (intro w hSw; (try dsimp only at hSw); go_simp; try with_reducible rfl)
          simp only [Act.put]
          refine wpAnyH_take (i := 2) (v := ?_) rfl (by kernel_rfl) (by kernel_rfl) (by kernel_rfl) (fun _ _ _ h => h) (Or.inl ⟨by kernel_rfl, ?_⟩) (by assumption) ?_
          rotate_left
          · (intro w hSw; (try dsimp only at hSw); go_simp; try with_reducible rfl)
          simp only [Act.put]
          refine wpAnyH_take (i := 3) (v := ?_) rfl (by kernel_rfl) (by kernel_rfl) (by kernel_rfl) (fun _ _ _ h => h) (Or.inl ⟨by kernel_rfl, ?_⟩) (by assumption) ?_
          rotate_left
          · (intro w hSw; (try dsimp only at hSw); go_simp; try with_reducible rfl)
          simp only [Act.put]
          refine wpAnyH_take (i := 4) (v := ?_) rfl (by kernel_rfl) (by kernel_rfl) (by kernel_rfl) (fun _ _ _ h => h) (Or.inl ⟨by kernel_rfl, ?_⟩) (by assumption) ?_
          rotate_left
          · (intro w hSw; (try dsimp only at hSw); go_simp; try with_reducible rfl)
          simp only [Act.put]
          refine wpAnyH_take (i := 5) (v := ?_) rfl (by kernel_rfl) (by kernel_rfl) (by kernel_rfl) (fun _ _ _ h => h) (Or.inl ⟨by kernel_rfl, ?_⟩) (by assumption) ?_
          rotate_left
          · (intro w hSw; (try dsimp only at hSw); go_simp; try with_reducible rfl)
          simp only [Act.put]
          refine wpAnyH_take (i := 6) (v := ?_) rfl (by kernel_rfl) (by kernel_rfl) (by kernel_rfl) (fun _ _ _ h => h) (Or.inl ⟨by kernel_rfl, ?_⟩) (by assumption) ?_
          rotate_left
          · (intro w hSw; (try dsimp only at hSw); go_simp; try with_reducible rfl)
          simp only [Act.put]
          refine wpAnyH_ready (rs := [7]) (by kernel_rfl) (by simp) ?_
          refine AllReadyH.cons rfl (fun K hK => ?_) AllReadyH.nil
          go_simp
          go_at_call 89
          refine (isLetterList_any 0 none A' m 0 L c' xs _ (HNM.out.below (below_drewN' (Below.refl _ _) 1)) (by omega) hxl).mono ?_
          rw [HIW.out]
          rintro e w5 ⟨rfl, b5⟩
          have B5 : Hid (Below wr.heap.size wr w5) := Lib.hid (below_then (below_drewN' (Below.refl _ _) 1) b5)
          clear b5
          refine hK.out _ _ B5.out (fun hHeld5 => ?_)
          clear hK K
          refine wpAnyH_take (i := 8) (v := ?_) rfl (by kernel_rfl) (by kernel_rfl) (by kernel_rfl) (fun _ _ _ h => h) (Or.inl ⟨by kernel_rfl, ?_⟩) (by assumption) ?_
          rotate_left
          · (intro w hSw; (try dsimp only at hSw); go_simp; try with_reducible rfl)
          simp only [Act.put]
          refine wpAnyH_take (i := 9) (v := ?_) rfl (by kernel_rfl) (by kernel_rfl) (by kernel_rfl) (fun _ _ _ h => h) (Or.inl ⟨by kernel_rfl, ?_⟩) (by assumption) ?_
          rotate_left
          · (intro w hSw; (try dsimp only at hSw); go_simp; try with_reducible rfl)
          simp only [Act.put]
          refine wpAnyH_take (i := 10) (v := ?_) rfl (by kernel_rfl) (by kernel_rfl) (by kernel_rfl) (fun _ _ _ h => h) (Or.inl ⟨by kernel_rfl, ?_⟩) (by assumption) ?_
          rotate_left
          · (intro w hSw; (try dsimp only at hSw); go_simp; try with_reducible rfl)
          simp only [Act.put]
          refine wpAnyH_take (i := 11) (v := ?_) rfl (by kernel_rfl) (by kernel_rfl) (by kernel_rfl) (fun _ _ _ h => h) (Or.inl ⟨by kernel_rfl, ?_⟩) (by assumption) ?_
          rotate_left
          · (intro w hSw; (try dsimp only at hSw); go_simp; try with_reducible rfl)
          simp only [Act.put]
          refine wpAnyH_take (i := 12) (v := ?_) rfl (by kernel_rfl) (by kernel_rfl) (by kernel_rfl) (fun _ _ _ h => h) (Or.inl ⟨by kernel_rfl, ?_⟩) (by assumption) ?_
          rotate_left
          · (intro w hSw; (try dsimp only at hSw); go_simp; try with_reducible rfl)
          simp only [Act.put]
          refine wpAnyH_take (i := 13) (v := ?_) rfl (by kernel_rfl) (by kernel_rfl) (by kernel_rfl) (fun _ _ _ h => h) (Or.inl ⟨by kernel_rfl, ?_⟩) (by assumption) ?_
          rotate_left
          · (intro w hSw; (try dsimp only at hSw); go_simp; try with_reducible rfl)
          simp only [Act.put]
          refine wpAnyH_take (i := 14) (v := ?_) rfl (by kernel_rfl) (by kernel_rfl) (by kernel_rfl) (fun _ _ _ h => h) (Or.inl ⟨by kernel_rfl, ?_⟩) (by assumption) ?_
          rotate_left
          · (intro w hSw; (try dsimp only at hSw); go_simp; try with_reducible rfl)
          simp only [Act.put]
          refine wpAnyH_take (i := 15) (v := ?_) rfl (by kernel_rfl) (by kernel_rfl) (by kernel_rfl) (fun _ _ _ h => h) (Or.inl ⟨by kernel_rfl, ?_⟩) (by assumption) ?_
          rotate_left
          · (intro w hSw; (try dsimp only at hSw); go_simp; try with_reducible rfl)
          simp only [Act.put]
          refine wpAnyH_ready (rs := [16]) (by kernel_rfl) (by simp) ?_
          refine AllReadyH.cons rfl (fun K hK => ?_) AllReadyH.nil
          go_simp
          go_at_call 104
          refine (afterWord_any A A' n m cap L c' b xss xs _ HG.out ((HX3.out.below HB.out).below B5.out) (HNM.out.below B5.out) HOK.out hxl hb10).mono ?_
          rw [← HDD.out]
          rintro e w6 ⟨rfl, hD10, b6⟩
          have B6 : Hid (Below wr.heap.size wr w6) := Lib.hid (below_then B5.out b6)
          clear b6
          refine hK.out _ _ B6.out (fun hHeld6 => ?_)
          clear hK K
          refine wpAnyH_ready (rs := [17]) (by kernel_rfl) (by simp) ?_
          refine AllReadyH.cons rfl (fun K hK => ?_) AllReadyH.nil
          go_simp
          go_at_call 103
          refine (isMerged_any D w6 hD10).mono ?_
          rw [HMT.out]
          rintro e w7 ⟨rfl, d7, hd7⟩
          have B7 : Hid (Below wr.heap.size wr w7) := Lib.hid (by rw [hd7]; exact below_drewN' B6.out _)
          clear hd7
          refine hK.out _ _ B7.out (fun hHeld7 => ?_)
          clear hK K
          rcases ok with _ | _
          · skip
            refine wpAnyH_take (i := 18) (v := ?_) rfl (by kernel_rfl) (by kernel_rfl) (by kernel_rfl) (fun _ _ _ h => h) (Or.inl ⟨by kernel_rfl, ?_⟩) (by assumption) ?_
            rotate_left
            · (intro w hSw; (try dsimp only at hSw); go_simp; try with_reducible rfl)
            simp only [Act.put]
            refine wpAnyH_take (i := 19) (v := ?_) rfl (by kernel_rfl) (by kernel_rfl) (by kernel_rfl) (fun _ _ _ h => h) (Or.inl ⟨by kernel_rfl, ?_⟩) (by assumption) ?_
            rotate_left
            · (intro w hSw; (try dsimp only at hSw); go_simp; try with_reducible rfl)
            simp only [Act.put]
            refine wpAnyH_done (by kernel_rfl) ?_ _
            go_simp
            have HF1 := Lib.hid (show R = false by
              rw [HRR.out]
              unfold mgB
              rw [all_no (k := k) (by rw [← HML.out]; exact hlt) HAT2.out, Bool.and_false])
            go_wp2_with fail
            go_ret
            rw [HF1.out]
            exact ⟨rfl, below_then HB3.out (below_then HB.out B7.out)⟩
          · skip
            refine wpAnyH_take (i := 18) (v := ?_) rfl (by kernel_rfl) (by kernel_rfl) (by kernel_rfl) (fun _ _ _ h => h) (Or.inl ⟨by kernel_rfl, ?_⟩) (by assumption) ?_
            rotate_left
            · (intro w hSw; (try dsimp only at hSw); go_simp; try with_reducible rfl)
            simp only [Act.put]
            refine wpAnyH_take (i := 19) (v := ?_) rfl (by kernel_rfl) (by kernel_rfl) (by kernel_rfl) (fun _ _ _ h => h) (Or.inl ⟨by kernel_rfl, ?_⟩) (by assumption) ?_
            rotate_left
            · (intro w hSw; (try dsimp only at hSw); go_simp; try with_reducible rfl)
            simp only [Act.put]
            refine wpAnyH_done (by kernel_rfl) ?_ _
            go_simp
            go_wp2_with fail
            go_roundw
            case rel =>
              refine ⟨k + 1, by omega, by go_num, fun j hj => ?_, below_then HB.out B7.out⟩
              rcases Nat.lt_or_ge j k with a | a
              · exact HA.out j a
              · obtain rfl : j = k := by omega
                exact HAT2.out
            case measure => simp [intOf]; omega
      · have hke : k = N := by omega
        have hkn : ¬ (k : Int) < (N : Int) := by omega
        have HF1 := Lib.hid (show R = true by
          rw [HRR.out]
          unfold mgB
          rw [HWL.out, ← HML.out, decide_eq_true rfl, Bool.true_and]
          exact all_yes fun j hj => HA.out j (by omega))
        clear hke hlt
        go_wp2_with fail
        go_ret
        rw [HF1.out]
        exact ⟨rfl, below_then HB3.out HB.out⟩
  · have hne : ((N : Int) == (M : Int)) = false := by rw [beq_eq_false_iff_ne]; omega
    have hne2 : ¬ (N : Int) = (M : Int) := by omega
    have HF1 := Lib.hid (show R = false by
      rw [HRR.out]
      unfold mgB
      rw [HWL.out, ← HML.out, decide_eq_false hNM, Bool.false_and])
    go_wp2_with fail
    go_ret
    rw [HF1.out]
    exact ⟨rfl, HB3.out⟩

end Go.Proofs.Ytcglncepmieaaaa
