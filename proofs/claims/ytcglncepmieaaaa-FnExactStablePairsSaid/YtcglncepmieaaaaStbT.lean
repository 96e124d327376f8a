/-
  Stable pairs: the model's l02Stable, and the contracts of both StablePairs.
-/
import Derived.Test.YtcglncepmieaaaaStbM
namespace Go.Proofs.Ytcglncepmieaaaa
open Go.RowKit Go.Deep Go.ChangeShapes Go.WideShapes
open Hunt Srch From Moved

set_option maxRecDepth 100000 in
set_option maxHeartbeats 4000000 in
theorem l02Stable_any (p n m cap : Nat) (A : Option Addr) (xss : List (List Int)) (w : World) (hg : Good n m xss) (hR : RowsAt w A m xss) (hb : Box w p [.int .i64 (n : Int), .slice A m cap]) :
    Calls Try.prog 63 #[.pointer (some ⟨p, 0, none⟩)] w fun e w' => ∃ u, e = .returned u ∧ TabIn w.heap.size w'.heap.size w' u (stL n m xss) ∧ Below w.heap.size w w' := by
  obtain ⟨i1, hi1, hy0, hy1, hy2⟩ := info_parts info_ints
  have HG := Lib.hid hg
  have HH := Lib.hid hR
  have HBX := Lib.hid hb
  have hn10 : n ≤ 10 := hg.n10
  clear hg hR hb
  go_enter Try.func63, Try.ntmps63
  go_wp2_with fail
  refine (l02Table_any p n m cap A xss w HG.out HH.out HBX.out).mono ?_
  rintro e w1 ⟨u, rfl, t1, b1⟩
  obtain ⟨At, ct, rfl⟩ := t1.form
  obtain ⟨Z, hZ⟩ : ∃ Z, Z = tabK n m xss n := ⟨_, rfl⟩
  rw [tabK_len] at t1 ⊢
  have hr1 := t1.rows (tabK_len n m xss n)
  have HT1 := Lib.hid hr1
  have HB1 := Lib.hid b1
  have HH1 := Lib.hid (HH.out.below b1)
  have HBX1 := Lib.hid (Box.below HBX.out b1)
  clear t1 hZ hr1 b1 HH HBX
  go_wp2_with fail
  go_loopw [4, 5] (fun ov iv wr => ∃ (k : Nat) (vs : List Value) (Y : List (List Int)), k ≤ n ∧ iv = .int .i64 k ∧ Y = stU n m xss (prL n k) ∧ TabV w1.heap.size wr.heap.size wr ov vs Y ∧ Below w1.heap.size w1 wr) (fun _ iv _ => n - (intOf iv).toNat)
  case atStart => exact ⟨0, [], [], Nat.zero_le _, rfl, rfl, (tabV_made w1 w1.heap.size (Nat.le_refl _)).wide (Nat.le_refl _) (by simp), (Below.refl _ _).alloc (Nat.le_refl _) _⟩
  case round =>
    obtain ⟨k, vs, Y, hk, rfl, hY, htab, hbel⟩ := hrel
    obtain ⟨A3, C3, rfl⟩ := own_form htab.out
    have HT := Lib.hid htab
    have HB := Lib.hid hbel
    have HY := Lib.hid hY
    have q0 := (Box.below HBX1.out hbel) 0 _ rfl
    have hk0 : (0 : Int) ≤ (k : Int) := by omega
    clear htab hbel hY
    by_cases hlt : k < n
    · have hkn : (k : Int) < (n : Int) := by omega
      go_wp2_with fail
      clear q0
      go_loopw [4, 6] (fun ov jv wi => ∃ (j : Nat) (vs : List Value) (X : List (List Int)), j ≤ n - 1 - k ∧ jv = .int .i64 ((k + 1 + j : Nat) : Int) ∧ X = stU n m xss (prL n k ++ prU k j) ∧ TabV w1.heap.size wi.heap.size wi ov vs X ∧ Below w1.heap.size w1 wi) (fun _ jv _ => n - (intOf jv).toNat)
      case atStart => exact ⟨0, vs, Y, Nat.zero_le _, by go_num, by rw [HY.out]; simp [prU], HT.out, HB.out⟩
      case round =>
        obtain ⟨j, us, X, hj, rfl, hX, htab, hbel⟩ := hrel
        obtain ⟨A4, C4, rfl⟩ := own_form htab.out
        have hXl : X.length ≤ 200 := by
          rw [hX]
          have h1 := stU_len n m xss (prL n k ++ prU k j)
          rw [List.length_append, prU_len] at h1
          have h2 := prL_len n k
          have h3 : k * n ≤ 10 * 10 := Nat.mul_le_mul (by omega) hn10
          omega
        have HT2 := Lib.hid htab
        have HB2 := Lib.hid hbel
        have HX := Lib.hid hX
        have q0 := (Box.below HBX1.out hbel) 0 _ rfl
        have q1 := (Box.below HBX1.out hbel) 1 _ rfl
        clear htab hbel hX
        by_cases hjn : k + 1 + j < n
        · have hj0 : (0 : Int) ≤ ((k + 1 + j : Nat) : Int) := by omega
          have hjn' : ((k + 1 + j : Nat) : Int) < (n : Int) := by omega
          obtain ⟨t, ht⟩ : ∃ t, t = k + 1 + j := ⟨_, rfl⟩
          have hst := stU_snoc n m xss (prL n k ++ prU k j) k t
          rw [ht, List.append_assoc, ← prU_succ, ← ht] at hst
          have HST := Lib.hid hst
          rw [← ht] at hj0 hjn' hjn ⊢
          have HTT := Lib.hid ht
          have HSD := Lib.hid (sdB_eq HG.out hlt hjn)
          clear ht hst
          go_wp2_with fail
          refine (l02Steady_any p n m cap ct k t A At xss wr HG.out (HH1.out.below HB2.out) q0 q1 (HT1.out.below HB2.out) hlt hjn).mono ?_
          rw [HSD.out]
          rintro e w3 ⟨rfl, b3⟩
          have HT3 := Lib.hid (HT2.out.below b3)
          have HB3 := Lib.hid (below_then HB2.out b3)
          have HS3 := Lib.hid b3.size
          clear b3 q0 q1
          rcases hsb : stB n m xss k t with _ | _
          · have HN := Lib.hid (show stU n m xss (prL n k ++ prU k (j + 1)) = X by rw [HST.out, if_neg (by rw [hsb]; simp), HX.out])
            clear hsb
            go_wp2_with fail
            go_roundw
            case rel =>
              have hT := HTT.out
              exact ⟨j + 1, us, X, by omega, by go_num, HN.out.symm, HT3.out.wide (Nat.le_refl _) HS3.out, HB3.out⟩
            case measure => have hT := HTT.out; simp [intOf]; omega
          · have HN := Lib.hid (show stU n m xss (prL n k ++ prU k (j + 1)) = X ++ [[(k : Int), (t : Int)]] by rw [HST.out, if_pos hsb, HX.out])
            clear hsb
            obtain ⟨w4, hw4⟩ : ∃ w4, w4 = w3.alloc (.cells #[.int .i64 (k : Int), .int .i64 (t : Int)] 2) := ⟨_, rfl⟩
            have b4 : Below w3.heap.size w3 w4 := by rw [hw4]; exact (Below.refl _ _).alloc (Nat.le_refl _) _
            have HT4 := Lib.hid (HT3.out.below b4)
            have HI4 := Lib.hid (show IntsIn w3.heap.size w4.heap.size w4 (.slice (some ⟨w3.heap.size, 0, none⟩) 2 2) [(k : Int), (t : Int)] by
              rw [hw4]
              exact IntsIn.of (World.ownsRow_lit (e := 2) w3 #[.int .i64 (k : Int), .int .i64 (t : Int)] 2 (Nat.le_refl _) (by decide) rfl))
            have HB4 := Lib.hid (below_then HB3.out b4)
            have HW4 := Lib.hid hw4
            have HS4 := Lib.hid (show w3.heap.size = wr.heap.size + (w3.heap.size - wr.heap.size) by have := HS3.out; omega)
            clear b4
            have HLE := Lib.hid (show w1.heap.size ≤ w4.heap.size from HB4.out.size)
            rw [hw4] at HT4 HLE
            have HCN := Lib.hid (show ∀ (j : Nat) (u : Value), [Value.slice (some ⟨w3.heap.size, 0, none⟩) 2 2][j]? = some u → ((w3.alloc (.cells #[.int .i64 (k : Int), .int .i64 (t : Int)] 2)).alloc (.cells #[.slice (some ⟨w3.heap.size, 0, none⟩) 2 2] 35)).cell? ((⟨w3.heap.size + 1, 0, none⟩ : Addr).add j) = some u from by
              have h9 := cell_one_new (w3.alloc (.cells #[.int .i64 (k : Int), .int .i64 (t : Int)] 2)) (.slice (some ⟨w3.heap.size, 0, none⟩) 2 2) 35
              rw [World.size_alloc] at h9
              exact h9)
            go_wp2_with (at_builtin; refine wpList_append_own_at _ rfl _ _ 22 rfl (w1.heap.size) 35 i1 (.slice none 0 0) 1 24 Try.underlying22 hi1 hy0 hy1 hy2 rfl (by decide) _ _ _ rfl (World.ownsRow.alloc (HT4.out.out) _) ⟨w3.heap.size + 1, 0, none⟩ 1 1 [.slice (some ⟨w3.heap.size, 0, none⟩) 2 2] rfl rfl HCN.out (by simp [Value.oneCell']) (by unfold maxLen; omega) (by omega) (by rw [World.size_alloc]; exact Nat.le_succ_of_le HLE.out) ?_)
            rw [← hw4] at HT4 HLE ⊢
            clear hw4
            intro v' w5 hown' hgrow _ hat
            have ba : Below w4.heap.size w4 (w4.alloc (.cells #[.slice (some ⟨w3.heap.size, 0, none⟩) 2 2] 35)) := (Below.refl _ _).alloc (Nat.le_refl _) _
            have htab2 := TabV.snoc (HT4.out.below ba) (HI4.out.below ba) hown' hgrow (by rw [World.size_alloc, show w4.heap.size = w3.heap.size + 1 by rw [HW4.out, World.size_alloc]]; exact hat) HB3.out.size HS3.out (by have := ba.size; omega)
            rw [← HN.out] at htab2
            have HT5 := Lib.hid htab2
            have HB5 := Lib.hid (below_grown (below_then HB4.out ba) hgrow (fun g hg => (HT4.out.out.lt g hg).1))
            clear hown' hgrow hat ba htab2
            go_wp2_with fail
            go_roundw
            case rel =>
              have hT := HTT.out
              exact ⟨j + 1, _, _, by omega, by go_num, rfl, HT5.out, HB5.out⟩
            case measure => have hT := HTT.out; simp [intOf]; omega
        · have hje : j = n - 1 - k := by omega
          have HJ := Lib.hid (show X = stU n m xss (prL n (k + 1)) by rw [HX.out, hje, prL_succ])
          have hjn' : ¬ ((k + 1 + j : Nat) : Int) < (n : Int) := by omega
          obtain ⟨T, hT⟩ : ∃ T, T = k + 1 + j := ⟨_, rfl⟩
          rw [← hT] at hjn' ⊢
          clear hje hjn hT
          go_wp2_with fail
          go_roundw
          case rel => exact ⟨k + 1, us, X, by omega, by go_num, HJ.out, HT2.out, HB2.out⟩
          case measure => simp [intOf]; omega
    · have hke : k = n := by omega
      have hkn : ¬ (k : Int) < (n : Int) := by omega
      have HE := Lib.hid (show stL n m xss = Y by rw [HY.out, hke]; rfl)
      clear hke hlt
      go_wp2_with fail
      go_ret
      refine ⟨_, rfl, ⟨vs, ?_⟩, below_then HB1.out HB.out⟩
      rw [HE.out]
      exact HT.out.wide HB1.out.size (Nat.le_refl _)

/-- What StablePairs answers. -/
noncomputable def stablePairs (s : Int) (xss : List (List Int)) : List (List Int) × Int := if okA s xss = true then (stL s.toNat xss.length xss, 0) else ([], 1)
theorem stablePairs_1 {s : Int} {xss : List (List Int)} (h : okA s xss = false) : stablePairs s xss = ([], 1) := by unfold stablePairs; rw [if_neg (by simp [h])]
theorem stablePairs_0 {n m : Nat} {xss : List (List Int)} (h : okA (n : Int) xss = true) (hm : xss.length = m) : stablePairs (n : Int) xss = (stL n m xss, 0) := by unfold stablePairs; rw [if_pos h, Int.toNat_natCast, hm]
theorem stablePairs_len (s : Int) (xss : List (List Int)) : (stablePairs s xss).1.length ≤ 100 := by
  rcases hok : okA s xss with _ | _
  · rw [stablePairs_1 hok]; simp
  · obtain ⟨n, rfl, hg⟩ := good_of hok rfl
    rw [stablePairs_0 hok rfl]
    exact Nat.le_trans (stU_len _ _ _ _) (prL_leS n hg.n10)
theorem stablePairs_sum (s : Int) (xss : List (List Int)) : sumLens (stablePairs s xss).1 ≤ 200 := by
  have h0 := stablePairs_len s xss
  have h1 := sumLens_leC (k := 2) (xss := (stablePairs s xss).1) (fun x hx => by
    unfold stablePairs at hx
    split at hx
    · exact Nat.le_of_eq (stU_row _ _ _ _ x hx)
    · simp at hx)
  omega
/-- The lists of the stable sets are the stable lists. -/
theorem stS_lists {n m : Nat} {xss : List (List Int)} (hg : Good n m xss) : (stS n m xss (prsS (2 ^ n - 1))).map (fun b => listK b 10) = stL n m xss := by
  have h10 := hg.n10
  unfold stS stL stU
  rw [prsS_full h10, List.filter_map, List.map_map]
  have e : (prL n n).filter ((fun b => !hitB (firstF (apB n m xss) (fnd n m xss 400 b))) ∘ fun g => pairB g.1 g.2) = (prL n n).filter fun g => stB n m xss g.1 g.2 := by
    apply List.filter_congr
    rintro ⟨s, t⟩ hst
    have hl := prL_mem hst
    show (!hitB (firstF (apB n m xss) (fnd n m xss 400 (pairB s t)))) = stB n m xss s t
    unfold stB
    rw [goal_same hg (by omega) hl.2.2 (fun b _ hb => apB_two hg b hb)]
  rw [e]
  apply List.map_congr_left
  rintro ⟨s, t⟩ hst
  have hl := prL_mem (List.mem_filter.1 hst).1
  exact list_pair s (by omega) t (by omega) hl.2.1
theorem stS_lt {n m b : Nat} {xss : List (List Int)} (h : b ∈ stS n m xss (prsS (2 ^ n - 1))) : b < 1024 := by
  unfold stS at h
  exact prsS_lt (List.mem_filter.1 h).1
theorem stS_len (n m : Nat) (xss : List (List Int)) : (stS n m xss (prsS (2 ^ n - 1))).length ≤ 100 := by
  unfold stS
  exact Nat.le_trans (List.length_filter_le _ _) (prsS_len _)

set_option maxRecDepth 100000 in
set_option maxHeartbeats 4000000 in
theorem specStablePairs_any (s : Int) (A : Option Addr) (m cap : Nat) (xss : List (List Int)) (w : World) (h : RowsAt w A m xss) (hm : m ≤ 4611686018427387904)
    (hrows : ∀ (r : Nat) (xs : List Int), xss[r]? = some xs → xs.length ≤ 4611686018427387904) :
    Calls Try.prog 25 #[.agg #[.int .i64 s, .slice A m cap]] w (TabsTo2 (stablePairs s xss) w) := by
  have HR := Lib.hid hrows
  have HM := Lib.hid h.1
  have b0 : Below w.heap.size w (w.alloc (.cells #[.int .i64 s, .slice A m cap] 28)) := (Below.refl _ _).alloc (Nat.le_refl _) _
  have H0 := Lib.hid (h.below b0)
  have B0 := Lib.hid b0
  have HBX := Lib.hid (show Box (w.alloc (.cells #[.int .i64 s, .slice A m cap] 28)) w.heap.size [.int .i64 s, .slice A m cap] from Box.new _ _ _)
  clear hrows b0
  go_enter Try.func25, Try.ntmps25
  go_wp2_with fail
  refine (l01Ok_any w.heap.size s A m cap xss _ (by go_cell) (by go_cell) H0.out hm HR.out).mono ?_
  rintro e w' ⟨rfl, d, hd⟩
  have B1 := Lib.hid (show Below w.heap.size w w' by rw [hd]; exact below_drewN' B0.out d)
  have HB1 := Lib.hid (show Box w' w.heap.size [.int .i64 s, .slice A m cap] by rw [hd]; exact Box.below HBX.out (below_drewN' (Below.refl _ _) d))
  have H1 := Lib.hid (show RowsAt w' A m xss by rw [hd]; exact H0.out.below (below_drewN' (Below.refl _ _) d))
  clear hd
  rcases hok : okA s xss with _ | _
  · go_wp2_with fail
    go_ret2
    exact tabsTo2_mk (stablePairs_1 hok) ⟨[], (tabV_made w' w.heap.size B1.out.size).wide (Nat.le_refl _) (by simp)⟩ (B1.out.alloc B1.out.size _)
  · obtain ⟨n, hsn, hg⟩ := good_of hok HM.out
    subst hsn
    go_wp2_with fail
    refine (l02Stable_any w.heap.size n m cap A xss w' hg H1.out HB1.out).mono ?_
    rintro e w3 ⟨u, rfl, t3, b3⟩
    go_wp2_with fail
    go_ret2
    exact tabsTo2_mk (stablePairs_0 hok HM.out) (t3.wide B1.out.size (Nat.le_refl _)) (below_then B1.out b3)

set_option maxRecDepth 100000 in
set_option maxHeartbeats 4000000 in
theorem implStablePairs_any (s : Int) (A : Option Addr) (m cap : Nat) (xss : List (List Int)) (w : World) (h : RowsAt w A m xss) (hm : m ≤ 4611686018427387904)
    (hrows : ∀ (r : Nat) (xs : List Int), xss[r]? = some xs → xs.length ≤ 4611686018427387904) :
    Calls Try.prog 26 #[.agg #[.int .i64 s, .slice A m cap]] w (TabsTo2 (stablePairs s xss) w) := by
  have HR := Lib.hid hrows
  have HM := Lib.hid h.1
  obtain ⟨w1, hw1⟩ : ∃ w1, w1 = w.alloc (.cells #[.int .i64 s, .slice A m cap] 28) := ⟨_, rfl⟩
  have b1 : Below w.heap.size w w1 := by rw [hw1]; exact (Below.refl _ _).alloc (Nat.le_refl _) _
  have HBX := Lib.hid (show Box w1 w.heap.size [.int .i64 s, .slice A m cap] by rw [hw1]; exact Box.new _ _ _)
  have HX := Lib.hid (h.below b1)
  have HB1 := Lib.hid b1
  have HW := Lib.hid hw1
  clear h b1 hw1 hrows
  go_enter Try.func26, Try.ntmps26
  go_wp2_with fail
  rw [← HW.out]
  refine (implValid_any s A m cap xss w1 HX.out hm HR.out).mono ?_
  rintro e w2 ⟨rfl, b2⟩
  have HB2 := Lib.hid (below_then HB1.out b2)
  have HX2 := Lib.hid (HX.out.below b2)
  have HBX2 := Lib.hid (Box.below HBX.out b2)
  clear b2 HBX HX HW HB1
  rcases hok : okA s xss with _ | _
  · go_wp2_with fail
    go_ret2
    exact tabsTo2_mk (stablePairs_1 hok) ⟨[], tabV_none _ _ _⟩ HB2.out
  · obtain ⟨n, hsn, hg⟩ := good_of hok HM.out
    subst hsn
    have HF := Lib.hid (stablePairs_0 hok HM.out)
    have HG := Lib.hid hg
    have q0 := HBX2.out 0 _ rfl
    have q1 := HBX2.out 1 _ rfl
    have HLS := Lib.hid (stS_lists hg)
    have HLL := Lib.hid (stS_len n m xss)
    have HLT := Lib.hid (show ∀ b ∈ stS n m xss (prsS (2 ^ n - 1)), b < 1024 from fun b hb => stS_lt hb)
    obtain ⟨Q, hQ⟩ : ∃ Q, Q = stS n m xss (prsS (2 ^ n - 1)) := ⟨_, rfl⟩
    rw [← hQ] at HLS HLL HLT
    have HQ := Lib.hid hQ
    clear hg hok hQ
    go_wp2_with fail
    refine (stablePairs_any A n m cap xss w2 HG.out HX2.out).mono ?_
    rw [← HQ.out]
    rintro e w3 ⟨u, rfl, o3, b3⟩
    obtain ⟨A4, C4, rfl⟩ := own2_form o3
    have HS3 := Lib.hid (show SetsAt w3 A4 Q.length Q by
      rcases o3.2 with ⟨hv0, h0⟩ | ⟨g, cap', cur, hv0, hg, hh, hnc, hcap, hsz, htake⟩
      · have hq : Q = [] := List.eq_nil_of_length_eq_zero (by omega)
        refine ⟨rfl, fun k b hb => ?_⟩
        rw [hq] at hb; simp at hb
      · simp only [Value.slice.injEq] at hv0
        obtain ⟨rfl, _, rfl⟩ := hv0
        exact SetsAt.own o3 rfl)
    have HB3 := Lib.hid (below_then HB2.out b3)
    clear o3 b3 q0 q1
    go_wp2_with fail
    refine (listsOf_any A4 Q.length C4 Q w3 HS3.out (by have := HLL.out; omega) HLT.out).mono ?_
    rw [HLS.out]
    rintro e w4 ⟨u, rfl, t4, b4⟩
    go_wp2_with fail
    go_ret2
    exact tabsTo2_mk HF.out (t4.wide HB3.out.size (Nat.le_refl _)) (below_then HB3.out b4)

end Go.Proofs.Ytcglncepmieaaaa
