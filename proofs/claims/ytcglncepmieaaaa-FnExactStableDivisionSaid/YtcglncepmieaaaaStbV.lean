/-
  The division of the stable pairs: the contracts of both StableDivision.
-/
import Derived.Test.YtcglncepmieaaaaStbD
import Derived.Test.YtcglncepmieaaaaLcM
import Derived.Test.YtcglncepmieaaaaAll
import Derived.Test.YtcglncepmieaaaaClone
import Derived.StillTailTactics
namespace Go.Proofs.Ytcglncepmieaaaa
open Go.RowKit Go.Deep Go.ChangeShapes Go.WideShapes
open Hunt Srch From Moved

theorem idA_takeS : ∀ n, n < 11 → idA.take n = allL n := by decide
/-- The division of the stable pairs. -/
noncomputable def stDiv (n m : Nat) (xss : List (List Int)) : List Int := tidL (relF (idL n) (gsS n m xss))
theorem stDiv_len {n m : Nat} {xss : List (List Int)} (hg : Good n m xss) : (stDiv n m xss).length = n := by
  have h1 := rel_inv hg _ (Nat.le_refl _)
  rw [List.take_length] at h1
  unfold stDiv
  rw [tidL_len, h1.labs.len]
theorem pair_read {w : World} {At : Option Addr} {N k s t : Nat} {gs : List (Nat × Nat)} (h : RowsAt w At N (gs.map fun g => [((g.1 : Nat) : Int), ((g.2 : Nat) : Int)])) (hk : gs[k]? = some (s, t)) :
    ∃ bT oT bR oR cR, At = some ⟨bT, oT, none⟩ ∧ w.cell? ⟨bT, oT + k, none⟩ = some (.slice (some ⟨bR, oR, none⟩) 2 cR) ∧ w.cell? ⟨bR, oR, none⟩ = some (.int .i64 (s : Int)) ∧ w.cell? ⟨bR, oR + 1, none⟩ = some (.int .i64 (t : Int)) := by
  have hkl : k < N := by rw [← h.1, List.length_map]; exact lt_of_some hk
  obtain ⟨row, bT, oT, A', c', hrow, rfl, hc, hnum⟩ := h.at_ hkl
  rw [List.getElem?_map, hk] at hrow
  obtain rfl := (Option.some.inj hrow).symm
  obtain ⟨y, bR, oR, hy, rfl, hcy⟩ := hnum.at_ (show 0 < 2 by decide)
  obtain ⟨y', bR', oR', hy', he, hcy'⟩ := hnum.at_ (show 1 < 2 by decide)
  obtain ⟨rfl, rfl⟩ : bR = bR' ∧ oR = oR' := by simpa using he
  simp only [List.getElem?_cons_zero, Option.some.injEq] at hy
  simp only [List.getElem?_cons_succ, List.getElem?_cons_zero, Option.some.injEq] at hy'
  subst hy hy'
  exact ⟨bT, oT, bR, oR, c', rfl, hc, hcy, hcy'⟩
theorem lab_cell {w : World} {base G n c u : Nat} {L : List Int} (h : w.ownsRow base 2 1 (.slice (some ⟨G, 0, none⟩) n c) n (L.map (Value.int .i64))) (hl : L.length = n) (hu : u < n) : w.cell? ⟨G, u, none⟩ = some (.int .i64 (lab L u)) := by
  rw [h.cellAt u (by omega), List.getElem?_map, lab_at (by omega)]; rfl

set_option maxRecDepth 100000 in
set_option maxHeartbeats 4000000 in
theorem l02Classes_any (p n m cap : Nat) (A : Option Addr) (xss : List (List Int)) (w : World) (hg : Good n m xss) (hR : RowsAt w A m xss) (hb : Box w p [.int .i64 (n : Int), .slice A m cap]) :
    Calls Try.prog 66 #[.pointer (some ⟨p, 0, none⟩)] w fun e w' => ∃ u, e = .returned u ∧ w'.ownsRow w.heap.size 2 1 u (stDiv n m xss).length ((stDiv n m xss).map (Value.int .i64)) ∧ Below w.heap.size w w' := by
  have HG := Lib.hid hg
  have HH := Lib.hid hR
  have HBX := Lib.hid hb
  have hn10 : n ≤ 10 := hg.n10
  have hn1 : 1 ≤ n := hg.n1
  obtain ⟨R, hRR⟩ : ∃ R, R = stDiv n m xss := ⟨_, rfl⟩
  rw [← hRR]
  have hRl : R.length = n := by rw [hRR]; exact stDiv_len hg
  have HRR := Lib.hid hRR
  have HRL := Lib.hid hRl
  have q0 := hb 0 _ rfl
  clear hg hR hb hRR hRl
  go_enter Try.func66, Try.ntmps66
  go_wp2_with fail
  refine (l01All_any n w hn10).mono ?_
  rintro e w1 ⟨u, rfl, o1, b1⟩
  rw [show (allL n).length = n by simp [allL]] at o1
  obtain ⟨A1, c1, rfl⟩ := own_form o1
  obtain ⟨G, rfl⟩ := own_addr o1 (by omega)
  have HO1 := Lib.hid o1
  have HB1 := Lib.hid b1
  have HH1 := Lib.hid (HH.out.below b1)
  have HBX1 := Lib.hid (Box.below HBX.out b1)
  clear o1 b1 q0
  go_wp2_with fail
  refine (l02Stable_any p n m cap A xss w1 HG.out HH1.out HBX1.out).mono ?_
  rintro e w2 ⟨u, rfl, t2, b2⟩
  obtain ⟨At, ct, rfl⟩ := t2.form
  have hr2 := t2.rows rfl
  rw [gsS_list] at hr2
  obtain ⟨N, hN⟩ : ∃ N, N = (stL n m xss).length := ⟨_, rfl⟩
  rw [← gsS_list, ← hN] at hr2
  rw [gsS_list] at hr2
  rw [← hN]
  have HNN := Lib.hid (show N = (gsS n m xss).length by rw [hN, gsS_list, List.length_map])
  have HR2 := Lib.hid hr2
  have hN100 : N ≤ 100 := by rw [HNN.out]; exact gsS_len n m xss hn10
  have HO2 := Lib.hid (own_below HO1.out b2)
  have HB2 := Lib.hid (below_then HB1.out b2)
  have HS2 := Lib.hid b2.size
  have HGL := Lib.hid (show w.heap.size ≤ G ∧ G < w1.heap.size from HO1.out.lt G rfl)
  have HAB := Lib.hid (show ∀ bT oT, At = some ⟨bT, oT, none⟩ → w1.heap.size ≤ bT from fun bT oT e => by
    obtain ⟨vs, tv⟩ := t2
    subst e
    rcases tv.out.2 with ⟨hv, _⟩ | ⟨g, cap', cur, hv, hg, _⟩
    · simp at hv
    · simp only [Value.slice.injEq, Option.some.injEq, Addr.mk.injEq] at hv
      omega)
  have HTV := Lib.hid t2
  clear t2 hr2 b2 hN
  go_wp2_with fail
  go_loopw [5] (fun iv wr => ∃ k : Nat, k ≤ N ∧ iv = .int .i64 k ∧ wr.ownsRow w.heap.size 2 1 (.slice (some ⟨G, 0, none⟩) n c1) n ((mrgF (idL n) ((gsS n m xss).take k)).map (Value.int .i64)) ∧ Only G (G + 1) w2 wr) (fun iv _ => N - (intOf iv).toNat)
  case atStart => exact ⟨0, Nat.zero_le _, rfl, HO2.out, Only.refl _ _ _⟩
  case round =>
    obtain ⟨k, hk, rfl, hown, hon⟩ := hrel
    have hinv := mrg_inv (xss := xss) HG.out k (by rw [← HNN.out]; exact hk)
    obtain ⟨L, hL⟩ : ∃ L, L = mrgF (idL n) ((gsS n m xss).take k) := ⟨_, rfl⟩
    rw [← hL] at hown hinv
    have HO := Lib.hid hown
    have HON := Lib.hid hon
    have HL := Lib.hid hL
    have hll := hinv.labs.len
    have HLL := Lib.hid hll
    have hk0 : (0 : Int) ≤ (k : Int) := by omega
    have HRX := Lib.hid (show RowsAt wr At N ((gsS n m xss).map fun g => [((g.1 : Nat) : Int), ((g.2 : Nat) : Int)]) by
      obtain ⟨vs, tv⟩ := HTV.out
      have hg1 := HGL.out
      have h9 := TabIn.rows (show TabIn w1.heap.size w2.heap.size wr (.slice At N ct) (stL n m xss) from ⟨vs, by
        have h8 := tv.only hon (.inr (by omega))
        rw [show (stL n m xss).length = N by rw [HNN.out, gsS_list, List.length_map]] at h8
        exact h8⟩) (by rw [HNN.out, gsS_list, List.length_map])
      exact h9)
    clear hown hon hL hinv hll
    by_cases hlt : k < N
    · have hkn : (k : Int) < (N : Int) := by omega
      obtain ⟨⟨s, t⟩, hst⟩ : ∃ g, (gsS n m xss)[k]? = some g := ⟨_, List.getElem?_eq_getElem (by rw [← HNN.out]; exact hlt)⟩
      obtain ⟨e1, e2, _⟩ := (gsS_mem HG.out).1 (List.mem_of_getElem? hst)
      obtain ⟨bT, oT, bR, oR, cR, rfl, d1, d2, d3⟩ := pair_read HRX.out hst
      have d4 := lab_cell HO.out HLL.out (show s < n by omega)
      have d5 := lab_cell HO.out HLL.out e2
      have HST := Lib.hid (mrgF_snoc (L := idL n) hst)
      obtain ⟨x, hx⟩ : ∃ x, x = lab L s := ⟨_, rfl⟩
      obtain ⟨y, hy⟩ : ∃ y, y = lab L t := ⟨_, rfl⟩
      rw [← hx] at d4
      rw [← hy] at d5
      have HX := Lib.hid hx
      have HY := Lib.hid hy
      have i1 : (0 : Int) ≤ (s : Int) := by omega
      have i2 : (s : Int) < (n : Int) := by omega
      have i3 : (0 : Int) ≤ (t : Int) := by omega
      have i4 : (t : Int) < (n : Int) := by omega
      clear hst hx hy
      go_wp2_with fail
      go_still_tail 19, (by decide +kernel)
      obtain ⟨w5, hw5⟩ : ∃ w5, w5 = wr.drew := ⟨_, rfl⟩
      have b5 : Below wr.heap.size wr w5 := by rw [hw5]; exact below_drewN' (Below.refl _ _) 1
      have HO5 := Lib.hid (own_below HO.out b5)
      have HON5 := Lib.hid (HON.out.trans (Only.of_below b5 _ _))
      change wpList _ _ _ _ _ wr.drew
      rw [← hw5]
      clear hw5 b5 d1 d2 d3 d4 d5
      go_wp2_with fail
      refine (l01Merge_any w.heap.size G c1 n L y x w5 HO5.out HLL.out hn10).mono ?_
      rintro e w6 ⟨rfl, o6, on6⟩
      have HO6 := Lib.hid o6
      have HON6 := Lib.hid (HON5.out.trans on6)
      clear o6 on6
      go_wp2_with fail
      go_roundw
      case rel => exact ⟨k + 1, by omega, by go_num, by rw [HST.out, ← HL.out, ← HX.out, ← HY.out]; exact HO6.out, HON6.out⟩
      case measure => simp [intOf]; omega
    · have hke : k = N := by omega
      have hkn : ¬ (k : Int) < (N : Int) := by omega
      have HE := Lib.hid (show tidL L = R by rw [HL.out, hke, HNN.out, List.take_length, HRR.out, rel_mrg HG.out]; rfl)
      have HN1 := Lib.hid (NumsAt.own HO.out HLL.out rfl)
      have hbw : Below w.heap.size w wr := Only.below HB2.out HON.out HGL.out.1 HB2.out.size
      have HBW := Lib.hid hbw
      clear hke hlt hbw
      go_wp2_with fail
      refine (l01Tidied_any (some ⟨G, 0, none⟩) n c1 L wr HN1.out (by omega)).mono ?_
      rw [HE.out]
      rintro e w6 ⟨v, rfl, o6, b6⟩
      go_wp2_with fail
      go_ret
      refine ⟨v, rfl, ?_, below_then HBW.out b6⟩
      rw [HRL.out]
      exact own_base o6 HBW.out.size

/-- What StableDivision answers. -/
noncomputable def stableDivision (s : Int) (xss : List (List Int)) : List Int × Int := if okA s xss = true then (stDiv s.toNat xss.length xss, 0) else ([], 1)
theorem stableDivision_1 {s : Int} {xss : List (List Int)} (h : okA s xss = false) : stableDivision s xss = ([], 1) := by unfold stableDivision; rw [if_neg (by simp [h])]
theorem stableDivision_0 {n m : Nat} {xss : List (List Int)} (h : okA (n : Int) xss = true) (hm : xss.length = m) : stableDivision (n : Int) xss = (stDiv n m xss, 0) := by unfold stableDivision; rw [if_pos h, Int.toNat_natCast, hm]
theorem stableDivision_len (s : Int) (xss : List (List Int)) : (stableDivision s xss).1.length ≤ 10 := by
  rcases hok : okA s xss with _ | _
  · rw [stableDivision_1 hok]; simp
  · obtain ⟨n, rfl, hg⟩ := good_of hok rfl
    rw [stableDivision_0 hok rfl]
    show (stDiv _ _ _).length ≤ 10
    rw [stDiv_len hg]
    exact hg.n10

set_option maxRecDepth 100000 in
set_option maxHeartbeats 4000000 in
theorem specStableDivision_any (s : Int) (A : Option Addr) (m cap : Nat) (xss : List (List Int)) (w : World) (h : RowsAt w A m xss) (hm : m ≤ 4611686018427387904)
    (hrows : ∀ (r : Nat) (xs : List Int), xss[r]? = some xs → xs.length ≤ 4611686018427387904) :
    Calls Try.prog 27 #[.agg #[.int .i64 s, .slice A m cap]] w (ListsTo (stableDivision s xss) w) := by
  have HR := Lib.hid hrows
  have HM := Lib.hid h.1
  have b0 : Below w.heap.size w (w.alloc (.cells #[.int .i64 s, .slice A m cap] 28)) := (Below.refl _ _).alloc (Nat.le_refl _) _
  have H0 := Lib.hid (h.below b0)
  have B0 := Lib.hid b0
  have HBX := Lib.hid (show Box (w.alloc (.cells #[.int .i64 s, .slice A m cap] 28)) w.heap.size [.int .i64 s, .slice A m cap] from Box.new _ _ _)
  clear hrows b0
  go_enter Try.func27, Try.ntmps27
  go_wp2_with fail
  refine (l01Ok_any w.heap.size s A m cap xss _ (by go_cell) (by go_cell) H0.out hm HR.out).mono ?_
  rintro e w' ⟨rfl, d, hd⟩
  have B1 := Lib.hid (show Below w.heap.size w w' by rw [hd]; exact below_drewN' B0.out d)
  have HB1 := Lib.hid (show Box w' w.heap.size [.int .i64 s, .slice A m cap] by rw [hd]; exact Box.below HBX.out (below_drewN' (Below.refl _ _) d))
  have H1 := Lib.hid (show RowsAt w' A m xss by rw [hd]; exact H0.out.below (below_drewN' (Below.refl _ _) d))
  clear hd
  rcases hok : okA s xss with _ | _
  · go_wp2_with fail
    go_ret2
    exact listsTo_mk (xs := []) (stableDivision_1 hok) (own_none' rfl B1.out.size) (B1.out.alloc B1.out.size _)
  · obtain ⟨n, hsn, hg⟩ := good_of hok HM.out
    subst hsn
    go_wp2_with fail
    refine (l02Classes_any w.heap.size n m cap A xss w' hg H1.out HB1.out).mono ?_
    rintro e w3 ⟨u, rfl, o3, b3⟩
    go_wp2_with fail
    go_ret2
    exact listsTo_mk (stableDivision_0 hok HM.out) (own_base o3 B1.out.size) (below_then B1.out b3)

set_option maxRecDepth 100000 in
set_option maxHeartbeats 4000000 in
theorem implStableDivision_any (s : Int) (A : Option Addr) (m cap : Nat) (xss : List (List Int)) (w : World) (h : RowsAt w A m xss) (hm : m ≤ 4611686018427387904)
    (hrows : ∀ (r : Nat) (xs : List Int), xss[r]? = some xs → xs.length ≤ 4611686018427387904) :
    Calls Try.prog 28 #[.agg #[.int .i64 s, .slice A m cap]] w (ListsTo (stableDivision s xss) w) := by
  have HR := Lib.hid hrows
  have HM := Lib.hid h.1
  obtain ⟨w1, hw1⟩ : ∃ w1, w1 = w.alloc (.cells #[.int .i64 s, .slice A m cap] 28) := ⟨_, rfl⟩
  have b1 : Below w.heap.size w w1 := by rw [hw1]; exact (Below.refl _ _).alloc (Nat.le_refl _) _
  have HBX := Lib.hid (show Box w1 w.heap.size [.int .i64 s, .slice A m cap] by rw [hw1]; exact Box.new _ _ _)
  have HX := Lib.hid (h.below b1)
  have HB1 := Lib.hid b1
  have HW := Lib.hid hw1
  clear h b1 hw1 hrows
  go_enter Try.func28, Try.ntmps28
  go_wp2_with fail
  rw [← HW.out]
  refine (implValid_any s A m cap xss w1 HX.out hm HR.out).mono ?_
  rintro e w2 ⟨rfl, b2⟩
  have W2 := Lib.hid (below_then HB1.out b2)
  have HX2 := Lib.hid (HX.out.below b2)
  have X2 := Lib.hid (Box.below HBX.out b2)
  clear b2 HBX HX HW HB1
  rcases hok : okA s xss with _ | _
  · go_wp2_with fail
    go_ret2
    exact listsTo_mk (xs := []) (stableDivision_1 hok) (World.ownsRow_nil _ _ _ _) W2.out
  · obtain ⟨n, hsn, hg⟩ := good_of hok HM.out
    subst hsn
    have HF := Lib.hid (stableDivision_0 hok HM.out)
    have hn10 : n ≤ 10 := hg.n10
    have hn1 : 1 ≤ n := hg.n1
    have HG := Lib.hid hg
    have HLS := Lib.hid (stS_lists hg)
    have HLL := Lib.hid (stS_len n m xss)
    have HLT := Lib.hid (show ∀ b ∈ stS n m xss (prsS (2 ^ n - 1)), b < 1024 from fun b hb => stS_lt hb)
    obtain ⟨Q, hQ⟩ : ∃ Q, Q = stS n m xss (prsS (2 ^ n - 1)) := ⟨_, rfl⟩
    rw [← hQ] at HLS HLL HLT
    have HQ := Lib.hid hQ
    have q0 := X2.out 0 _ rfl
    have R0 := Lib.hid (show ∀ W', Below w2.heap.size w2 W' → W'.cell? ⟨w.heap.size, 0, none⟩ = some (.int .i64 (n : Int)) from fun W' hb => (hb.cell (cell_lt q0)).trans q0)
    clear hg hok hQ
    go_wp2_with fail
    go_region_law
      (first
        | (go_simp; go_at_call 67; refine (identity_any _).mono ?_; rintro e wi ⟨rfl, bi⟩; have CI : Hid (Below w2.heap.size w2 wi) := Lib.hid (below_then (below_drewN' (Below.refl _ _) 1) bi); have qi := R0.out wi CI.out; clear bi)
        | (go_simp; go_at_call 68; refine (list_any n idA _ rfl hn10).mono ?_; rw [idA_takeS n (by omega)]; rintro e w3 ⟨v, rfl, o3, b3⟩; have O3 := Lib.hid (own_base o3 CI.out.size); have B3 : Hid (Below w2.heap.size w2 w3) := Lib.hid (below_then CI.out b3); clear o3 b3)
        | fail)
    all_goals
      obtain ⟨A9, c9, rfl⟩ := own_form O3.out
      obtain ⟨G, rfl⟩ := own_addr O3.out (by omega)
      have X3 := Lib.hid (Box.below X2.out B3.out)
      have q0' := X3.out 0 _ rfl
      have q1' := X3.out 1 _ rfl
      go_simp
      go_wp2_with fail
      refine (stablePairs_any A n m cap xss w3 HG.out (HX2.out.below B3.out)).mono ?_
      rw [← HQ.out]
      rintro e w4 ⟨u, rfl, o4, b4⟩
      obtain ⟨A4, C4, rfl⟩ := own2_form o4
      have HS4 := Lib.hid (show SetsAt w4 A4 Q.length Q by
        rcases o4.2 with ⟨hv0, h0⟩ | ⟨g, cap', cur, hv0, hg, hh, hnc, hcap, hsz, htake⟩
        · have hq : Q = [] := List.eq_nil_of_length_eq_zero (by omega)
          refine ⟨rfl, fun k b hb => ?_⟩
          rw [hq] at hb; simp at hb
        · simp only [Value.slice.injEq] at hv0
          obtain ⟨rfl, _, rfl⟩ := hv0
          exact SetsAt.own o4 rfl)
      have HB4 := Lib.hid (below_then B3.out b4)
      have HO4 := Lib.hid (own_below O3.out b4)
      have HZ4 := Lib.hid (show w3.heap.size ≤ w4.heap.size from b4.size)
      clear o4 b4 q0' q1'
      go_wp2_with fail
      refine (listsOf_any A4 Q.length C4 Q w4 HS4.out (by have := HLL.out; omega) HLT.out).mono ?_
      rw [HLS.out]
      rintro e w5 ⟨u, rfl, t5, b5⟩
      obtain ⟨At, ct, rfl⟩ := t5.form
      obtain ⟨N, hN⟩ : ∃ N, N = (stL n m xss).length := ⟨_, rfl⟩
      rw [← hN] at t5 ⊢
      have HNN := Lib.hid (show N = (gsS n m xss).length by rw [hN, gsS_list, List.length_map])
      have hN100 : N ≤ 100 := by rw [HNN.out]; exact gsS_len n m xss hn10
      have HO5 := Lib.hid (own_below HO4.out b5)
      have HB5 := Lib.hid (below_then HB4.out b5)
      have HGL := Lib.hid (show w2.heap.size ≤ G ∧ G < w3.heap.size from O3.out.lt G rfl)
      have HTV := Lib.hid t5
      clear t5 b5 hN
      go_wp2_with fail
      go_loopw [18] (fun iv wr => ∃ k : Nat, k ≤ N ∧ iv = .int .i64 k ∧ wr.ownsRow w2.heap.size 2 1 (.slice (some ⟨G, 0, none⟩) n c9) n ((relF (idL n) ((gsS n m xss).take k)).map (Value.int .i64)) ∧ Only G (G + 1) w5 wr) (fun iv _ => N - (intOf iv).toNat)
      case atStart => exact ⟨0, Nat.zero_le _, rfl, HO5.out, Only.refl _ _ _⟩
      case round =>
        obtain ⟨k, hk, rfl, hown, hon⟩ := hrel
        have hinv := rel_inv (xss := xss) HG.out k (by rw [← HNN.out]; exact hk)
        obtain ⟨L, hL⟩ : ∃ L, L = relF (idL n) ((gsS n m xss).take k) := ⟨_, rfl⟩
        rw [← hL] at hown hinv
        have HO := Lib.hid hown
        have HON := Lib.hid hon
        have HL := Lib.hid hL
        have hll := hinv.labs.len
        have HLB := Lib.hid hll
        have hk0 : (0 : Int) ≤ (k : Int) := by omega
        have HRX := Lib.hid (show RowsAt wr At N ((gsS n m xss).map fun g => [((g.1 : Nat) : Int), ((g.2 : Nat) : Int)]) by
          obtain ⟨vs, tv⟩ := HTV.out
          have hg1 := HGL.out
          have hz := HZ4.out
          exact TabIn.rows (show TabIn w4.heap.size w5.heap.size wr (.slice At N ct) (stL n m xss) from ⟨vs, tv.only hon (.inr (by omega))⟩) (by rw [HNN.out, List.length_map]))
        clear hown hon hL hinv hll
        by_cases hlt : k < N
        · have hkn : (k : Int) < (N : Int) := by omega
          obtain ⟨⟨s, t⟩, hst⟩ : ∃ g, (gsS n m xss)[k]? = some g := ⟨_, List.getElem?_eq_getElem (by rw [← HNN.out]; exact hlt)⟩
          obtain ⟨e1, e2, _⟩ := (gsS_mem HG.out).1 (List.mem_of_getElem? hst)
          obtain ⟨bT, oT, bR, oR, cR, rfl, d1, d2, d3⟩ := pair_read HRX.out hst
          have d4 := lab_cell HO.out HLB.out (show s < n by omega)
          have d5 := lab_cell HO.out HLB.out e2
          have f5 : wr.frozen? ⟨G, t, none⟩ = false := HO.out.frozenAt t
          have HST := Lib.hid (relF_snoc (L := idL n) hst)
          obtain ⟨x, hx⟩ : ∃ x, x = lab L s := ⟨_, rfl⟩
          obtain ⟨y, hy⟩ : ∃ y, y = lab L t := ⟨_, rfl⟩
          rw [← hx] at d4
          rw [← hy] at d5
          have HX := Lib.hid hx
          have i1 : (0 : Int) ≤ (s : Int) := by omega
          have i2 : (s : Int) < (n : Int) := by omega
          have i3 : (0 : Int) ≤ (t : Int) := by omega
          have i4 : (t : Int) < (n : Int) := by omega
          clear hst hx hy
          go_wp2_with fail
          go_still_tail 11, (by decide +kernel)
          obtain ⟨w7, hw7⟩ : ∃ w7, w7 = wr.drew := ⟨_, rfl⟩
          have b7 : Below wr.heap.size wr w7 := by rw [hw7]; exact below_drewN' (Below.refl _ _) 1
          have HO7 := Lib.hid (own_below HO.out b7)
          have HON7 := Lib.hid (HON.out.trans (Only.of_below b7 _ _))
          have d7 := (b7.cell (cell_lt d5)).trans d5
          have f7 : w7.frozen? ⟨G, t, none⟩ = false := by rw [hw7]; exact f5
          change wpList _ _ _ _ _ wr.drew
          rw [← hw7]
          clear hw7 b7 d1 d2 d3 d4 d5 f5
          go_wp2_with fail
          go_roundw
          case rel =>
            refine ⟨k + 1, by omega, by go_num, ?_, HON7.out.trans (only_setCell w7 G t (.int .i64 x))⟩
            have h9 := (HO7.out.stored t (.int .i64 x)).1
            rw [← List.map_set, HX.out] at h9
            rw [HST.out, ← HL.out, HX.out]
            exact h9
          case measure => simp [intOf]; omega
        · have hke : k = N := by omega
          have hkn : ¬ (k : Int) < (N : Int) := by omega
          have HE := Lib.hid (show tidL L = stDiv n m xss by rw [HL.out, hke, HNN.out, List.take_length]; rfl)
          have HN1 := Lib.hid (NumsAt.own HO.out HLB.out rfl)
          have hbw : Below w2.heap.size w2 wr := Only.below HB5.out HON.out HGL.out.1 HB5.out.size
          have HBW := Lib.hid hbw
          clear hke hlt hbw
          go_wp2_with fail
          refine (divisionOf_any (some ⟨G, 0, none⟩) n c9 L wr HN1.out (by omega)).mono ?_
          rw [HE.out]
          rintro e w8 ⟨v, rfl, o8, b8⟩
          have HO8 := Lib.hid (show w8.ownsRow w.heap.size 2 1 v (stDiv n m xss).length ((stDiv n m xss).map (Value.int .i64)) by rw [stDiv_len HG.out]; exact own_base o8 (Nat.le_trans W2.out.size HBW.out.size))
          have HB8 := Lib.hid (below_then W2.out (below_then HBW.out b8))
          clear o8 b8
          go_wp2_with fail
          go_ret2
          exact listsTo_mk HF.out HO8.out HB8.out

end Go.Proofs.Ytcglncepmieaaaa
