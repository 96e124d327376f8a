/-
  An adaptive run: the program's AdaptiveRun.
-/
import Derived.Test.YtdelanjkaokiaaaAdM
import Derived.Test.YtdelanjkaokiaaaLetI
namespace Go.Proofs.Ytdelanjkaokiaaa
open Go.RowKit Go.Deep Go.ChangeShapes Go.WideShapes

theorem okL_of_check {s : Int} {xss : List (List Int)} {ls set : List Int} (h : checkCode s xss ls set = 0) : okL s xss ls = true := by
  rcases h1 : okL s xss ls with _ | _
  · rw [check_1 h1] at h; cases h
  · rfl
theorem checkM_yes {s x : Int} {xss : List (List Int)} {ls set : List Int} (h : checkM s xss ls set [x] = 0) : checkCode s xss ls set = 0 ∧ hasB set x = true := by
  unfold checkM at h
  split at h
  · cases h
  · rename_i hno
    refine ⟨h, ?_⟩
    obtain ⟨n, rfl, _, h2, _, _⟩ := adaptiveDepth_yes h
    have h1 := okL_of_check h
    rcases hh : hasB set x with _ | _
    · exact absurd ⟨h1, h2, by simp [hh]⟩ hno
    · rfl
theorem adaptiveRun_no {s x C : Int} {xss : List (List Int)} {ls set : List Int} (h : checkM s xss ls set [x] = C) (hc : ¬ C = 0) : adaptiveRun s xss ls set x = ([], 0, C) := by
  rcases h1 : okL s xss ls with _ | _
  · rw [adaptiveRun_1 h1]
    rw [checkM_no (check_1 h1) (.inl rfl)] at h
    rw [← h]
  · obtain ⟨n, rfl, _⟩ := goodL_of h1 rfl
    rcases h2 : setB (n : Int) set with _ | _
    · rw [adaptiveRun_2 h1 h2]
      rw [checkM_no (check_2 h1 h2) (.inr rfl)] at h
      rw [← h]
    · rcases h3 : hasB set x with _ | _
      · rw [adaptiveRun_3 h1 h3]
        rw [checkM_out h1 h2 (by simp [h3])] at h
        rw [← h]
      · rw [checkM_in (by simp [h3])] at h
        rcases Int.lt_or_le (deepN n xss ls set) 0 with h4 | h4
        · rw [adaptiveRun_6 h1 h2 h3 h4]
          rw [check_6 h1 h2 h4] at h
          rw [← h]
        · rw [check_0 h1 h2 (by omega)] at h
          exact absurd h.symm hc
theorem tab_val {n N b : Nat} {bel : Nat → Nat → Nat → Nat} (hb : b < N) (hd : 0 ≤ depF n bel b) : tabF n bel N 1024 b = depF n bel b := by
  unfold tabF depF at *
  rw [if_pos hb, if_pos hd]

set_option maxRecDepth 100000 in
set_option maxHeartbeats 4000000 in
theorem implAdaptiveRun_any (s : Int) (A : Option Addr) (n c : Nat) (xss : List (List Int)) (B : Option Addr) (m d : Nat) (ls : List Int) (A2 : Option Addr) (l cap : Nat) (set : List Int) (x : Int) (w : World) (h : RowsAt w A n xss) (hn : n ≤ 4611686018427387904)
    (hrows : ∀ (r : Nat) (xs : List Int), xss[r]? = some xs → xs.length ≤ 4611686018427387904) (g : NumsAt w B m ls) (hm : m ≤ 4611686018427387904) (hs : NumsAt w A2 l set) (hl : l ≤ 4611686018427387904) :
    Calls Try.prog 21 #[.agg #[.int .i64 s, .slice A n c, .slice B m d], .slice A2 l cap, .int .i64 x] w (Lists3To (adaptiveRun s xss ls set x) w) := by
  obtain ⟨i0, hi, hz0, hz1, hz2⟩ := info_parts info_int64
  have HR := Lib.hid hrows
  have HL := Lib.hid h.1
  obtain ⟨R, hR⟩ : ∃ R, R = adaptiveRun s xss ls set x := ⟨_, rfl⟩
  rw [← hR]
  have HRR := Lib.hid hR
  clear hrows hR
  obtain ⟨w1, hw1⟩ : ∃ w1, w1 = w.alloc (.cells #[.int .i64 s, .slice A n c, .slice B m d] 33) := ⟨_, rfl⟩
  have b1 : Below w.heap.size w w1 := by rw [hw1]; exact (Below.refl _ _).alloc (Nat.le_refl _) _
  have X1 := Lib.hid (show LBox w1 w.heap.size s A n c B m d by rw [hw1]; exact Box.new _ _ _)
  have HX := Lib.hid (h.below b1)
  have HY := Lib.hid (g.below b1)
  have HS := Lib.hid (hs.below b1)
  have BB := Lib.hid b1
  have HW := Lib.hid hw1
  clear h g hs b1 hw1
  go_enter Try.func21, Try.ntmps21
  go_upto_region 1 with fail
  rw [← HW.out]
  have q0 := X1.out 0 _ rfl
  have q1 := X1.out 1 _ rfl
  have q2 := X1.out 2 _ rfl
  go_wp2_with fail
  obtain ⟨w0, hw0⟩ : ∃ w0, w0 = w1.alloc (.cells #[.int .i64 x] 2) := ⟨_, rfl⟩
  rw [← hw0]
  have b0 : Below w1.heap.size w1 w0 := by rw [hw0]; exact (Below.refl _ _).alloc (Nat.le_refl _) _
  have hone : NumsAt w0 (some ⟨w1.heap.size, 0, none⟩) 1 [x] := NumsAt.own (base := w1.heap.size) (c := 1) (e := 2) (m := 1) (by rw [hw0]; exact World.ownsRow_lit w1 #[.int .i64 x] 1 (Nat.le_refl _) (by unfold maxLen; omega) rfl) rfl rfl
  have X1 := Lib.hid (show LBox w0 w.heap.size s A n c B m d from Box.below X1.out b0)
  have HX := Lib.hid (HX.out.below b0)
  have HY := Lib.hid (HY.out.below b0)
  have HS := Lib.hid (HS.out.below b0)
  have BB := Lib.hid (below_then BB.out b0)
  clear hw0 b0 q0 q1 q2
  refine (checkDepthM_any s A n c xss B m d ls A2 l cap set _ 1 1 [x] w0 HX.out hn HR.out HY.out hm HS.out hl hone (by decide)).mono ?_
  rintro e w2 ⟨M, rfl, hM1, hM2, hM3, b2⟩
  have MS := Lib.hid hM1
  have MO := Lib.hid hM2
  have MT := Lib.hid hM3
  have X1 := Lib.hid (show LBox w2 w.heap.size s A n c B m d from Box.below X1.out b2)
  have HX := Lib.hid (HX.out.below b2)
  have HY := Lib.hid (HY.out.below b2)
  have HS := Lib.hid (HS.out.below b2)
  have BB := Lib.hid (below_then BB.out b2)
  obtain ⟨C, hC⟩ : ∃ C, C = checkM s xss ls set [x] := ⟨_, rfl⟩
  rw [← hC] at MT ⊢
  have HC := Lib.hid hC
  clear hone hM1 hM2 hM3 b2 hC
  go_upto_region 2 with (first
    | (refine wpList_store_mid rfl 76 _ _ rfl w2.heap.size 0 M rfl rfl (there_of (heap_alloc_new w2 (.cells Try.zeroCells76 76)) (by rw [MS.out, zeros_size]; exact Nat.le_refl _)) (by rw [MS.out]; exact size_deps) MO.out ?_))
  obtain ⟨w7, hw7⟩ : ∃ w7, w7 = (w2.alloc (.cells Try.zeroCells76 76)).setCells w2.heap.size 0 M.toList := ⟨_, rfl⟩
  have h7 : w7.heap[w2.heap.size]? = some (.cells M 76 (0, 0)) := by
    have hw := setCells_whole (vs := M.toList) (heap_alloc_new w2 (.cells Try.zeroCells76 76)) (by rw [Array.length_toList, MS.out, zeros_size])
    rw [Array.toArray_toList] at hw
    rw [hw7]
    exact hw
  have b7 : Below w2.heap.size w2 w7 := by rw [hw7]; exact setCells_below (Nat.le_refl _) _ _ _ ((Below.refl _ _).alloc (Nat.le_refl _) _)
  rw [← hw7]
  clear hw7
  have X1 := Lib.hid (show LBox w7 w.heap.size s A n c B m d from Box.below X1.out b7)
  have HX := Lib.hid (HX.out.below b7)
  have HY := Lib.hid (HY.out.below b7)
  have HS := Lib.hid (HS.out.below b7)
  have BB := Lib.hid (below_then BB.out b7)
  have H7 := Lib.hid h7
  obtain ⟨Q, hQ⟩ : ∃ Q, Q = w2.heap.size := ⟨_, rfl⟩
  rw [← hQ] at H7 ⊢
  clear b7 h7 hQ
  rcases hc0 : (C != 0) with _ | _
  · have hCe : C = 0 := by simpa using hc0
    have hcm := HC.out.symm.trans hCe
    obtain ⟨hcc, hha⟩ := checkM_yes hcm
    obtain ⟨N, hsN, hg, hse, hdp, had⟩ := adaptiveDepth_yes hcc
    subst hsN
    have HG := Lib.hid (show GoodL N n xss ls by have := HL.out; rw [← this]; exact hg)
    have HNX := Lib.hid (show n = xss.length from HL.out.symm)
    have hmN : m = N := by rw [← HY.out.1]; exact hg.len
    subst hmN
    have hN10 : m ≤ 10 := hg.good.n10
    have hmem : ∀ y ∈ set, 0 ≤ y ∧ y < 10 := fun y hy => by have := setB_mem hse y hy; omega
    have HMEM := Lib.hid hmem
    have hSN := setN_ltN hse
    have hp2 := pow_le hN10
    obtain ⟨S, hS⟩ : ∃ S, S = setN set := ⟨_, rfl⟩
    rw [← hS] at hSN
    have HSS := Lib.hid hS
    have hS10 : S < 1024 := by omega
    have HSN := Lib.hid hSN
    obtain ⟨V, hV⟩ : ∃ V, V = deepN m xss ls set := ⟨_, rfl⟩
    have HDV := Lib.hid (show deepN m xss ls set = depF n (belB m xss ls) S by unfold deepN; rw [HL.out, hS])
    have HVV := Lib.hid (show V = depF n (belB m xss ls) S from hV.trans HDV.out)
    obtain ⟨T, hT⟩ : ∃ T, T = tabF n (belB m xss ls) (2 ^ m) 1024 := ⟨_, rfl⟩
    have HT := Lib.hid hT
    have HTV := Lib.hid (show T S = V by
      rw [hT, HVV.out]
      unfold tabF depF
      rw [if_pos hSN, if_pos]
      rw [HDV.out] at hdp
      exact hdp)
    have HDA := Lib.hid (show DepAt w7 Q Q T from by
      exact depAt_of H7.out MS.out (show M.toList = (rowF 1024 T).map (Value.int .i64) by rw [MT.out hCe, Int.toNat_natCast, hT]) (Nat.le_refl _))
    have HV0 := Lib.hid (show 0 ≤ V by rw [hV]; exact hdp)
    have HCC := Lib.hid hcc
    have hVle : V ≤ 1024 := by rw [HVV.out]; exact depN_le 1024 S
    have HVL := Lib.hid hVle
    have hxin := hasB_in hse hha
    obtain ⟨q, rfl⟩ : ∃ q : Nat, x = (q : Int) := ⟨x.toNat, by omega⟩
    have hok := okL_of_check hcc
    obtain ⟨L, TT, K, hrs, hra⟩ := adaptiveRun_at hok HL.out hse hha (by omega) (show q < m by omega)
    have HF := Lib.hid (show R = (L, TT, 0) from HRR.out.trans hrs)
    rw [← HSS.out] at hra
    have HST := Lib.hid hra
    clear hcc hg hse hdp had hmem hSN hp2 hS hCe hT hcm hha hxin hok hrs hra
    go_wp2_with fail
    refine (setOf_any A2 l cap set w7 HS.out HMEM.out hl).mono ?_
    rw [← HSS.out]
    rintro e w8 ⟨rfl, rfl⟩
    go_wp2_with fail
    go_loopw [2, 11, 12] (fun sv ov bv wr => ∃ (os : List Int) (b t k : Nat), sv = .int .i64 (t : Int) ∧ bv = .int .u16 (b : Int) ∧ RunAt m n xss ls L TT os b t k ∧ wr.ownsRow w7.heap.size 2 1 ov os.length (os.map (Value.int .i64)) ∧ Below w7.heap.size w7 wr) (fun _ ov _ _ => 1024 - lenV ov)
    case atStart => exact ⟨[], S, q, K, rfl, rfl, HST.out, World.ownsRow_nil _ _ _ _, Below.refl _ _⟩
    case round =>
      obtain ⟨os, b, t, k, rfl, rfl, hrun, hown, hbel⟩ := hrel
      obtain ⟨wi, hwi⟩ : ∃ wi, wi = wr := ⟨_, rfl⟩
      rw [← hwi] at hown hbel ⊢
      clear hwi
      obtain ⟨A8, c8, rfl⟩ := own_form hown
      have hb10 : b < 1024 := Nat.lt_of_lt_of_le hrun.bits (pow_le hN10)
      have HRU := Lib.hid hrun
      have HOW := Lib.hid hown
      have HBE := Lib.hid hbel
      have hol : os.length ≤ 1024 := by have := hrun.room; omega
      clear hown hbel
      by_cases hmer : Lib.onesCount b ≤ 1
      · obtain ⟨he1, he2⟩ := hrun.done hmer
        have HE1 := Lib.hid he1
        have HE2 := Lib.hid he2
        clear hrun he1 he2
        go_wp2_with fail
        refine (isMerged_any b wi hb10).mono ?_
        rw [decide_eq_true hmer]
        rintro e w9 ⟨rfl, k9, rfl⟩
        clear hmer
        go_wp2_with fail
        go_ret3
        exact lists3To_mk (xs := os) (show R = (os, (t : Int), 0) from HF.out.trans (by rw [HE1.out, HE2.out])) (own_base HOW.out BB.out.size) (below_drewN' (below_then BB.out HBE.out) _)
      · obtain ⟨hpos, p, v, j, rfl, hp, hz, hnx, hv4, hlam, hnext⟩ := hrun.next HG.out HNX.out hmer
        have HPOS := Lib.hid hpos
        have HZ := Lib.hid hz
        have HNEXT := Lib.hid hnext
        have htm : t < m := hrun.state
        have HTB := Lib.hid (tab_val (n := n) (bel := belB m xss ls) (show b < 2 ^ m from hrun.bits) hrun.known)
        have HLZ := Lib.hid (show placeOf (rowF n (fun x => worstN T (belB m xss ls b x) 4)) (T b - 1) 0 = (p : Int) by rw [HT.out, letZ_tab HG.out HNX.out hrun.bits hpos]; exact hz)
        have hle : depF n (belB m xss ls) b ≤ 1024 := depN_le 1024 b
        have HT0 := Lib.hid (show 0 ≤ T b by rw [HT.out, HTB.out]; exact hrun.known)
        have HT1 := Lib.hid (show T b ≤ 1024 by rw [HT.out, HTB.out]; exact hle)
        go_wp2_with fail
        refine (isMerged_any b wi hb10).mono ?_
        rw [decide_eq_false hmer]
        rintro e w9 ⟨rfl, k9, hk9⟩
        have b9 : Below wi.heap.size wi w9 := by rw [hk9]; exact below_drewN' (Below.refl _ _) _
        have HB9 := Lib.hid (below_then HBE.out b9)
        have HO9 := Lib.hid (own_below HOW.out b9)
        have X9 := Lib.hid (show LBox w9 w.heap.size (m : Int) A n c B m d from Box.below X1.out HB9.out)
        have q0 := X9.out 0 _ rfl
        have q1 := X9.out 1 _ rfl
        have q2 := X9.out 2 _ rfl
        clear hrun hmer hpos hz hnext hle b9 hk9
        go_wp2_with fail
        refine (letterFor_any Q Q T A m n c xss B d ls b w9 HG.out (HX.out.below HB9.out) (HY.out.below HB9.out) (show DepAt w9 Q Q T from own_below HDA.out HB9.out) hb10 HT0.out HT1.out).mono ?_
        rw [HLZ.out]
        rintro e w10 ⟨rfl, b10⟩
        have HB10 := Lib.hid (below_then HB9.out b10)
        have HO10 := Lib.hid (own_below HO9.out b10)
        clear b10 q0 q1 q2
        go_wp2_with (at_builtin; refine wpList_append_own _ rfl _ _ 25 rfl (w7.heap.size) 2 i0 (.int .i64 0) 1 8 Try.underlying25 hi hz0 hz1 hz2 rfl (by decide) _ _ _ rfl (World.ownsRow.alloc (HO10.out) _) ⟨(w10).heap.size, 0, none⟩ 1 1 [.int .i64 (p : Int)] rfl rfl (cell_one_new _ _ _) (ones_i64 [(p : Int)]) (by unfold maxLen; omega) (by omega) (by rw [World.size_alloc]; exact Nat.le_succ_of_le (HB10.out.size)) ?_)
        intro v' w11 hown' hgrow _
        obtain ⟨A10, c10, rfl⟩ := own_form hown'
        have hbb : Below w10.heap.size w10 (w10.alloc (.cells #[.int .i64 (p : Int)] 2)) := (Below.refl _ _).alloc (Nat.le_refl _) _
        have HB11 := Lib.hid (HB10.out.trans ((hbb.mono HB10.out.size).grown hgrow (Nat.le_trans HB10.out.size hbb.size) (fun g hg => (HO10.out.lt g hg).1)))
        have HO11 := Lib.hid hown'
        clear hown' hgrow hbb
        have X11 := Lib.hid (show LBox w11 w.heap.size (m : Int) A n c B m d from Box.below X1.out HB11.out)
        have HX11 := Lib.hid (HX.out.below HB11.out)
        have HY11 := Lib.hid (HY.out.below HB11.out)
        obtain ⟨row, Bx, ox, Ar, cr, hr1, hAe, hcr0, hnr⟩ := HX11.out.at_ hp
        subst hAe
        have hgr := HG.out.good.rows p row hr1
        have hr10 : ∀ y ∈ row, 0 ≤ y ∧ y < 10 := fun y hy => by have := hgr.2 y hy; omega
        have HR10 := Lib.hid hr10
        obtain ⟨TA, hTA⟩ : ∃ TA, TA = aftB b row m := ⟨_, rfl⟩
        have hTl : TA < 1024 := by
          rw [hTA]
          refine aftB_lt m (fun j _ => ?_)
          rcases Nat.lt_or_ge j row.length with a | a
          · have := hr10 row[j] (List.getElem_mem a)
            rw [List.getD_eq_getElem?_getD, List.getElem?_eq_getElem a]
            show (row[j]).toNat < 10
            omega
          · rw [List.getD_eq_getElem?_getD, List.getElem?_eq_none a]; simp
        have HTA := Lib.hid hTA
        have HBT := Lib.hid (show lampB TA ls v m = belB m xss ls b p v by
          rw [hTA]; unfold belB
          rw [List.getD_eq_getElem?_getD, hr1]; rfl)
        obtain ⟨y, b3, off3, hy, hAr, hcy⟩ := hnr.at_ (show t < row.length by rw [hgr.1]; exact htm)
        have hyn : y = ((nx xss p t : Nat) : Int) := by
          have h1 := hgr.2 y (List.mem_of_getElem? hy)
          have e : xss.getD p [] = row := by rw [List.getD_eq_getElem?_getD, hr1]; rfl
          unfold nx
          rw [e, List.getD_eq_getElem?_getD, hy]
          simp only [Option.getD_some]
          omega
        subst hyn
        subst hAr
        rw [hgr.1] at hcr0 hnr
        have HNR := Lib.hid hnr
        obtain ⟨z, b4, off4, hz4, hBe, hcz⟩ := HY11.out.at_ hnx
        subst hBe
        obtain rfl : z = (v : Int) := by rw [hlam] at hz4; exact (Option.some.inj hz4).symm
        obtain ⟨t', ht'⟩ : ∃ t', t' = nx xss p t := ⟨_, rfl⟩
        rw [← ht'] at hcy hcz hnx HNEXT
        have m0 := X11.out 0 _ rfl
        have m1 := X11.out 1 _ rfl
        have m2 := X11.out 2 _ rfl
        have hp0 : (0 : Int) ≤ (p : Int) := by omega
        have hpn : (p : Int) < (n : Int) := by omega
        have ht0 : (0 : Int) ≤ (t : Int) := by omega
        have htm' : (t : Int) < (m : Int) := by omega
        have ht'0 : (0 : Int) ≤ (t' : Int) := by omega
        have ht'm : (t' : Int) < (m : Int) := by omega
        obtain ⟨C, hC⟩ : ∃ C, C = lampB TA ls v m := ⟨_, rfl⟩
        have hix := fun (w : World) => run_index_lampB (lampV TA ls m) v C w hv4 (by rw [hC]; rcases v with _ | _ | _ | _ | v <;> first | rfl | omega)
        have HCC2 := Lib.hid (show C = belB m xss ls b p v by rw [hC]; exact HBT.out)
        have HLA := Lib.hid HG.out.lamp
        have R2 := Lib.hid (show ∀ W', Below w11.heap.size w11 W' → W'.cell? ⟨w.heap.size, 2, none⟩ = some (.slice (some ⟨b4, off4, none⟩) m d) from fun W' hb => (hb.cell (cell_lt m2)).trans m2)
        have R3 := Lib.hid (show ∀ W', Below w11.heap.size w11 W' → W'.cell? ⟨b4, off4 + t', none⟩ = some (.int .i64 (v : Int)) from fun W' hb => (hb.cell (cell_lt hcz)).trans hcz)
        have hv0 : (0 : Int) ≤ (v : Int) := by omega
        have hv4i : (v : Int) < 4 := by omega
        clear hr1 hgr hr10 hnr hTA hy hlam hz4 ht' htm hp hnx hC
        go_wp2_with fail
        go_region_law
          (first
            | (go_simp; go_at_call 59; refine (after_any _ m cr b row _ hb10 (by first | exact HNR.out | exact HNR.out.drew | exact HNR.out.drewN _) hN10 HR10.out).mono ?_; rw [← HTA.out]; rintro e' w' ⟨rfl, rfl⟩)
            | (go_simp; go_at_call 60; refine (byLamp_any TA (m : Int) _ n c _ m d ls _ hTl (by first | exact HY11.out | exact HY11.out.drew) hN10 HLA.out).mono ?_; rintro e' w5 ⟨rfl, b5⟩; have B5 : Hid (Below w11.heap.size w11 w5) := Lib.hid (by first | exact b5 | exact below_then (below_drewN' (Below.refl _ _) 1) b5); have m25 := R2.out w5 B5.out; have hcz5 := R3.out w5 B5.out; clear b5)
            | fail)
        all_goals
          have HB12 := Lib.hid (below_then HB11.out B5.out)
          have HO12 := Lib.hid (own_below HO11.out B5.out)
          go_simp
          go_wp2_with fail
          go_roundw
          case rel => exact ⟨os ++ [(p : Int)], C, t', j, rfl, rfl, by rw [HCC2.out]; exact HNEXT.out, by rw [List.length_append, List.map_append]; exact HO12.out, HB12.out⟩
          case measure =>
            have hro := HNEXT.out.room
            rw [List.length_append, List.length_singleton] at hro
            show 1024 - (os.length + 1) < 1024 - os.length
            omega
  · have hCe : ¬ checkM s xss ls set [x] = 0 := by rw [← HC.out]; simpa using hc0
    have HF := Lib.hid (show R = ([], 0, C) from HRR.out.trans (adaptiveRun_no HC.out.symm (by rw [HC.out]; exact hCe)))
    clear hCe
    go_wp2_with fail
    go_ret3
    exact lists3To_mk (xs := []) HF.out (World.ownsRow_nil _ _ _ _) BB.out

end Go.Proofs.Ytdelanjkaokiaaa
