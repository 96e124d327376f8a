/-
  The certificate that is found: the contract of the program's FindCertificate.
-/
import Derived.Test.YtcglncepmieaaaaFndC
namespace Go.Proofs.Ytcglncepmieaaaa
open Go.RowKit Go.Deep Go.ChangeShapes Go.WideShapes
open Hunt Srch From Moved

theorem apL_ofL {n m : Nat} {xss : List (List Int)} (hg : Good n m xss) : (apL n m xss).length = (apT n m xss (prL n n)).length := by rw [← apL_lists hg, List.length_map]
theorem apL_lt {n m b : Nat} {xss : List (List Int)} (hg : Good n m xss) (h : b ∈ apL n m xss) : b < 1024 := by
  obtain ⟨s, t, h1, h2, rfl, _⟩ := (apL_mem hg b).1 h
  have := hg.n10
  exact pair_lt s (by omega) t (by omega)

set_option maxRecDepth 100000 in
set_option maxHeartbeats 4000000 in
theorem implFindCertificate_any (s : Int) (A : Option Addr) (m cap : Nat) (xss : List (List Int)) (w : World) (h : RowsAt w A m xss) (hm : m ≤ 4611686018427387904)
    (hrows : ∀ (r : Nat) (xs : List Int), xss[r]? = some xs → xs.length ≤ 4611686018427387904) :
    Calls Try.prog 30 #[.agg #[.int .i64 s, .slice A m cap]] w (CertTo (findCertificate s xss) w) := by
  obtain ⟨i1, hi1, hy0, hy1, hy2⟩ := info_parts info_ints
  have HR := Lib.hid hrows
  have HM := Lib.hid h.1
  obtain ⟨W2, hW2⟩ : ∃ W2, W2 = (w.alloc (.cells #[.int .i64 s, .slice A m cap] 28)).alloc (.cells #[.int .i64 0, .slice none 0 0, .slice none 0 0] 41) := ⟨_, rfl⟩
  have b2 : Below w.heap.size w W2 := by rw [hW2]; go_grown
  have B2 := Lib.hid b2
  have HB2 := Lib.hid (show Box W2 w.heap.size [.int .i64 s, .slice A m cap] by rw [hW2]; exact Box.below (Box.new w _ _) ((Below.refl _ _).alloc (Nat.le_refl _) _))
  have xr : W2.heap[w.heap.size + 1]? = some (.cells #[.int .i64 0, .slice none 0 0, .slice none 0 0] 41 (0, 0)) := by
    have := heap_alloc_new (w.alloc (.cells #[.int .i64 s, .slice A m cap] 28)) (.cells #[.int .i64 0, .slice none 0 0, .slice none 0 0] 41)
    rw [World.size_alloc, ← hW2] at this
    exact this
  have HX2 := Lib.hid (h.below b2)
  have XR := Lib.hid xr
  have HW2 := Lib.hid hW2
  have c0 := HB2.out 0 _ rfl
  have c1 := HB2.out 1 _ rfl
  rw [hW2] at c0 c1
  clear hrows b2 xr hW2 h
  go_enter Try.func30, Try.ntmps30
  go_wp2_with fail
  rw [← HW2.out]
  refine (implValid_any s A m cap xss W2 HX2.out hm HR.out).mono ?_
  rintro e w1 ⟨rfl, b1⟩
  have XR1 := Lib.hid ((b1.block _ (block_lt XR.out)).trans XR.out)
  have B1 := Lib.hid (below_then B2.out b1)
  have HX1 := Lib.hid (HX2.out.below b1)
  have HB1 := Lib.hid (Box.below HB2.out b1)
  clear b1 c0 c1
  rcases hok : okA s xss with _ | _
  · have HF := Lib.hid (findCertificate_1 hok)
    have xr := XR1.out
    obtain ⟨e0, e1, e2, e3, e4, e5⟩ := box3_cells xr
    obtain ⟨g2, g3, g4⟩ := box3_set xr (.int .i64 0) (.slice none 0 0) (.slice none 0 0)
    clear xr
    go_wp2_with fail
    refine bodyPost_ret (v := .tuple #[.agg #[.int .i64 0, .slice none 0 0, .slice none 0 0], .int .i64 1]) (by simp [results, Try.results30, go_sem, g2, g3, g4]) rfl ?_
    have hb9 := set3_below B1.out (Nat.le_succ _) (.int .i64 0) (.slice none 0 0) (.slice none 0 0)
    exact certTo_mk HF.out (cert_one _ (tab_nil _ _ _) hb9.size) hb9
  · obtain ⟨n, hsn, hg⟩ := good_of hok HM.out
    subst hsn
    have hn10 : n ≤ 10 := hg.n10
    have HG := Lib.hid hg
    have HF2 := Lib.hid (fun hl => findCertificate_2 hok HM.out hl)
    have HF0 := Lib.hid (fun hl => findCertificate_0 hok HM.out hl)
    have q0 := HB1.out 0 _ rfl
    have q1 := HB1.out 1 _ rfl
    clear hg hok
    go_wp2_with fail
    refine (pairWords_any A n m cap xss w1 HG.out HX1.out).mono ?_
    rintro e w3 ⟨u, rfl, ⟨ws, hpw⟩, b3⟩
    obtain ⟨P, hP⟩ : ∃ P, P = pwL n m xss := ⟨_, rfl⟩
    rw [← hP] at hpw
    obtain ⟨A3, C3, rfl⟩ := own2_form hpw.out
    obtain ⟨N, hN⟩ : ∃ N, N = P.length := ⟨_, rfl⟩
    have HPV := Lib.hid hpw
    rw [← hN] at hpw ⊢
    have hN100 : N ≤ 100 := by rw [hN, hP]; unfold pwL; rw [List.length_map]; exact prsS_len _
    have HPW := Lib.hid hpw
    have HP := Lib.hid hP
    have HN := Lib.hid hN
    have HB3 := Lib.hid (below_then B1.out b3)
    have HS13 := Lib.hid b3.size
    have XR3 := Lib.hid ((b3.block _ (block_lt XR1.out)).trans XR1.out)
    clear hpw b3 hP hN q0 q1
    go_wp2_with fail
    refine (pairsApart_any _ _ A3 N C3 ws P w3 HPW.out HN.out.symm hN100).mono ?_
    rintro e w4 ⟨u, rfl, o4, b4⟩
    obtain ⟨Q, hQ⟩ : ∃ Q, Q = apL n m xss := ⟨_, rfl⟩
    have hQ' : (P.filter fun p => !p.ok).map PW.pair = Q := by rw [hQ, HP.out]; rfl
    rw [hQ'] at o4
    obtain ⟨A4, C4, rfl⟩ := own2_form o4
    have HQ := Lib.hid hQ
    have HQL := Lib.hid (show Q.length = (apT n m xss (prL n n)).length by rw [hQ]; exact apL_ofL HG.out)
    have HQM := Lib.hid (show Q.map (fun b => listK b 10) = apT n m xss (prL n n) by rw [hQ]; exact apL_lists HG.out)
    have HQT := Lib.hid (show ∀ b ∈ Q, b < 1024 from fun b hb => by rw [hQ] at hb; exact apL_lt HG.out hb)
    have HQ1 := Lib.hid (show Q.length ≤ 100 by rw [HQL.out]; exact Nat.le_trans (apT_len _ _ _ _) (prL_leS n hn10))
    have HS4 := Lib.hid (show SetsAt w4 A4 Q.length Q by
      rcases o4.2 with ⟨hv0, h0⟩ | ⟨g, cap', cur, hv0, hg, hh, hnc, hcap, hsz, htake⟩
      · have hq : Q = [] := List.eq_nil_of_length_eq_zero (by omega)
        refine ⟨rfl, fun k b hb => ?_⟩
        rw [hq] at hb; simp at hb
      · simp only [Value.slice.injEq] at hv0
        obtain ⟨rfl, _, rfl⟩ := hv0
        exact SetsAt.own o4 rfl)
    have HB4 := Lib.hid (below_then HB3.out b4)
    have HPV4 := Lib.hid (HPV.out.below b4)
    have HS34 := Lib.hid b4.size
    have XR4 := Lib.hid ((b4.block _ (block_lt XR3.out)).trans XR3.out)
    clear o4 b4 hQ hQ'
    by_cases hpos : 0 < Q.length
    · have hp1 : (0 : Int) < (Q.length : Int) := by omega
      have hF := HF2.out (by rw [← HQL.out]; exact hpos)
      have HF := Lib.hid hF
      clear hpos hF
      go_wp2_with fail
      refine (listsOf_any A4 Q.length C4 Q w4 HS4.out (by have := HQ1.out; omega) HQT.out).mono ?_
      rw [HQM.out]
      rintro e w5 ⟨u, rfl, t5, b5⟩
      have xr := (b5.block _ (block_lt XR4.out)).trans XR4.out
      obtain ⟨e0, e1, e2, e3, e4, e5⟩ := box3_cells xr
      obtain ⟨A5, C5, rfl⟩ := t5.form
      obtain ⟨X6, hX6⟩ : ∃ X6, X6 = apT n m xss (prL n n) := ⟨_, rfl⟩
      rw [← hX6] at t5 HF ⊢
      obtain ⟨g2, g3, g4⟩ := box3_set xr (.int .i64 2) (.slice A5 X6.length C5) (.slice none 0 0)
      have HT5 := Lib.hid t5
      have HB5 := Lib.hid (below_then HB4.out b5)
      have HLW := Lib.hid (block_lt XR4.out)
      clear xr t5 b5 hX6
      go_wp2_with fail
      refine bodyPost_ret (v := .tuple #[.agg #[.int .i64 2, .slice A5 X6.length C5, .slice none 0 0], .int .i64 0]) (by simp [results, Try.results30, go_sem, g2, g3, g4]) rfl ?_
      have hb9 := set3_below HB5.out (Nat.le_succ _) (.int .i64 2) (.slice A5 X6.length C5) (.slice none 0 0)
      have ht9 := (HT5.out.only (set3_only w5 (w.heap.size + 1) (.int .i64 2) (.slice A5 X6.length C5) (.slice none 0 0)) (.inr HLW.out)).wide (lo' := w.heap.size) (hi' := w5.heap.size) HB4.out.size (Nat.le_refl _)
      rw [← set3_size w5 (w.heap.size + 1) (.int .i64 2) (.slice A5 X6.length C5) (.slice none 0 0)] at ht9
      exact certTo_mk HF.out (cert_one _ ht9 hb9.size) hb9
    · have hz : Q.length = 0 := by omega
      have hF := HF0.out (by rw [← HQL.out]; exact hpos)
      have HF := Lib.hid hF
      rw [hz]
      clear hpos hF hz
      go_wp2_with fail
      obtain ⟨w5, hw5⟩ : ∃ w5, w5 = w4.alloc (.cells #[.int .i64 1, .slice none 0 0, .slice none 0 0] 41) := ⟨_, rfl⟩
      have b5 : Below w4.heap.size w4 w5 := by rw [hw5]; exact (Below.refl _ _).alloc (Nat.le_refl _) _
      have HH5 := Lib.hid (show w5.heap[w4.heap.size]? = some (.cells #[.int .i64 1, .slice none 0 0, .slice none 0 0] 41 (0, 0)) by rw [hw5]; exact heap_alloc_new _ _)
      have HB5 := Lib.hid b5
      rw [← hw5]
      obtain ⟨B, hB⟩ : ∃ B, B = w4.heap.size := ⟨_, rfl⟩
      rw [← hB] at HH5 ⊢
      have HBB := Lib.hid hB
      have HWE := Lib.hid (pwL_words HG.out)
      rw [← HP.out] at HWE
      clear b5 hw5 hB
      go_loopw [26] (fun iv wr => ∃ (k : Nat) (v : Value) (X : List (List Int)), k ≤ N ∧ iv = .int .i64 k ∧ X = (P.take k).map PW.word ∧ X.length = k ∧ wr.heap[B]? = some (.cells #[.int .i64 1, .slice none 0 0, v] 41 (0, 0)) ∧ TabV w1.heap.size wr.heap.size wr v (ws.take k) X ∧ (∀ g, v.ownBlock = some g → B < g) ∧ Below w4.heap.size w4 wr) (fun iv _ => N - (intOf iv).toNat)
      case atStart =>
        refine ⟨0, _, [], Nat.zero_le _, rfl, rfl, rfl, HH5.out, ?_, fun g hg => by simp [Value.ownBlock] at hg, HB5.out⟩
        rw [List.take_zero]
        exact tabV_none _ _ _
      case round =>
        obtain ⟨k, v, X, hk, rfl, hX, hXl, hhB, htab, hvo, hbel⟩ := hrel
        obtain ⟨A6, C6, rfl⟩ := own_form htab.out
        have HT := Lib.hid htab
        have HB := Lib.hid hbel
        have HX := Lib.hid hX
        have HXL := Lib.hid hXl
        have HHB := Lib.hid hhB
        have HVO := Lib.hid hvo
        have hk0 : (0 : Int) ≤ (k : Int) := by omega
        clear htab hbel hX hhB hvo
        by_cases hlt : k < N
        · have hkn : (k : Int) < (N : Int) := by omega
          have hX100 : X.length ≤ 100 := by omega
          obtain ⟨p, hp⟩ : ∃ p, P[k]? = some p := ⟨_, List.getElem?_eq_getElem (by rw [← HN.out]; exact hlt)⟩
          have hpv := HPV4.out.below HB.out
          obtain ⟨g, A', c', rfl, e1, e2, e3, hus⟩ := PwV.cells hpv hp
          have HRW := Lib.hid (hpv.row k _ p hus hp)
          have HUS := Lib.hid hus
          have HZX := Lib.hid (show (P.take (k + 1)).map PW.word = X ++ [p.word] by rw [take_snoc hp, List.map_append, HX.out]; rfl)
          have HAP := Lib.hid (show ∀ g', (Value.slice A' p.word.length c').ownBlock = some g' → ¬ OwnsB (.slice A6 X.length C6) (ws.take k) g' from fun g' e hG => by
            have hlw := ((hpv.row k _ p hus hp).1.lt g' e)
            have hl3 := (hpv.row k _ p hus hp).2 g' e
            rcases hG with hG | ⟨r, x, hx, hG⟩
            · have h1 := HVO.out g' hG
              have h2 := HBB.out
              have h3 := HS34.out
              omega
            · have hrk : r < k := by
                rcases Nat.lt_or_ge r k with a | a
                · exact a
                · rw [List.getElem?_take, if_neg (by omega)] at hx; cases hx
              rw [List.getElem?_take, if_pos hrk] at hx
              have := hpv.apart r k x _ g' hx hus hG e
              omega)
          have HTK := Lib.hid (show ws.take (k + 1) = ws.take k ++ [.slice A' p.word.length c'] from take_snoc hus)
          obtain ⟨b, hb⟩ : ∃ b, b = p.pair := ⟨_, rfl⟩
          obtain ⟨Z, hZ⟩ : ∃ Z, Z = p.word := ⟨_, rfl⟩
          obtain ⟨ok, hok⟩ : ∃ ok, ok = p.ok := ⟨_, rfl⟩
          rw [← hb] at e1
          rw [← hZ] at e2 HZX HAP HTK HUS HRW
          rw [← hok] at e3
          clear hp hus hb hZ hok hpv hXl
          go_upto_region 11 with fail
          obtain ⟨wb, hwb⟩ : ∃ wb, wb = wr.alloc (.cells #[.int .u16 (b : Int), .slice A' Z.length c', .bool ok] 76) := ⟨_, rfl⟩
          have bb : Below wr.heap.size wr wb := by rw [hwb]; exact (Below.refl _ _).alloc (Nat.le_refl _) _
          have hcw : wb.cell? ⟨wr.heap.size, 1, none⟩ = some (.slice A' Z.length c') := by rw [hwb]; exact cell_of_row _ _ 1 _ _ _ (heap_alloc_new _ _)
          have hhb := (bb.block _ (block_lt HHB.out)).trans HHB.out
          have hcB : wb.cell? ⟨B, 2, none⟩ = some (.slice A6 X.length C6) := cell_of_row _ _ 2 _ _ _ hhb
          have HBW := Lib.hid bb
          have HWB := Lib.hid (below_then HB.out bb)
          have HTB := Lib.hid ((HT.out.below bb).wide (Nat.le_refl _) bb.size)
          have HHW := Lib.hid hhb
          have HLE := Lib.hid (show w1.heap.size ≤ wb.heap.size by have h1 := HWB.out.size; have h2 := HS34.out; have h3 := HS13.out; omega)
          rw [← hwb]
          clear hwb bb e1 e2 e3 hhb
          go_wp2_with (at_builtin; refine wpList_append_own_at _ rfl _ _ 22 rfl (w1.heap.size) 35 i1 (.slice none 0 0) 1 24 Try.underlying22 hi1 hy0 hy1 hy2 rfl (by decide) _ _ _ rfl (World.ownsRow.alloc (HTB.out.out) _) ⟨(wb).heap.size, 0, none⟩ 1 1 [.slice A' Z.length c'] rfl rfl (cell_one_new _ _ _) (by simp [Value.oneCell']) (by unfold maxLen; omega) (by omega) (by rw [World.size_alloc]; exact Nat.le_succ_of_le HLE.out) ?_)
          intro v' w6 hown' hgrow _ hat
          obtain ⟨A9, C9, rfl⟩ := own_form hown'
          have ba : Below wb.heap.size wb (wb.alloc (.cells #[.slice A' Z.length c'] 35)) := (Below.refl _ _).alloc (Nat.le_refl _) _
          have hvn : (Value.slice A6 X.length C6).ownBlock ≠ some B := fun e => by have := HVO.out B e; omega
          have hB6 : w6.heap[B]? = some (.cells #[.int .i64 1, .slice none 0 0, .slice A6 X.length C6] 41 (0, 0)) :=
            (hgrow.block _ (Nat.lt_of_lt_of_le (block_lt HHW.out) ba.size) (fun e => hvn e.symm)).trans ((ba.block _ (block_lt HHW.out)).trans HHW.out)
          have hs1 := HRW.out
          have htab2 := TabV.snocOld (((HTB.out.below ba).wide (Nat.le_refl _) ba.size)) (xs := Z) (u := .slice A' Z.length c') ⟨(own_below (own_below hs1.1 HBW.out) ba), fun g hg => by have h1 := hs1.2 g hg; have h2 := HS34.out; have h3 := HWB.out.size; have h4 := ba.size; omega⟩ HAP.out hown' hgrow (by rw [World.size_alloc]; exact hat) (Nat.le_refl _)
          rw [← HZX.out, ← HTK.out] at htab2
          have hv9 : ∀ g, (Value.slice A9 (X.length + 1) C9).ownBlock = some g → B < g := fun g e => by
            rcases hat with a | a
            · rw [a] at e; exact HVO.out g e
            · rw [a] at e; have h1 := Option.some.inj e; have h2 := block_lt HHW.out; omega
          have HB6 := Lib.hid (below_grown (below_then HWB.out ba) hgrow (fun g hg => by have h1 := HVO.out g hg; have h2 := HBB.out; omega))
          have HT6 := Lib.hid htab2
          have HV9 := Lib.hid hv9
          have HH6 := Lib.hid hB6
          obtain ⟨z0, z1, z2, z3, z4, z5⟩ := box3_cells hB6
          clear hown' hgrow hat ba htab2 hv9 hB6 hvn hcw hcB hX100 hs1
          go_wp2_with fail
          go_roundw
          case rel =>
            have hon : OnlyP (fun g => g = B) w6 (w6.setCell ⟨B, 2, none⟩ (.slice A9 (X.length + 1) C9)) := ⟨rfl, rfl, rfl, by rw [World.size_setCell]; exact Nat.le_refl _, fun q hq hP => heap_setCell_other _ _ _ _ (by show q ≠ B; exact hP)⟩
            have hbs : Below w4.heap.size w4 (w6.setCell ⟨B, 2, none⟩ (.slice A9 (X.length + 1) C9)) := HB6.out.setCell (by show w4.heap.size ≤ B; rw [HBB.out]; exact Nat.le_refl _) _
            refine ⟨k + 1, .slice A9 (X.length + 1) C9, (P.take (k + 1)).map PW.word, by omega, by go_num, rfl, ?_, ?_, ?_, HV9.out, hbs⟩
            · rw [HZX.out, List.length_append, HXL.out]; rfl
            · rw [heap_setCell_same w6 B 2 _ _ (.slice A9 (X.length + 1) C9) HH6.out]; rfl
            · rw [World.size_setCell]
              refine HT6.out.onlyP hon fun g hG e => ?_
              subst e
              rcases hG with hG | ⟨r, x, hx, hG⟩
              · have := HV9.out g hG; omega
              · have hrk : r < k + 1 := by
                  rcases Nat.lt_or_ge r (k + 1) with a | a
                  · exact a
                  · rw [List.getElem?_take, if_neg (by omega)] at hx; cases hx
                rw [List.getElem?_take, if_pos hrk] at hx
                have hl := HPV4.out.len
                have hrl : r < ws.length := by
                  rcases Nat.lt_or_ge r ws.length with a | a
                  · exact a
                  · rw [List.getElem?_eq_none a] at hx; cases hx
                have := (HPV4.out.row r x _ hx (List.getElem?_eq_getElem (by omega))).2 g hG
                have h2 := HBB.out
                have h3 := HS34.out
                omega
          case measure => simp [intOf]; omega
        · have hke : k = N := by omega
          have hkn : ¬ (k : Int) < (N : Int) := by omega
          have HE := Lib.hid (show X = wdT n m xss (prL n n) by rw [HX.out, hke, HN.out, List.take_length, HWE.out])
          have hF := HF.out
          rw [← HE.out] at hF
          have HF9 := Lib.hid hF
          have hhb := HHB.out
          have xr := (HB.out.block _ (block_lt XR4.out)).trans XR4.out
          obtain ⟨e0, e1, e2, e3, e4, e5⟩ := box3_cells xr
          obtain ⟨z0, z1, z2, z3, z4, z5⟩ := box3_cells hhb
          obtain ⟨g2, g3, g4⟩ := box3_set xr (.int .i64 1) (.slice none 0 0) (.slice A6 X.length C6)
          have HBW := Lib.hid (below_then HB4.out HB.out)
          have HLW := Lib.hid (block_lt XR1.out)
          have HTI := Lib.hid (show TabIn w1.heap.size wr.heap.size wr (.slice A6 X.length C6) X from ⟨_, HT.out⟩)
          clear xr hke hlt hF hhb hXl
          go_wp2_with fail
          refine bodyPost_ret (v := .tuple #[.agg #[.int .i64 1, .slice none 0 0, .slice A6 X.length C6], .int .i64 0]) (by simp [results, Try.results30, go_sem, g2, g3, g4]) rfl ?_
          have hb9 := set3_below HBW.out (Nat.le_succ _) (.int .i64 1) (.slice none 0 0) (.slice A6 X.length C6)
          have ht9 := (HTI.out.only (set3_only wr (w.heap.size + 1) (.int .i64 1) (.slice none 0 0) (.slice A6 X.length C6)) (.inr HLW.out)).wide (lo' := w.heap.size) (hi' := wr.heap.size) B1.out.size (Nat.le_refl _)
          rw [← set3_size wr (w.heap.size + 1) (.int .i64 1) (.slice none 0 0) (.slice A6 X.length C6)] at ht9
          exact certTo_mk HF9.out (cert_two _ ht9 hb9.size) hb9

end Go.Proofs.Ytcglncepmieaaaa
