/-
  Stable pairs: the contracts of pairsApart and stablePairs.
-/
import Derived.Test.YtcglncepmieaaaaStbB
namespace Go.Proofs.Ytcglncepmieaaaa
open Go.RowKit Go.Deep Go.ChangeShapes Go.WideShapes
open Hunt Srch From Moved

set_option maxRecDepth 100000 in
theorem slIndexU_any (A : Option Addr) (n cap v : Nat) (bs : List Nat) (w : World) (h : SetsAt w A n bs) (hn : n ≤ 4611686018427387904) :
    Calls Try.prog 128 #[.slice A n cap, .int .u16 (v : Int)] w fun e w' => ∃ i : Int, e = .returned (.int .i64 i) ∧ decide (0 ≤ i) = bs.any (fun b => decide (b = v)) ∧ w = w' := by
  have HL := Lib.hid h.1
  go_enter Try.func128, Try.ntmps128
  go_wp2_with fail
  go_loop [8] (fun i => ∃ k : Nat, k ≤ n ∧ i = .int .i64 k ∧ (bs.take k).any (fun b => decide (b = v)) = false) (fun i => n - (intOf i).toNat)
  case atStart => exact ⟨0, Nat.zero_le _, rfl, by simp⟩
  case round =>
    obtain ⟨k, hk, rfl, hall⟩ := hrel
    have HA := Lib.hid hall
    clear hall
    by_cases hlt : k < n
    · obtain ⟨x, b, off, hx, rfl, hc⟩ := h.at_ hlt
      have HX := Lib.hid hx
      have hk0 : (0 : Int) ≤ (k : Int) := by omega
      have hkn : (k : Int) < (n : Int) := by omega
      clear hx
      by_cases hxv : x = v
      · have HXV := Lib.hid hxv
        have hbq : ((v : Int) == (x : Int)) = true := by rw [beq_iff_eq]; omega
        clear hxv
        go_wp2_with fail
        go_ret
        refine ⟨_, rfl, ?_, rfl⟩
        rw [List.any_eq_true.2 ⟨x, List.mem_of_getElem? HX.out, by simpa using HXV.out⟩]
        simp
      · have HXV := Lib.hid hxv
        have hbq : ((v : Int) == (x : Int)) = false := by rw [beq_eq_false_iff_ne]; omega
        clear hxv
        go_wp2_with fail
        go_round
        case rel => exact ⟨k + 1, by omega, by go_num, by rw [take_snoc HX.out, List.any_append, HA.out]; simp [HXV.out]⟩
        case measure => simp [intOf]; omega
    · go_wp2_with fail
      go_ret
      refine ⟨_, rfl, ?_, rfl⟩
      have ha := HA.out
      rw [List.take_of_length_le (by rw [HL.out]; omega)] at ha
      rw [ha]
      rfl

set_option maxRecDepth 100000 in
theorem slContainsU_any (A : Option Addr) (n cap v : Nat) (bs : List Nat) (w : World) (h : SetsAt w A n bs) (hn : n ≤ 4611686018427387904) :
    Calls Try.prog 113 #[.slice A n cap, .int .u16 (v : Int)] w fun e w' => e = .returned (.bool (bs.any (fun b => decide (b = v)))) ∧ w = w' := by
  obtain ⟨r, hr⟩ : ∃ r, r = bs.any (fun b => decide (b = v)) := ⟨_, rfl⟩
  have HR := Lib.hid hr
  rw [← hr]
  clear hr
  go_enter Try.func113, Try.ntmps113
  go_wp2_with fail
  refine (slIndexU_any A n cap v bs _ h hn).mono ?_
  rw [← HR.out]
  rintro e w' ⟨i, rfl, hi, rfl⟩
  have HI := Lib.hid hi
  clear hi
  go_wp2_with fail
  go_ret
  exact ⟨ret_bool HI.out, rfl⟩

theorem filt_snoc {p : PW} {ps : List PW} {k : Nat} (h : ps[k]? = some p) : ((ps.take (k + 1)).filter fun p => !p.ok).map PW.pair = ((ps.take k).filter fun p => !p.ok).map PW.pair ++ if p.ok = true then [] else [p.pair] := by
  rw [take_snoc h, List.filter_append, List.map_append]
  congr 1
  rcases ho : p.ok with _ | _
  · rw [List.filter_cons_of_pos (by rw [ho]; rfl)]; rfl
  · rw [List.filter_cons_of_neg (by rw [ho]; simp)]; rfl

set_option maxRecDepth 100000 in
set_option maxHeartbeats 4000000 in
theorem pairsApart_any (lo hi : Nat) (A : Option Addr) (N c : Nat) (vs : List Value) (ps : List PW) (w : World) (h : PwV lo hi w (.slice A N c) vs ps) (hN : ps.length = N) (hN1 : N ≤ 100) :
    Calls Try.prog 59 #[.slice A N c] w fun e w' => ∃ u, e = .returned u ∧ w'.ownsRow w.heap.size 74 1 u ((ps.filter fun p => !p.ok).map PW.pair).length (((ps.filter fun p => !p.ok).map PW.pair).map bitU) ∧ Below w.heap.size w w' := by
  obtain ⟨iS0, iS1, iS2, iS3, iS4⟩ := info_parts info_set
  have HP := Lib.hid h
  have HN := Lib.hid hN
  obtain ⟨Q, hQ⟩ : ∃ Q, Q = (ps.filter fun p => !p.ok).map PW.pair := ⟨_, rfl⟩
  rw [← hQ]
  have HQ := Lib.hid hQ
  clear h hN hQ
  go_enter Try.func59, Try.ntmps59
  go_wp2_with fail
  go_loopw [3, 8] (fun ov iv wr => ∃ (k : Nat) (Y : List Nat), k ≤ N ∧ iv = .int .i64 k ∧ Y = ((ps.take k).filter fun p => !p.ok).map PW.pair ∧ Y.length ≤ k ∧ wr.ownsRow w.heap.size 74 1 ov Y.length (Y.map bitU) ∧ Below w.heap.size w wr) (fun _ iv _ => N - (intOf iv).toNat)
  case atStart => exact ⟨0, [], Nat.zero_le _, rfl, rfl, Nat.le_refl _, own2_nil _ _ _ _, Below.refl _ _⟩
  case round =>
    obtain ⟨k, Y, hk, rfl, hY, hYl, hown, hbel⟩ := hrel
    obtain ⟨A3, C3, rfl⟩ := own2_form hown
    have HO := Lib.hid hown
    have HB := Lib.hid hbel
    have HY := Lib.hid hY
    have HYL := Lib.hid hYl
    have hk0 : (0 : Int) ≤ (k : Int) := by omega
    clear hown hbel hY
    by_cases hlt : k < N
    · have hkn : (k : Int) < (N : Int) := by omega
      have hYm : Y.length ≤ 100 := by omega
      obtain ⟨p, hp⟩ : ∃ p, ps[k]? = some p := ⟨_, List.getElem?_eq_getElem (by rw [HN.out]; exact hlt)⟩
      have h1 := HP.out
      rw [← HN.out] at h1
      obtain ⟨g, A', c', rfl, e1, e2, e3, _⟩ := PwV.cells h1 hp
      have e1 := (HB.out.cell (cell_lt e1)).trans e1
      have e2 := (HB.out.cell (cell_lt e2)).trans e2
      have e3 := (HB.out.cell (cell_lt e3)).trans e3
      have HST := Lib.hid (filt_snoc hp)
      obtain ⟨b, hb⟩ : ∃ b, b = p.pair := ⟨_, rfl⟩
      obtain ⟨l, hl⟩ : ∃ l, l = p.word.length := ⟨_, rfl⟩
      obtain ⟨ok, hok⟩ : ∃ ok, ok = p.ok := ⟨_, rfl⟩
      rw [← hb, ← hok] at HST
      rw [← hb] at e1
      rw [← hl] at e2
      rw [← hok] at e3
      clear hb hl hok hp h1 hYl
      rcases ok with _ | _
      · have HN1 := Lib.hid (show ((ps.take (k + 1)).filter fun p => !p.ok).map PW.pair = Y ++ [b] by rw [HST.out, HY.out]; rfl)
        obtain ⟨wb, hwb⟩ : ∃ wb, wb = wr.alloc (.cells #[.int .u16 (b : Int), .slice A' l c', .bool false] 76) := ⟨_, rfl⟩
        have bb : Below wr.heap.size wr wb := by rw [hwb]; exact (Below.refl _ _).alloc (Nat.le_refl _) _
        have HBB := Lib.hid (below_then HB.out bb)
        have HOB := Lib.hid (own2_below HO.out bb)
        have HWB := Lib.hid hwb
        go_upto_region 6 with fail
        rw [← HWB.out]
        have d1 : wb.cell? ⟨wr.heap.size, 0, none⟩ = some (.int .u16 (b : Int)) := by rw [hwb]; exact cell_of_row _ _ 0 _ _ _ (heap_alloc_new _ _)
        clear hwb bb e1 e2 e3
        go_wp2_with (at_builtin; refine wpList_append_own _ rfl _ _ 81 rfl (w.heap.size) 74 iS0 (.int .u16 0) 1 2 Try.underlying81 iS1 iS2 iS3 iS4 rfl (by decide) _ _ _ rfl (World.ownsRow.alloc (HOB.out) _) ⟨(wb).heap.size, 0, none⟩ 1 1 [.int .u16 (b : Int)] rfl rfl (cell_one_new _ _ _) (ones_bitU [b]) (by unfold maxLen; omega) (by omega) (by rw [World.size_alloc]; exact Nat.le_succ_of_le (HBB.out.size)) ?_)
        intro v' w5 hown' hgrow _
        have ba : Below wb.heap.size wb (wb.alloc (.cells #[.int .u16 (b : Int)] 74)) := (Below.refl _ _).alloc (Nat.le_refl _) _
        have HB5 := Lib.hid (below_grown (below_then HBB.out ba) hgrow (fun g hg => (HOB.out.lt g hg).1))
        have HO5 := Lib.hid hown'
        clear hown' hgrow ba d1
        go_wp2_with fail
        go_roundw
        case rel =>
          refine ⟨k + 1, Y ++ [b], by omega, by go_num, HN1.out.symm, by rw [List.length_append]; have := HYL.out; simp; omega, ?_, HB5.out⟩
          rw [List.length_append, List.map_append]; exact HO5.out
        case measure => simp [intOf]; omega
      · have HN1 := Lib.hid (show ((ps.take (k + 1)).filter fun p => !p.ok).map PW.pair = Y by rw [HST.out, HY.out, if_pos rfl, List.append_nil])
        have bb : Below wr.heap.size wr (wr.alloc (.cells #[.int .u16 (b : Int), .slice A' l c', .bool true] 76)) := (Below.refl _ _).alloc (Nat.le_refl _) _
        have HBB := Lib.hid (below_then HB.out bb)
        have HOB := Lib.hid (own2_below HO.out bb)
        clear bb
        go_wp2_with fail
        go_roundw
        case rel => exact ⟨k + 1, Y, by omega, by go_num, HN1.out.symm, by have := HYL.out; omega, HOB.out, HBB.out⟩
        case measure => simp [intOf]; omega
    · have hke : k = N := by omega
      have hkn : ¬ (k : Int) < (N : Int) := by omega
      have HE := Lib.hid (show Q = Y by rw [HQ.out, HY.out, hke, ← HN.out, List.take_length])
      clear hke hlt hYl
      go_wp2_with fail
      go_ret
      refine ⟨_, rfl, ?_, HB.out⟩
      rw [HE.out]
      exact HO.out

set_option maxRecDepth 100000 in
theorem leadsApart_any (B l c b : Nat) (A : Option Addr) (bs : List Nat) (W : World) (hc : W.cell? ⟨B, 0, none⟩ = some (.slice A l c)) (h : SetsAt W A l bs) (hl : l ≤ 4611686018427387904) :
    Calls Try.prog 112 #[.int .u16 (b : Int), .pointer (some ⟨B, 0, none⟩)] W fun e w' => e = .returned (.bool (bs.any (fun d => decide (d = b)))) ∧ W = w' := by
  obtain ⟨r, hr⟩ : ∃ r, r = bs.any (fun d => decide (d = b)) := ⟨_, rfl⟩
  have HR := Lib.hid hr
  rw [← hr]
  clear hr
  go_enter Try.func112, Try.ntmps112
  go_wp2_with fail
  refine (slContainsU_any A l c b bs W h hl).mono ?_
  rw [← HR.out]
  rintro e w' ⟨rfl, rfl⟩
  go_wp2_with fail
  go_ret
  exact ⟨rfl, rfl⟩

/-- The pairs that are found to be stable. -/
noncomputable def stS (n m : Nat) (xss : List (List Int)) (P : List Nat) : List Nat := P.filter fun b => !hitB (firstF (apB n m xss) (fnd n m xss 400 b))
theorem stS_snoc {n m k b : Nat} {xss : List (List Int)} {P : List Nat} (h : P[k]? = some b) : stS n m xss (P.take (k + 1)) = stS n m xss (P.take k) ++ if hitB (firstF (apB n m xss) (fnd n m xss 400 b)) = true then [] else [b] := by
  unfold stS
  rw [take_snoc h, List.filter_append]
  congr 1
  rcases ho : hitB (firstF (apB n m xss) (fnd n m xss 400 b)) with _ | _
  · rw [List.filter_cons_of_pos (by rw [ho]; rfl)]; rfl
  · rw [List.filter_cons_of_neg (by rw [ho]; simp)]; rfl
theorem told_code (o : Option Fnd) : ((toldW o).2 == 6) = !hitB o := by
  rcases o with _ | f <;> rfl

set_option maxRecDepth 100000 in
set_option maxHeartbeats 4000000 in
theorem stablePairs_any (A : Option Addr) (n m cap : Nat) (xss : List (List Int)) (w : World) (hg : Good n m xss) (hR : RowsAt w A m xss) :
    Calls Try.prog 65 #[.agg #[.int .i64 (n : Int), .slice A m cap]] w fun e w' => ∃ u, e = .returned u ∧ w'.ownsRow w.heap.size 74 1 u (stS n m xss (prsS (2 ^ n - 1))).length ((stS n m xss (prsS (2 ^ n - 1))).map bitU) ∧ Below w.heap.size w w' := by
  obtain ⟨iS0, iS1, iS2, iS3, iS4⟩ := info_parts info_set
  have hn10 : n ≤ 10 := hg.n10
  obtain ⟨w1, hw1⟩ : ∃ w1, w1 = w.alloc (.cells #[.int .i64 (n : Int), .slice A m cap] 28) := ⟨_, rfl⟩
  have b1 : Below w.heap.size w w1 := by rw [hw1]; exact (Below.refl _ _).alloc (Nat.le_refl _) _
  have HBX := Lib.hid (show Box w1 w.heap.size [.int .i64 (n : Int), .slice A m cap] by rw [hw1]; exact Box.new _ _ _)
  have HX := Lib.hid (hR.below b1)
  have HB1 := Lib.hid b1
  have HW := Lib.hid hw1
  have HG := Lib.hid hg
  obtain ⟨R, hRR⟩ : ∃ R, R = stS n m xss (prsS (2 ^ n - 1)) := ⟨_, rfl⟩
  rw [← hRR]
  have HRR := Lib.hid hRR
  clear hR b1 hw1 hg hRR
  go_enter Try.func65, Try.ntmps65
  go_wp2_with fail
  rw [← HW.out]
  refine (pairWords_any A n m cap xss w1 HG.out HX.out).mono ?_
  rintro e w2 ⟨u, rfl, ⟨ws, hpw⟩, b2⟩
  obtain ⟨Pw, hPw⟩ : ∃ Pw, Pw = pwL n m xss := ⟨_, rfl⟩
  rw [← hPw] at hpw
  obtain ⟨A3, C3, rfl⟩ := own2_form hpw.out
  obtain ⟨N2, hN2⟩ : ∃ N2, N2 = Pw.length := ⟨_, rfl⟩
  rw [← hN2] at hpw ⊢
  have hN100 : N2 ≤ 100 := by rw [hN2, hPw]; unfold pwL; rw [List.length_map]; exact prsS_len _
  have HB2 := Lib.hid (below_then HB1.out b2)
  have HX2 := Lib.hid (HX.out.below b2)
  have HBX2 := Lib.hid (Box.below HBX.out b2)
  have HPW := Lib.hid hpw
  have HN2 := Lib.hid hN2
  have HPw := Lib.hid hPw
  clear hpw b2 hPw hN2 HW HX HBX
  go_wp2_with fail
  refine (pairsApart_any _ _ A3 N2 C3 ws Pw w2 HPW.out HN2.out.symm hN100).mono ?_
  rintro e w3 ⟨u, rfl, o3, b3⟩
  obtain ⟨Q, hQ⟩ : ∃ Q, Q = apL n m xss := ⟨_, rfl⟩
  have hQ' : (Pw.filter fun p => !p.ok).map PW.pair = Q := by rw [hQ, HPw.out]; rfl
  rw [hQ'] at o3
  obtain ⟨A4, C4, rfl⟩ := own2_form o3
  have hQ100 : Q.length ≤ 100 := by
    rw [← hQ', List.length_map]
    have h1 := List.length_filter_le (fun p : PW => !p.ok) Pw
    rw [← HN2.out] at h1
    omega
  obtain ⟨N4, hN4⟩ : ∃ N4, N4 = Q.length := ⟨_, rfl⟩
  rw [← hN4] at o3 hQ100 ⊢
  have HS3 := Lib.hid (show SetsAt w3 A4 N4 Q by
    rcases o3.2 with ⟨hv0, h0⟩ | ⟨g, cap', cur, hv0, hg, hh, hnc, hcap, hsz, htake⟩
    · have hq : Q = [] := List.eq_nil_of_length_eq_zero (by omega)
      refine ⟨hN4.symm, fun k b hb => ?_⟩
      rw [hq] at hb; simp at hb
    · simp only [Value.slice.injEq] at hv0
      obtain ⟨rfl, _, rfl⟩ := hv0
      exact SetsAt.own o3 hN4.symm)
  have HB3 := Lib.hid (below_then HB2.out b3)
  have HX3 := Lib.hid (HX2.out.below b3)
  have HBX3 := Lib.hid (Box.below HBX2.out b3)
  have HQ := Lib.hid hQ
  have HNQ := Lib.hid hN4
  clear o3 b3 hQ hQ' hN4 HX2 HBX2 HPW
  go_upto_region 4 with fail
  obtain ⟨w4, hw4⟩ : ∃ w4, w4 = w3.alloc (.cells #[.slice A4 N4 C4] 81) := ⟨_, rfl⟩
  rw [← hw4]
  have b4 : Below w3.heap.size w3 w4 := by rw [hw4]; exact (Below.refl _ _).alloc (Nat.le_refl _) _
  have HC4 := Lib.hid (show w4.cell? ⟨w3.heap.size, 0, none⟩ = some (.slice A4 N4 C4) by rw [hw4]; exact cell_of_row _ _ 0 _ _ _ (heap_alloc_new _ _))
  obtain ⟨B, hB⟩ : ∃ B, B = w3.heap.size := ⟨_, rfl⟩
  rw [← hB] at HC4 ⊢
  have HS4 := Lib.hid (HS3.out.below b4)
  have HB4 := Lib.hid (below_then HB3.out b4)
  have HX4 := Lib.hid (HX3.out.below b4)
  have HBX4 := Lib.hid (Box.below HBX3.out b4)
  have q0 := HBX4.out 0 _ rfl
  have q1 := HBX4.out 1 _ rfl
  clear b4 hw4 hB HX3 HBX3 HS3
  go_wp2_with fail
  refine (allStates_any A n m cap w4 hn10).mono ?_
  obtain ⟨F, hF⟩ : ∃ F, F = 2 ^ n - 1 := ⟨_, rfl⟩
  rw [← hF]
  have hF10 : F < 1024 := by have := pow_le hn10; have := Nat.two_pow_pos n; omega
  have HF := Lib.hid hF
  rintro e w5 ⟨rfl, b5⟩
  have HB5 := Lib.hid (below_then HB4.out b5)
  have HX5 := Lib.hid (HX4.out.below b5)
  have HBX5 := Lib.hid (Box.below HBX4.out b5)
  have HS5 := Lib.hid (HS4.out.below b5)
  have HC5 := Lib.hid ((b5.cell (cell_lt HC4.out)).trans HC4.out)
  clear b5 hF q0 q1 HX4 HBX4 HS4 HC4
  go_wp2_with fail
  refine (pairs_any F w5 hF10).mono ?_
  rintro e w6 ⟨u, rfl, o6, b6⟩
  obtain ⟨P, hP⟩ : ∃ P, P = prsS F := ⟨_, rfl⟩
  rw [← hP] at o6
  have hPl : P.length ≤ 100 := by rw [hP]; exact prsS_len F
  have HPL := Lib.hid (show ∀ b ∈ P, b < 1024 from fun b hb => by rw [hP] at hb; exact prsS_lt hb)
  have HP := Lib.hid hP
  obtain ⟨A6, C6, rfl⟩ := own2_form o6
  obtain ⟨N, hN⟩ : ∃ N, N = P.length := ⟨_, rfl⟩
  rw [← hN] at o6 hPl ⊢
  have HN := Lib.hid hN
  have HS6 := Lib.hid (show ∀ (k b : Nat), P[k]? = some b → ∃ g, A6 = some ⟨g, 0, none⟩ ∧ w6.cell? ⟨g, k, none⟩ = some (.int .u16 (b : Int)) from fun k b hb => by
    have hk : k < P.length := by
      rcases Nat.lt_or_ge k P.length with a | a
      · exact a
      · rw [List.getElem?_eq_none a] at hb; cases hb
    rcases o6.2 with ⟨hv0, h0⟩ | ⟨g, cap', cur, hv0, hg, hh, hnc, hcap, hsz, htake⟩
    · omega
    · simp only [Value.slice.injEq] at hv0
      obtain ⟨rfl, _, rfl⟩ := hv0
      refine ⟨g, rfl, (o6.cellAt k (by omega)).trans ?_⟩
      rw [List.getElem?_map, hb]
      rfl)
  have HB6 := Lib.hid (below_then HB5.out b6)
  have HX6 := Lib.hid (HX5.out.below b6)
  have HBX6 := Lib.hid (Box.below HBX5.out b6)
  have HSS6 := Lib.hid (HS5.out.below b6)
  have HC6 := Lib.hid ((b6.cell (cell_lt HC5.out)).trans HC5.out)
  clear b6 hP hN o6 HX5 HBX5 HS5 HC5
  go_wp2_with fail
  go_loopw [5, 18] (fun ov iv wr => ∃ (k : Nat) (Y : List Nat), k ≤ N ∧ iv = .int .i64 k ∧ Y = stS n m xss (P.take k) ∧ Y.length ≤ k ∧ wr.ownsRow w6.heap.size 74 1 ov Y.length (Y.map bitU) ∧ Below w6.heap.size w6 wr) (fun _ iv _ => N - (intOf iv).toNat)
  case atStart => exact ⟨0, [], Nat.zero_le _, rfl, rfl, Nat.le_refl _, own2_nil _ _ _ _, Below.refl _ _⟩
  case round =>
    obtain ⟨k, Y, hk, rfl, hY, hYl, hown, hbel⟩ := hrel
    obtain ⟨A7, C7, rfl⟩ := own2_form hown
    have HO := Lib.hid hown
    have HB := Lib.hid hbel
    have HY := Lib.hid hY
    have HYL := Lib.hid hYl
    have hk0 : (0 : Int) ≤ (k : Int) := by omega
    have q0 := (Box.below HBX6.out hbel) 0 _ rfl
    have q1 := (Box.below HBX6.out hbel) 1 _ rfl
    clear hown hbel hY
    by_cases hlt : k < N
    · have hkn : (k : Int) < (N : Int) := by omega
      have hYm : Y.length ≤ 100 := by omega
      obtain ⟨b, hbk⟩ : ∃ b, P[k]? = some b := ⟨P[k]'(by rw [← HN.out]; exact hlt), List.getElem?_eq_getElem _⟩
      obtain ⟨g, rfl, hc⟩ := HS6.out k b hbk
      have hcc := (HB.out.cell (cell_lt hc)).trans hc
      have hb10 := HPL.out b (List.mem_of_getElem? hbk)
      have HST := Lib.hid (stS_snoc (n := n) (m := m) (xss := xss) hbk)
      have HTC := Lib.hid (told_code (firstF (apB n m xss) (fnd n m xss 400 b)))
      clear hbk hc hYl
      go_wp2_with fail
      refine (firstWord_any 112 #[] #[.pointer (some ⟨B, 0, none⟩)] (apB n m xss) A n m cap b xss wr HG.out (HX6.out.below HB.out) hb10 (fun _ _ => rfl) (fun d _ W' hW => by
        have h1 := (hW.cell (cell_lt ((HB.out.cell (cell_lt HC6.out)).trans HC6.out))).trans ((HB.out.cell (cell_lt HC6.out)).trans HC6.out)
        refine (leadsApart_any B N4 C4 d A4 Q W' h1 ((HSS6.out.below HB.out).below hW) (by omega)).mono ?_
        rintro e w' ⟨rfl, rfl⟩
        refine ⟨?_, Below.refl _ _⟩
        congr 2
        unfold apB
        rw [← HQ.out, Bool.eq_iff_iff, List.any_eq_true, decide_eq_true_eq]
        simp)).mono ?_
      rintro e w7 ⟨u, rfl, o7, b7⟩
      obtain ⟨cd, hcd⟩ : ∃ cd, cd = (toldW (firstF (apB n m xss) (fnd n m xss 400 b))).2 := ⟨_, rfl⟩
      obtain ⟨ok, hok⟩ : ∃ ok, ok = hitB (firstF (apB n m xss) (fnd n m xss 400 b)) := ⟨_, rfl⟩
      rw [← hcd]
      rw [← hcd, ← hok] at HTC
      rw [← hok] at HST
      have HO7 := Lib.hid (own2_below HO.out b7)
      have HB7 := Lib.hid (below_then HB.out b7)
      clear o7 b7 hcd hok hcc q0 q1
      rcases ok with _ | _
      · have HN1 := Lib.hid (show stS n m xss (P.take (k + 1)) = Y ++ [b] by rw [HST.out, HY.out]; rfl)
        have h6 : (cd == 6) = true := HTC.out
        go_wp2_with (at_builtin; refine wpList_append_own _ rfl _ _ 81 rfl (w6.heap.size) 74 iS0 (.int .u16 0) 1 2 Try.underlying81 iS1 iS2 iS3 iS4 rfl (by decide) _ _ _ rfl (World.ownsRow.alloc (HO7.out) _) ⟨(w7).heap.size, 0, none⟩ 1 1 [.int .u16 (b : Int)] rfl rfl (cell_one_new _ _ _) (ones_bitU [b]) (by unfold maxLen; omega) (by omega) (by rw [World.size_alloc]; exact Nat.le_succ_of_le (HB7.out.size)) ?_)
        intro v' w8 hown' hgrow _
        have ba : Below w7.heap.size w7 (w7.alloc (.cells #[.int .u16 (b : Int)] 74)) := (Below.refl _ _).alloc (Nat.le_refl _) _
        have HB8 := Lib.hid (below_grown (below_then HB7.out ba) hgrow (fun g hg => (HO7.out.lt g hg).1))
        have HO8 := Lib.hid hown'
        clear hown' hgrow ba h6
        go_wp2_with fail
        go_roundw
        case rel =>
          refine ⟨k + 1, Y ++ [b], by omega, by go_num, HN1.out.symm, by rw [List.length_append]; have := HYL.out; simp; omega, ?_, HB8.out⟩
          rw [List.length_append, List.map_append]; exact HO8.out
        case measure => simp [intOf]; omega
      · have HN1 := Lib.hid (show stS n m xss (P.take (k + 1)) = Y by rw [HST.out, HY.out, if_pos rfl, List.append_nil])
        have h6 : (cd == 6) = false := HTC.out
        go_wp2_with fail
        go_roundw
        case rel => exact ⟨k + 1, Y, by omega, by go_num, HN1.out.symm, by have := HYL.out; omega, HO7.out, HB7.out⟩
        case measure => simp [intOf]; omega
    · have hke : k = N := by omega
      have hkn : ¬ (k : Int) < (N : Int) := by omega
      have HE := Lib.hid (show R = Y by rw [HRR.out, HY.out, hke, HN.out, List.take_length, HP.out, HF.out])
      clear hke hlt hYl q0 q1
      go_wp2_with fail
      go_ret
      refine ⟨_, rfl, ?_, below_then HB6.out HB.out⟩
      rw [HE.out]
      exact own2_bs HO.out HB6.out.size

end Go.Proofs.Ytcglncepmieaaaa
