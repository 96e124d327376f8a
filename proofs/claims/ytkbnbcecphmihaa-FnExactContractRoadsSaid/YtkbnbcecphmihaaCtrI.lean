/-
  Contracted roads: the contract of the program's ContractRoads.
-/
import Derived.Test.YtkbnbcecphmihaaCtr
import Derived.Deep.AppendLies
namespace Go.Proofs.Ytkbnbcecphmihaa
open Go.RowKit Go.Deep Go.ChangeShapes Go.WideShapes

def tabQ (xss : List (List Int)) (cls LS : List Int) (q : Nat) : List (List Int) := (LS.take q).map fun s => lrow xss cls s.toNat
theorem tabQ_len {xss : List (List Int)} {cls LS : List Int} {q : Nat} (h : q ≤ LS.length) : (tabQ xss cls LS q).length = q := by simp [tabQ]; omega
theorem tabQ_succ {xss : List (List Int)} {cls LS : List Int} {q s : Nat} (h : LS[q]? = some ((s : Nat) : Int)) : tabQ xss cls LS (q + 1) = tabQ xss cls LS q ++ [lrow xss cls s] := by
  unfold tabQ; rw [take_snoc h, List.map_append]; simp
theorem tabQ_all {xss : List (List Int)} {cls LS : List Int} : tabQ xss cls LS LS.length = LS.map fun s => lrow xss cls s.toNat := by unfold tabQ; rw [List.take_length]
theorem IntsIn.beside {lo hi : Nat} {w w' : World} {v : Value} {xs : List Int} {row : Option Nat} (h : IntsIn lo hi w v xs) (hg : w.grownBy w' row) (hr : ∀ g, row = some g → g < lo ∨ hi ≤ g) : IntsIn lo hi w' v xs := by
  cases row with
  | none => exact h.below ⟨hg.os, hg.tape, hg.output, hg.size, fun k hk => hg.block k hk (by simp)⟩
  | some g =>
    rcases hr g rfl with a | a
    · exact h.only (Only.of_grown hg) (.inr (by omega))
    · exact h.only (Only.of_grown hg) (.inl a)

set_option maxRecDepth 100000 in
set_option maxHeartbeats 8000000 in
theorem implContractRoads_any (s : Int) (A : Option Addr) (n cap : Nat) (xss : List (List Int)) (A2 : Option Addr) (l c2 : Nat) (cls : List Int) (w : World) (h : RowsAt w A n xss) (hn : n ≤ 4611686018427387904)
    (hrows : ∀ (r : Nat) (xs : List Int), xss[r]? = some xs → xs.length ≤ 4611686018427387904) (h2 : NumsAt w A2 l cls) (hl : l ≤ 1048576) :
    Calls Try.prog 47 #[.agg #[.int .i64 s, .slice A n cap], .slice A2 l c2] w (AutosTo (contractRoads s xss cls) w) := by
  have HR := Lib.hid hrows
  have HM := Lib.hid h.1
  obtain ⟨i1, hi1, hy0, hy1, hy2⟩ := info_parts info_ints
  obtain ⟨W2, hW2⟩ : ∃ W2, W2 = (w.alloc (.cells #[.int .i64 s, .slice A n cap] 27)).alloc (.cells #[.int .i64 0, .slice none 0 0] 27) := ⟨_, rfl⟩
  have b2 : Below w.heap.size w W2 := by rw [hW2]; go_grown
  have x0 : W2.cell? ⟨w.heap.size, 0, none⟩ = some (.int .i64 s) := by rw [hW2]; go_cell
  have x1 : W2.cell? ⟨w.heap.size, 1, none⟩ = some (.slice A n cap) := by rw [hW2]; go_cell
  have xr : W2.heap[w.heap.size + 1]? = some (.cells #[.int .i64 0, .slice none 0 0] 27 (0, 0)) := by
    have := heap_alloc_new (w.alloc (.cells #[.int .i64 s, .slice A n cap] 27)) (.cells #[.int .i64 0, .slice none 0 0] 27)
    rw [World.size_alloc, ← hW2] at this
    exact this
  have B2 := Lib.hid b2
  have H2 := Lib.hid (h.below b2)
  have N2 := Lib.hid (h2.below b2)
  have XR := Lib.hid xr
  have HW2 := Lib.hid hW2
  clear hrows b2 xr hW2 h h2
  go_enter Try.func47, Try.ntmps47
  go_wp2_with fail
  rw [← HW2.out]
  refine (implValidRoads_any s A n cap xss _ H2.out hn HR.out).mono ?_
  rcases hok : okR s xss with _ | _
  · have HF := Lib.hid (contractRoads_1 (cls := cls) hok)
    rintro e w1 ⟨rfl, b1⟩
    have xr := (b1.block _ (block_lt XR.out)).trans XR.out
    obtain ⟨e0, e1, e2, e3⟩ := box2_cellsR xr
    have B1 := Lib.hid (below_then B2.out b1)
    obtain ⟨g2, g3⟩ := box2_setR xr (.int .i64 0) (.slice none 0 0)
    clear b1 xr x0 x1
    go_wp2_with fail
    refine bodyPost_ret (v := .tuple #[.agg #[.int .i64 0, .slice none 0 0], .int .i64 1]) (by simp [results, Try.results47, go_sem, g2, g3]) rfl ?_
    exact autosTo_mk HF.out (tab_nil _ _ _) ((B1.out.setCell (by simp; try omega) _).setCell (by simp; try omega) _)
  · obtain ⟨m, hsn, _, hg⟩ := goodR_of hok HM.out
    subst hsn
    have HG := Lib.hid hg
    have hn1 : 1 ≤ n := hg.n1
    have hn7 : n ≤ 7 := hg.n7
    have hm1 : 1 ≤ m := hg.m1
    have hm3 : m ≤ 3 := hg.m3
    clear hg
    rintro e w1 ⟨rfl, b1⟩
    have x0' : w1.cell? ⟨w.heap.size, 0, none⟩ = some (.int .i64 (n : Int)) := (b1.cell (cell_lt x0)).trans x0
    have x1' : w1.cell? ⟨w.heap.size, 1, none⟩ = some (.slice A n cap) := (b1.cell (cell_lt x1)).trans x1
    have xr := (b1.block _ (block_lt XR.out)).trans XR.out
    have H1 := Lib.hid (H2.out.below b1)
    have HN1 := Lib.hid (N2.out.below b1)
    have B1 := Lib.hid (below_then B2.out b1)
    have XR1 := Lib.hid xr
    have HOK := Lib.hid hok
    clear b1 xr x0 x1 hok
    rcases hdv : divB (n : Int) cls with _ | _
    · have HF := Lib.hid (contractRoads_2 HOK.out hdv)
      obtain ⟨e0, e1, e2, e3⟩ := box2_cellsR XR1.out
      obtain ⟨g2, g3⟩ := box2_setR XR1.out (.int .i64 0) (.slice none 0 0)
      go_wp2_with (go_at_call 96; refine (isDivision_any A2 l c2 cls (n : Int) _ HN1.out hl).mono ?_; rw [hdv]; rintro e w' ⟨rfl, rfl⟩)
      refine bodyPost_ret (v := .tuple #[.agg #[.int .i64 0, .slice none 0 0], .int .i64 2]) (by simp [results, Try.results47, go_sem, g2, g3]) rfl ?_
      exact autosTo_mk HF.out (tab_nil _ _ _) ((B1.out.setCell (by simp; try omega) _).setCell (by simp; try omega) _)
    · have HDV := Lib.hid hdv
      have HDO := Lib.hid (divOk_of hdv)
      have HLN := Lib.hid (show l = n by have h1 := HN1.out.1; have h2 := HDO.out.len; omega)
      obtain ⟨OB, hOB⟩ : ∃ OB, OB = w1.heap.size := ⟨_, rfl⟩
      have hRB : w.heap.size + 1 < OB := by rw [hOB]; exact block_lt XR1.out
      obtain ⟨w3, hw3⟩ : ∃ w3, w3 = w1.alloc (.cells #[.int .i64 0, .slice none 0 0] 27) := ⟨_, rfl⟩
      have b3 : Below w1.heap.size w1 w3 := by rw [hw3]; exact (Below.refl _ _).alloc (Nat.le_refl _) _
      have xo : w3.heap[OB]? = some (.cells #[.int .i64 0, .slice none 0 0] 27 (0, 0)) := by rw [hw3, hOB]; exact heap_alloc_new _ _
      have HXO := Lib.hid xo
      have HXR := Lib.hid ((b3.block _ (block_lt XR1.out)).trans XR1.out)
      have HRB := Lib.hid hRB
      have C1 := Lib.hid x1'
      have HBW1 := Lib.hid b3
      have HOB1 := Lib.hid hOB
      have HN3 := Lib.hid (HN1.out.below b3)
      clear xo hRB b3
      go_wp2_with (go_at_call 96; refine (isDivision_any A2 l c2 cls (n : Int) _ HN1.out hl).mono ?_; rw [hdv]; rintro e w' ⟨rfl, rfl⟩)
      rw [← hw3, ← hOB]
      clear hw3 hOB x0' x1' hdv
      refine (leastStates_any A2 l c2 cls w3 HN3.out (by have := HLN.out; omega)).mono ?_
      rintro e w4 ⟨uL, rfl, oL, bL⟩
      obtain ⟨LS, hLS⟩ : ∃ LS, LS = leastK cls n := ⟨_, rfl⟩
      rw [HLN.out, ← hLS] at oL
      obtain ⟨AL, cL, rfl⟩ := own_form oL
      have hlsl : LS.length ≤ 7 := by rw [hLS, leastK_len]; have := cntK_le cls n; omega
      have HLS := Lib.hid hLS
      have OL := Lib.hid (IntsIn.of oL)
      have BL := Lib.hid bL
      have Y1 := Lib.hid ((bL.block _ (block_lt HXR.out)).trans HXR.out)
      have Y2 := Lib.hid ((bL.block _ (block_lt HXO.out)).trans HXO.out)
      have HB4 := Lib.hid (below_then HBW1.out bL)
      have HOW := Lib.hid (show OB + 1 ≤ w3.heap.size from block_lt HXO.out)
      clear oL bL hLS
      go_wp2_with fail
      go_loopw [24] (fun i wr => ∃ (q : Nat) (v : Value) (vs : List Value), q ≤ LS.length ∧ i = .int .i64 q ∧ wr.heap[w.heap.size + 1]? = some (.cells #[.int .i64 0, .slice none 0 0] 27 (0, 0)) ∧ wr.heap[OB]? = some (.cells #[.int .i64 (q : Int), v] 27 (0, 0)) ∧
          TabV w4.heap.size wr.heap.size wr v vs (tabQ xss cls LS q) ∧ IntsIn w3.heap.size w4.heap.size wr (.slice AL LS.length cL) LS ∧ Below w1.heap.size w1 wr ∧ w4.heap.size ≤ wr.heap.size) (fun i _ => LS.length - (intOf i).toNat)
      case atStart => exact ⟨0, .slice none 0 0, [], Nat.zero_le _, rfl, Y1.out, Y2.out, tabV_nil _ _ _, OL.out, HB4.out, Nat.le_refl _⟩
      case round =>
        obtain ⟨q, v, vs, hq, rfl, hxr, hxo, htab, hls, hbel, hz⟩ := hrel
        obtain ⟨Y, hY⟩ : ∃ Y, Y = tabQ xss cls LS q := ⟨_, rfl⟩
        rw [← hY] at htab
        obtain ⟨A3, c3, rfl⟩ := own_form htab.out
        have HY := Lib.hid hY
        have HYL := Lib.hid (show Y.length = q by rw [hY, tabQ_len hq])
        have X1 := Lib.hid hxr
        have X2 := Lib.hid hxo
        have HT := Lib.hid htab
        have HB := Lib.hid hbel
        have HLI := Lib.hid hls
        have HZ := Lib.hid hz
        have y1 : wr.cell? ⟨w.heap.size, 1, none⟩ = some (.slice A n cap) := (hbel.cell (cell_lt C1.out)).trans C1.out
        clear hxr hxo htab hls hY hz
        by_cases hql : q < LS.length
        · have hqc : q < cntK cls n := by have := HLS.out; rw [this, leastK_len] at hql; exact hql
          obtain ⟨hl1, hl2, hl3⟩ := HDO.out.least q hqc
          rw [← HLS.out] at hl1
          obtain ⟨s0, hs0⟩ : ∃ s0, s0 = lst cls n q := ⟨_, rfl⟩
          rw [← hs0] at hl1 hl2
          have HTQ := Lib.hid (tabQ_succ (xss := xss) (cls := cls) hl1)
          obtain ⟨row, hrow, hrl, hrb, hlr⟩ := HG.out.at_ (cls := cls) hl2
          have HLR := Lib.hid hlr
          have HRL := Lib.hid hrl
          have HRB2 := Lib.hid (show ∀ x ∈ row, 0 ≤ x ∧ x < (l : Int) by rw [HLN.out]; exact hrb)
          obtain ⟨xsq, bl, offl, hxq, rfl, hcq⟩ := (HLI.out.nums rfl).at_ hql
          rw [hl1] at hxq
          obtain rfl := Option.some.inj hxq
          obtain ⟨row', br, offr, A7, c7, hr', rfl, hcr, hnum⟩ := (H1.out.below hbel).at_ hl2
          rw [hrow] at hr'
          obtain rfl := Option.some.inj hr'
          rw [hrl] at hcr hnum
          have HNUM := Lib.hid hnum
          have HNC := Lib.hid (HN1.out.below hbel)
          obtain ⟨b0, b1', f0, f1⟩ := box2_cellsR X2.out
          have h9 : Below wr.heap.size wr wr := Below.refl _ _
          have KO := Lib.hid (show ∀ W', Below wr.heap.size wr W' → W'.cell? ⟨OB, 1, none⟩ = some (.slice A3 Y.length c3) from fun W' hb => (hb.cell (cell_lt b1')).trans b1')
          have KO0 := Lib.hid (show ∀ W', Below wr.heap.size wr W' → W'.cell? ⟨OB, 0, none⟩ = some (.int .i64 (q : Int)) from fun W' hb => (hb.cell (cell_lt b0)).trans b0)
          have KF := Lib.hid (show ∀ W', Below wr.heap.size wr W' → W'.frozen? ⟨OB, 1, none⟩ = false from fun W' hb => (hb.frozen (cell_lt b1')).trans f1)
          have KF0 := Lib.hid (show ∀ W', Below wr.heap.size wr W' → W'.frozen? ⟨OB, 0, none⟩ = false from fun W' hb => (hb.frozen (cell_lt b0)).trans f0)
          have KP := Lib.hid (show ∀ W', Below wr.heap.size wr W' → W'.cell? ⟨w.heap.size, 1, none⟩ = some (.slice (some ⟨br, offr, none⟩) n cap) from fun W' hb => (hb.cell (cell_lt y1)).trans y1)
          have KR := Lib.hid (show ∀ W', Below wr.heap.size wr W' → W'.cell? ⟨br, offr + s0, none⟩ = some (.slice A7 m c7) from fun W' hb => (hb.cell (cell_lt hcr)).trans hcr)
          have HON := Lib.hid (fun q' (hq' : (Value.slice A3 Y.length c3).ownBlock = some q') => (HT.out.out.lt q' hq').1)
          have HRW := Lib.hid (block_lt X2.out)
          have ik1 : (q : Int) < (LS.length : Int) := by omega
          have ik2 : (0 : Int) ≤ (s0 : Int) := by omega
          have ik3 : (s0 : Int) < (n : Int) := by omega
          have hrl' : Y.length ≤ 7 := by rw [HYL.out]; omega
          obtain ⟨CN, hCN⟩ : ∃ CN : Int, CN = ((q + 1 : Nat) : Int) := ⟨_, rfl⟩
          have hcn : IntKind.i64.wrap ((q : Int) + 1) = CN := by rw [hCN, show (q : Int) + 1 = ((q + 1 : Nat) : Int) by omega]; exact IntWalk.i64_in _ (by omega)
          have HCN := Lib.hid hCN
          have HS0 := Lib.hid hs0
          clear hl1 hl3 hrow hrb hlr hnum hr' hxq hbel b0 f0 f1 hs0 hCN hrl
          go_wp2_with fail
          go_region_law
            (first
              | (refine step_append_lies _ rfl _ _ 22 rfl w4.heap.size 55 i1 (.slice none 0 0) 1 24 Try.underlying22 hi1 hy0 hy1 hy2 rfl (by decide) _ _ _ rfl (own_below HTB.out.out (by first | exact (Below.refl _ _).alloc (Nat.le_refl _) _ | exact ((Below.refl _ _).alloc (Nat.le_refl _) _).drew | exact (Below.refl _ _).drew.alloc (Nat.le_refl _) _)) ⟨_, 0, none⟩ 1 1 [.slice AB m cB] rfl rfl (cell_one_new _ _ _) (by simp [Value.oneCell']) (by decide) (by unfold maxLen; omega) (by omega) (by have := HLB.out; simp; omega) _ rfl ?_; intro g6 cap6 w6 hown6 hgrow6 hat6 hlt6; have hgr6 : (wB.alloc (.cells #[.slice AB m cB] 55)).grownBy w6 (Value.slice A3 Y.length c3).ownBlock := ⟨hgrow6.os, hgrow6.tape, hgrow6.output, hgrow6.size, hgrow6.block⟩; have c6 : w6.cell? ⟨OB, 1, none⟩ = some (.slice A3 Y.length c3) := (hgr6.cell_far ⟨OB, 1, none⟩ (by have := HLB.out; have := HOW.out; have := BL.out.size; simp; omega) (fun e => by have h8 := HON.out _ e.symm; simp at h8; have := HOW.out; have := BL.out.size; omega)).trans (qB _); have c60 : w6.cell? ⟨OB, 0, none⟩ = some (.int .i64 (q : Int)) := (hgr6.cell_far ⟨OB, 0, none⟩ (by have := HLB.out; have := HOW.out; have := BL.out.size; simp; omega) (fun e => by have h8 := HON.out _ e.symm; simp at h8; have := HOW.out; have := BL.out.size; omega)).trans (qB0 _); have f6 : w6.frozen? ⟨OB, 1, none⟩ = false := (hgr6.frozen_far ⟨OB, 1, none⟩ (by have := HLB.out; have := HOW.out; have := BL.out.size; simp; omega) (fun e => by have h8 := HON.out _ e.symm; simp at h8; have := HOW.out; have := BL.out.size; omega)).trans (fB _); have f60 : w6.frozen? ⟨OB, 0, none⟩ = false := (hgr6.frozen_far ⟨OB, 0, none⟩ (by have := HLB.out; have := HOW.out; have := BL.out.size; simp; omega) (fun e => by have h8 := HON.out _ e.symm; simp at h8; have := HOW.out; have := BL.out.size; omega)).trans (fB0 _); have HG6 := Lib.hid hgr6; have HO6 := Lib.hid hown6; have HAT6 := Lib.hid hat6; clear hown6 hgrow6 hat6 hlt6 hgr6)
              | (go_simp; go_at_call 98; refine (classesOf_any A7 A2 m c7 l c2 row cls _ (by first | exact HNUM.out | exact HNUM.out.below (by first | exact h9.drew | exact below_drewN' h9 _)) (by first | exact HNC.out | exact HNC.out.below (by first | exact h9.drew | exact below_drewN' h9 _)) hm1 (by omega) HRB2.out).mono ?_; rintro e' wB ⟨uB, rfl, oB, bB⟩; have hB : Below wr.heap.size wr wB := below_then (by first | exact h9 | exact h9.drew | exact below_drewN' h9 _) bB; obtain ⟨AB, cB, rfl⟩ := own_form oB; have OW := Lib.hid (own_base oB (show wr.heap.size ≤ _ from by first | exact Nat.le_refl _ | (simp; done))); have qcB := KO.out _ hB; have qB : ∀ o, (wB.alloc o).cell? ⟨OB, 1, none⟩ = some (.slice A3 Y.length c3) := fun o => KO.out _ (hB.alloc hB.size o); have qB0 : ∀ o, (wB.alloc o).cell? ⟨OB, 0, none⟩ = some (.int .i64 (q : Int)) := fun o => KO0.out _ (hB.alloc hB.size o); have fB : ∀ o, (wB.alloc o).frozen? ⟨OB, 1, none⟩ = false := fun o => KF.out _ (hB.alloc hB.size o); have fB0 : ∀ o, (wB.alloc o).frozen? ⟨OB, 0, none⟩ = false := fun o => KF0.out _ (hB.alloc hB.size o); have HTB := Lib.hid (HT.out.below hB); have HLB := Lib.hid (show w4.heap.size ≤ wB.heap.size from Nat.le_trans HZ.out hB.size); clear oB bB)
              | fail)
          all_goals
            have hrow : IntsIn wr.heap.size wB.heap.size wB (.slice AB m cB) (ledF cls row) := ⟨by rw [ledF_len, HRL.out]; exact OW.out, fun q hq => (OW.out.lt q hq).2⟩
            have ba5 : Below wB.heap.size wB (wB.alloc (.cells #[.slice AB m cB] 55)) := (Below.refl _ _).alloc (Nat.le_refl _) _
            have hat := HAT6.out
            have htab2 := TabV.snoc (HTB.out.below ba5) (hrow.below ba5) HO6.out HG6.out (hat.elim (fun e => .inl e.symm) (fun e => .inr (by rw [e]; rfl))) HZ.out (Nat.le_refl _) ba5.size
            rw [← (show tabQ xss cls LS (q + 1) = Y ++ [ledF cls row] by rw [HTQ.out, ← HY.out, HLR.out])] at htab2
            obtain ⟨w7, hw7⟩ : ∃ w7, w7 = (w6.setCell ⟨OB, 1, none⟩ (.slice (some ⟨g6, 0, none⟩) (Y.length + 1) cap6)).setCell ⟨OB, 0, none⟩ (.int .i64 CN) := ⟨_, rfl⟩
            have hs7 : Only OB (OB + 1) w6 w7 := by rw [hw7]; exact (only_setCell w6 OB 1 _).trans (only_setCell _ OB 0 _)
            have z7 : w7.heap.size = w6.heap.size := by rw [hw7, World.size_setCell, World.size_setCell]
            have how := HOW.out
            have hbl := BL.out.size
            have hob1 := HOB1.out
            have hrb := HRB.out
            have HS1 := Lib.hid (show TabV w4.heap.size w7.heap.size w7 (.slice (some ⟨g6, 0, none⟩) (Y.length + 1) cap6) (vs ++ [.slice AB m cB]) (tabQ xss cls LS (q + 1)) by rw [z7]; exact htab2.only hs7 (.inr (by omega)))
            have hp6 : ∀ z (c : Obj), wr.heap[z]? = some c → z < w4.heap.size → w6.heap[z]? = some c := fun z c hc hz => by
              have h1 := block_lt hc
              have h5s := hB.size
              exact (HG6.out.block z (Nat.lt_of_lt_of_le (Nat.lt_of_lt_of_le h1 h5s) ba5.size) (fun e => by have := HON.out z e.symm; omega)).trans ((ba5.block z (Nat.lt_of_lt_of_le h1 h5s)).trans ((hB.block z h1).trans hc))
            have HS2 := Lib.hid (show w7.heap[w.heap.size + 1]? = some (.cells #[.int .i64 0, .slice none 0 0] 27 (0, 0)) by
              rw [hw7, heap_setCell_other _ ⟨OB, 0, none⟩ _ _ (by simp; omega), heap_setCell_other w6 ⟨OB, 1, none⟩ _ _ (by simp; omega)]
              exact hp6 _ _ X1.out (by omega))
            have x6 := hp6 _ _ X2.out (by omega)
            have x61 : (w6.setCell ⟨OB, 1, none⟩ (.slice (some ⟨g6, 0, none⟩) (Y.length + 1) cap6)).heap[OB]? = some (.cells #[.int .i64 (q : Int), .slice (some ⟨g6, 0, none⟩) (Y.length + 1) cap6] 27 (0, 0)) := by rw [heap_setCell_same w6 OB 1 _ _ _ x6]; rfl
            have HS3 := Lib.hid (show w7.heap[OB]? = some (.cells #[.int .i64 ((q + 1 : Nat) : Int), .slice (some ⟨g6, 0, none⟩) (Y.length + 1) cap6] 27 (0, 0)) by
              rw [hw7, heap_setCell_same _ OB 0 _ _ _ x61, HCN.out]; rfl)
            have hbb := below_then HB.out hB
            have hb6 : Below w1.heap.size w1 w6 := below_grown (below_then hbb ba5) HG6.out (fun q' hq' => by have := HON.out q' hq'; omega)
            have HS4 := Lib.hid (show Below w1.heap.size w1 w7 from Only.below hb6 hs7 (by omega) hb6.size)
            have HS5 := Lib.hid (show IntsIn w3.heap.size w4.heap.size w7 (.slice (some ⟨bl, offl, none⟩) LS.length cL) LS from (IntsIn.beside ((HLI.out.below hB).below ba5) HG6.out (fun g hg => .inr (HON.out g hg))).only hs7 (.inr how))
            have HS6 := Lib.hid (show w4.heap.size ≤ w7.heap.size by rw [z7]; exact Nat.le_trans HLB.out (Nat.le_trans ba5.size HG6.out.size))
            have HW7 := Lib.hid hw7
            clear hrow ba5 hat htab2 hs7 z7 hp6 x6 x61 hbb hb6 qB qB0 fB fB0 qcB hB h9 how hbl hob1 hrb hw7 y1 hcr hcq
            go_wp2_with fail
            rw [← HW7.out]
            go_roundw
            case rel => exact ⟨q + 1, _, _, by omega, by rw [HCN.out], HS2.out, HS3.out, HS1.out, HS5.out, HS4.out, HS6.out⟩
            case measure => have hcn := HCN.out; simp [intOf]; omega
        · have hqe : q = LS.length := by omega
          have hyk : Y = tabK xss cls n := by rw [HY.out, hqe, tabQ_all, HLS.out]; rfl
          have hqn : q = cntK cls n := by rw [hqe, HLS.out, leastK_len]
          have HYK := Lib.hid hyk
          have HQN := Lib.hid hqn
          have HQE := Lib.hid hqe
          have HZZ := Lib.hid HZ.out
          clear hqe hyk hqn hbel
          go_wp2_with fail
          go_loopw [48] (fun i wi => ∃ k : Nat, k ≤ n ∧ i = .int .i64 k ∧ (∀ j, j < k → lrow xss cls j = lrow xss cls (lst cls n (cl cls j))) ∧ Below wr.heap.size wr wi) (fun i _ => n - (intOf i).toNat)
          case atStart => exact ⟨0, Nat.zero_le _, rfl, fun j hj => absurd hj (Nat.not_lt_zero _), Below.refl _ _⟩
          case round =>
            obtain ⟨k, hk, rfl, hall, hb2⟩ := hrel
            have HALL := Lib.hid hall
            have HB2 := Lib.hid hb2
            have HBW := Lib.hid (below_then HB.out hb2)
            have V1 := Lib.hid ((hb2.block _ (block_lt X1.out)).trans X1.out)
            have V2 := Lib.hid ((hb2.block _ (block_lt X2.out)).trans X2.out)
            have HTW := Lib.hid ((HT.out.below hb2).wide (Nat.le_refl _) hb2.size)
            clear hall hb2
            by_cases hlt : k < n
            · obtain ⟨row, hrow, hrl, hrb, hlr⟩ := HG.out.at_ (cls := cls) hlt
              have HLR := Lib.hid hlr
              have HRL := Lib.hid hrl
              have HRB2 := Lib.hid (show ∀ x ∈ row, 0 ≤ x ∧ x < (l : Int) by rw [HLN.out]; exact hrb)
              obtain ⟨row', br, offr, A7, c7, hr', hAr, hcr, hnum⟩ := (H1.out.below HBW.out).at_ hlt
              rw [hrow] at hr'
              obtain rfl := Option.some.inj hr'
              rw [hrl] at hcr hnum
              subst hAr
              have HNUM := Lib.hid hnum
              have HNC := Lib.hid (HN1.out.below HBW.out)
              obtain ⟨ck, bc, offc, hck2, hAc, hcc⟩ := HNC.out.at_ (k := k) (by have := HLN.out; omega)
              have hcat := HDO.out.at_ k hlt
              rw [hck2] at hcat
              obtain rfl := Option.some.inj hcat
              subst hAc
              have hclt := HDO.out.lt k hlt
              have hta := tabK_at (xss := xss) HDO.out (Nat.le_refl n) hclt
              have hyl : Y.length = cntK cls n := by rw [HYK.out, tabK_len]
              rw [← HYK.out] at hta
              obtain ⟨row2, bt, offt, A9, c9, hr2, hAt, hct, hnt⟩ := (TabIn.rows ⟨vs, HTW.out⟩ rfl : RowsAt wr A3 Y.length Y).at_ (r := cl cls k) (by rw [hyl]; exact hclt)
              rw [hta] at hr2
              obtain rfl := Option.some.inj hr2
              subst hAt
              have HNT := Lib.hid hnt
              obtain ⟨_, b1', _, f1⟩ := box2_cellsR V2.out
              have h9 : Below wr.heap.size wr wr := Below.refl _ _
              have KO := Lib.hid (show ∀ W', Below wr.heap.size wr W' → W'.cell? ⟨OB, 1, none⟩ = some (.slice (some ⟨bt, offt, none⟩) Y.length c3) from fun W' hb => (hb.cell (cell_lt b1')).trans b1')
              have KC := Lib.hid (show ∀ W', Below wr.heap.size wr W' → W'.cell? ⟨bc, offc + k, none⟩ = some (.int .i64 ((cl cls k : Nat) : Int)) from fun W' hb => (hb.cell (cell_lt hcc)).trans hcc)
              have KT := Lib.hid (show ∀ W', Below wr.heap.size wr W' → W'.cell? ⟨bt, offt + cl cls k, none⟩ = some (.slice A9 (lrow xss cls (lst cls n (cl cls k))).length c9) from fun W' hb => (hb.cell (cell_lt hct)).trans hct)
              have ik0 : (0 : Int) ≤ (k : Int) := by omega
              have ik1 : (k : Int) < (n : Int) := by omega
              have ik2 : (k : Int) < (l : Int) := by have := HLN.out; omega
              have ik3 : (0 : Int) ≤ ((cl cls k : Nat) : Int) := by omega
              have ik4 : ((cl cls k : Nat) : Int) < (Y.length : Int) := by rw [hyl]; omega
              have hl2 : (lrow xss cls (lst cls n (cl cls k))).length ≤ 4611686018427387904 := by have := lrow_le HG.out cls (lst cls n (cl cls k)); omega
              have HFF := Lib.hid (fun (hs : ¬ ledF cls row = lrow xss cls (lst cls n (cl cls k))) => contractRoads_4 HOK.out HDV.out (ctrB_f hlt (by rw [hlr]; exact hs)))
              clear hrow hrb hlr hr' hnum hck2 hcat hta hr2 hnt hrl f1
              rcases hsame : sameB (ledF cls row) (lrow xss cls (lst cls n (cl cls k))) with _ | _
              · have HF := Lib.hid (HFF.out (by intro e; rw [sameB_t e] at hsame; cases hsame))
                go_wp2_with fail
                go_region_law
                  (first
                    | (go_simp; go_at_call 98; refine (classesOf_any A7 (some ⟨bc, offc, none⟩) m c7 l c2 row cls _ (by first | exact HNUM.out | exact HNUM.out.below (by first | exact h9.drew | exact below_drewN' h9 _)) (by first | exact HNC.out | exact HNC.out.below (by first | exact h9.drew | exact below_drewN' h9 _)) hm1 (by omega) HRB2.out).mono ?_; rintro e' wA ⟨uA, rfl, oA, bA⟩; have hA : Below wr.heap.size wr wA := below_then (by first | exact h9 | exact h9.drew | exact below_drewN' h9 _) bA; obtain ⟨AA, cA, rfl⟩ := own_form oA; have OA := Lib.hid oA; have qcA := KO.out _ hA; have qcA2 := KC.out _ hA; have qcA3 := KT.out _ hA; clear oA bA)
                    | (go_simp; go_at_call 67; refine (slicesEqual_any AA A9 m (lrow xss cls (lst cls n (cl cls k))).length cA c9 (ledF cls row) (lrow xss cls (lst cls n (cl cls k))) _ (NumsAt.own (own_below OA.out (by first | exact Below.refl _ _ | exact (Below.refl _ _).drew | exact below_drewN' (Below.refl _ _) _)) (by rw [ledF_len]; exact HRL.out) rfl) (HNT.out.below (by first | exact hA | exact hA.drew | exact below_drewN' hA _)) (by omega) hl2).mono ?_; rw [hsame]; rintro e' wE ⟨rfl, d, hwE⟩; have hE : Below wr.heap.size wr wE := (by rw [hwE]; exact below_drewN' (by first | exact hA | exact hA.drew | exact below_drewN' hA _) d); clear hwE)
                    | fail)
                all_goals
                  have VE := (hE.block _ (block_lt V1.out)).trans V1.out
                  obtain ⟨e0, e1, e2, e3⟩ := box2_cellsR VE
                  obtain ⟨g2, g3⟩ := box2_setR VE (.int .i64 0) (.slice none 0 0)
                  have BE := Lib.hid (below_then B1.out (below_then HBW.out hE))
                  clear VE hE hA h9
                  go_wp2_with fail
                  refine bodyPost_ret (v := .tuple #[.agg #[.int .i64 0, .slice none 0 0], .int .i64 4]) (by simp [results, Try.results47, go_sem, g2, g3]) rfl ?_
                  exact autosTo_mk HF.out (tab_nil _ _ _) ((BE.out.setCell (by simp; try omega) _).setCell (by simp; try omega) _)
              · have HSM := Lib.hid (show ledF cls row = lrow xss cls (lst cls n (cl cls k)) by
                  by_cases e : ledF cls row = lrow xss cls (lst cls n (cl cls k))
                  · exact e
                  · rw [sameB_f e] at hsame; cases hsame)
                go_wp2_with fail
                go_region_law
                  (first
                    | (go_simp; go_at_call 98; refine (classesOf_any A7 (some ⟨bc, offc, none⟩) m c7 l c2 row cls _ (by first | exact HNUM.out | exact HNUM.out.below (by first | exact h9.drew | exact below_drewN' h9 _)) (by first | exact HNC.out | exact HNC.out.below (by first | exact h9.drew | exact below_drewN' h9 _)) hm1 (by omega) HRB2.out).mono ?_; rintro e' wA ⟨uA, rfl, oA, bA⟩; have hA : Below wr.heap.size wr wA := below_then (by first | exact h9 | exact h9.drew | exact below_drewN' h9 _) bA; obtain ⟨AA, cA, rfl⟩ := own_form oA; have OA := Lib.hid oA; have qcA := KO.out _ hA; have qcA2 := KC.out _ hA; have qcA3 := KT.out _ hA; clear oA bA)
                    | (go_simp; go_at_call 67; refine (slicesEqual_any AA A9 m (lrow xss cls (lst cls n (cl cls k))).length cA c9 (ledF cls row) (lrow xss cls (lst cls n (cl cls k))) _ (NumsAt.own (own_below OA.out (by first | exact Below.refl _ _ | exact (Below.refl _ _).drew | exact below_drewN' (Below.refl _ _) _)) (by rw [ledF_len]; exact HRL.out) rfl) (HNT.out.below (by first | exact hA | exact hA.drew | exact below_drewN' hA _)) (by omega) hl2).mono ?_; rw [hsame]; rintro e' wE ⟨rfl, d, hwE⟩; have hE : Below wr.heap.size wr wE := (by rw [hwE]; exact below_drewN' (by first | exact hA | exact hA.drew | exact below_drewN' hA _) d); clear hwE)
                    | fail)
                all_goals
                  have HE := Lib.hid (below_then HB2.out hE)
                  clear hE hA h9
                  go_wp2_with fail
                  go_roundw
                  case rel =>
                    refine ⟨k + 1, by omega, by go_num, fun j hj => ?_, HE.out⟩
                    rcases Nat.lt_or_ge j k with a | a
                    · exact HALL.out j a
                    · obtain rfl : j = k := by omega
                      rw [HLR.out, HSM.out]
                  case measure => simp [intOf]; omega
            · have hkn : k = n := by omega
              have HF := Lib.hid (contractRoads_0 HOK.out HDV.out (ctrB_t (xss := xss) (cls := cls) (n := n) (fun j hj => HALL.out j (by omega))))
              obtain ⟨d0, d1, g0, g1⟩ := box2_cellsR V2.out
              obtain ⟨e0, e1, e2, e3⟩ := box2_cellsR V1.out
              obtain ⟨g2, g3⟩ := box2_setR V1.out (.int .i64 (q : Int)) (.slice A3 Y.length c3)
              clear hkn
              go_wp2_with fail
              refine bodyPost_ret (v := .tuple #[.agg #[.int .i64 (q : Int), .slice A3 Y.length c3], .int .i64 0]) (by simp [results, Try.results47, go_sem, g2, g3]) rfl ?_
              have hrb := HRB.out
              have how := HOW.out
              have hbl := BL.out.size
              have hf := HF.out
              rw [← HQN.out, ← HYK.out] at hf
              refine autosTo_mk hf ?_ (((below_then B1.out HBW.out).setCell (by simp) _).setCell (by simp) _)
              rw [set2_sizeR]
              exact (TabIn.only ⟨vs, HTW.out⟩ (set2_onlyR _ _ _ _) (.inr (by omega))).wide (by omega) (Nat.le_refl _)


end Go.Proofs.Ytkbnbcecphmihaa
