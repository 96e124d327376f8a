/-
  The roads of an automaton: the contract of the model's l05Of.
-/
import Derived.Test.YtkhhemlfahdbnabRoadO
import Derived.Deep.DeepCutAuto
import Derived.Deep.RegionLaw
namespace Go.Proofs.Ytkhhemlfahdbnab
open Go.RowKit Go.Deep Go.ChangeShapes Go.WideShapes

theorem only_of_belowR {B : Nat} {w w' : World} (h : Below B w w') : Only B w.heap.size w w' := ⟨h.os, h.tape, h.output, h.size, fun k hk hb => h.block k (by omega)⟩

set_option maxRecDepth 100000 in
set_option maxHeartbeats 8000000 in
theorem l05Of_any (p n m cap : Nat) (A : Option Addr) (xss : List (List Int)) (w : World) (hg : Good n m xss) (c0 : w.cell? ⟨p, 0, none⟩ = some (.int .i64 (n : Int))) (c1 : w.cell? ⟨p, 1, none⟩ = some (.slice A m cap)) (h : RowsAt w A m xss) :
    Calls Try.prog 140 #[.pointer (some ⟨p, 0, none⟩)] w fun e w' => ∃ v, e = .returned (.agg #[.int .i64 (n : Int), v]) ∧ TabIn w.heap.size w'.heap.size w' v (roadL xss m n) ∧ Below w.heap.size w w' := by
  obtain ⟨i1, hi1, hy0, hy1, hy2⟩ := info_parts info_ints
  obtain ⟨W0, hW0⟩ : ∃ W0, W0 = (w.alloc (.cells #[.int .i64 0, .slice none 0 0] 28)).alloc (.cells #[.int .i64 (n : Int), .slice none 0 0] 28) := ⟨_, rfl⟩
  have b0 : Below w.heap.size w W0 := by rw [hW0]; go_grown
  have r1 : W0.heap[w.heap.size]? = some (.cells #[.int .i64 0, .slice none 0 0] 28 (0, 0)) := by
    rw [hW0]
    have := heap_alloc_new w (.cells #[.int .i64 0, .slice none 0 0] 28)
    exact (((Below.refl _ _).alloc (Nat.le_refl _) _).block _ (by simp)).trans this
  have r2 : W0.heap[w.heap.size + 1]? = some (.cells #[.int .i64 (n : Int), .slice none 0 0] 28 (0, 0)) := by
    rw [hW0]
    have := heap_alloc_new (w.alloc (.cells #[.int .i64 0, .slice none 0 0] 28)) (.cells #[.int .i64 (n : Int), .slice none 0 0] 28)
    rw [World.size_alloc] at this
    exact this
  have hpl := cell_lt c0
  obtain ⟨RB, hRB⟩ : ∃ RB, RB = w.heap.size + 1 := ⟨_, rfl⟩
  rw [← hRB] at r2
  have HRB := Lib.hid hRB
  have HG := Lib.hid hg
  have hm1 := hg.m1
  have hm3 := hg.m3
  have hn10 := hg.n10
  have H0 := Lib.hid h
  have HW0 := Lib.hid hW0
  have B0 := Lib.hid b0
  have C0 := Lib.hid c0
  have C1 := Lib.hid c1
  have R1 := Lib.hid r1
  have R2 := Lib.hid r2
  clear hg h hW0 b0 r1 r2 c1
  go_enter Try.func140, Try.ntmps140
  go_wp2_with fail
  rw [← HW0.out, ← hRB]
  clear hRB c0
  go_loopw [4] (fun i wr => ∃ (k : Nat) (v : Value) (vs : List Value), k ≤ n ∧ i = .int .i64 k ∧ wr.heap[w.heap.size]? = some (.cells #[.int .i64 0, .slice none 0 0] 28 (0, 0)) ∧
      wr.heap[RB]? = some (.cells #[.int .i64 (n : Int), v] 28 (0, 0)) ∧ TabV (RB + 1) wr.heap.size wr v vs (roadL xss m k) ∧ Below w.heap.size w wr) (fun i _ => n - (intOf i).toNat)
  case atStart => exact ⟨0, _, [], Nat.zero_le _, rfl, R1.out, R2.out, tabV_nil _ _ _, B0.out⟩
  case round =>
    obtain ⟨k, v, vs, hk, rfl, hr1, hr2, htab, hbel⟩ := hrel
    obtain ⟨A3, c3, rfl⟩ := own_form htab.out
    have hp0 := (hbel.cell (cell_lt C0.out)).trans C0.out
    have X1 := Lib.hid hr1
    have X2 := Lib.hid hr2
    have HT := Lib.hid htab
    have HB := Lib.hid hbel
    have HP1 := Lib.hid ((hbel.cell (cell_lt C1.out)).trans C1.out)
    clear hr1 hr2 htab
    by_cases hlt : k < n
    · have ik1 : (k : Int) < (n : Int) := by omega
      obtain ⟨_, b1, _, f1⟩ := box2_cellsR X2.out
      have HB1 := Lib.hid b1
      have HF1 := Lib.hid f1
      have KO := Lib.hid (show ∀ W', Below wr.heap.size wr W' → W'.cell? ⟨RB, 1, none⟩ = some (.slice A3 (roadL xss m k).length c3) from fun W' hb => (hb.cell (cell_lt b1)).trans b1)
      have KF := Lib.hid (show ∀ W', Below wr.heap.size wr W' → W'.frozen? ⟨RB, 1, none⟩ = false from fun W' hb => (hb.frozen (cell_lt b1)).trans f1)
      have KP := Lib.hid (show ∀ W', Below wr.heap.size wr W' → W'.cell? ⟨p, 1, none⟩ = some (.slice A m cap) from fun W' hb => (hb.cell (cell_lt HP1.out)).trans HP1.out)
      have KR := Lib.hid (show ∀ W', Below wr.heap.size wr W' → RowsAt W' A m xss from fun W' hb => H0.out.below (below_then HB.out hb))
      have HON := Lib.hid (fun q' (hq' : (Value.slice A3 (roadL xss m k).length c3).ownBlock = some q') => (HT.out.out.lt q' hq').1)
      have HRW := Lib.hid (block_lt X2.out)
      have hrl : (roadL xss m k).length ≤ 10 := by rw [roadL_len]; omega
      have h9 : Below wr.heap.size wr wr := Below.refl _ _
      have HLT := Lib.hid hlt
      clear hbel f1
      go_wp2_with fail
      clear hp0
      go_region_law
        (first
          | (refine step_append_lies _ rfl _ _ 22 rfl (RB + 1) 64 i1 (.slice none 0 0) 1 24 Try.underlying22 hi1 hy0 hy1 hy2 rfl (by decide) _ _ _ rfl (own_below HTB.out.out (by first | exact (Below.refl _ _).alloc (Nat.le_refl _) _ | exact ((Below.refl _ _).alloc (Nat.le_refl _) _).drew | exact (Below.refl _ _).drew.alloc (Nat.le_refl _) _)) ⟨_, 0, none⟩ 1 1 [.slice AB m cB] rfl rfl (cell_one_new _ _ _) (by simp [Value.oneCell']) (by decide) (by unfold maxLen; omega) (by omega) (by have := HLB.out; simp; omega) _ rfl ?_; intro g6 cap6 w6 hown6 hgrow6 hat6 hlt6; have hgr6 : (wB.alloc (.cells #[.slice AB m cB] 64)).grownBy w6 (Value.slice A3 (roadL xss m k).length c3).ownBlock := ⟨hgrow6.os, hgrow6.tape, hgrow6.output, hgrow6.size, hgrow6.block⟩; have c6 : w6.cell? ⟨RB, 1, none⟩ = some (.slice A3 (roadL xss m k).length c3) := (hgr6.cell_far ⟨RB, 1, none⟩ (by have := HLB.out; simp; omega) (fun e => by have := HON.out _ e.symm; simp at this; omega)).trans (qB _); have f6 : w6.frozen? ⟨RB, 1, none⟩ = false := (hgr6.frozen_far ⟨RB, 1, none⟩ (by have := HLB.out; simp; omega) (fun e => by have := HON.out _ e.symm; simp at this; omega)).trans (fB _); have HG6 := Lib.hid hgr6; have HO6 := Lib.hid hown6; have HAT6 := Lib.hid hat6; clear hown6 hgrow6 hat6 hlt6 hgr6)
          | (go_simp; go_at_call 84; refine (l05Letters_any p A n m cap k xss _ (KP.out _ (by first | exact h9 | exact h9.drew | exact below_drewN' h9 _)) HG.out (KR.out _ (by first | exact h9 | exact h9.drew | exact below_drewN' h9 _)) HLT.out).mono ?_; rintro e' wA ⟨uA, rfl, oA, bA⟩; have hA : Below wr.heap.size wr wA := below_then (by first | exact h9 | exact h9.drew | exact below_drewN' h9 _) bA; obtain ⟨AA, cA, rfl⟩ := own_form oA; have OA := Lib.hid oA; have qcA := KO.out _ hA; have HLA := Lib.hid hA.size; clear oA bA)
          | (go_simp; go_at_call 172; refine (l05Sorted_any AA m cA (leadF xss m k) _ (NumsAt.own (own_below OA.out (by first | exact Below.refl _ _ | exact (Below.refl _ _).drew | exact below_drewN' (Below.refl _ _) _)) (leadF_len _ _ _) rfl) hm1 (by omega)).mono ?_; rintro e' wB ⟨uB, rfl, oB, bB⟩; have hB : Below wr.heap.size wr wB := below_then (by first | exact hA | exact hA.drew | exact below_drewN' hA _) bB; obtain ⟨AB, cB, rfl⟩ := own_form oB; have OB := Lib.hid (own_base oB (show wr.heap.size ≤ _ from by first | exact HLA.out | (simp; exact HLA.out))); have qcB := KO.out _ hB; have qB : ∀ o, (wB.alloc o).cell? ⟨RB, 1, none⟩ = some (.slice A3 (roadL xss m k).length c3) := fun o => KO.out _ (hB.alloc hB.size o); have fB : ∀ o, (wB.alloc o).frozen? ⟨RB, 1, none⟩ = false := fun o => KF.out _ (hB.alloc hB.size o); have HTB := Lib.hid (HT.out.below hB); have HLB := Lib.hid (show RB + 1 ≤ wB.heap.size from Nat.le_trans HRW.out hB.size); clear oB bB)
          | fail)
      all_goals
        have hrow : IntsIn wr.heap.size wB.heap.size wB (.slice AB m cB) (sortF (leadF xss m k)) := ⟨by rw [sortF_len, leadF_len]; exact OB.out, fun q hq => (OB.out.lt q hq).2⟩
        have ba5 : Below wB.heap.size wB (wB.alloc (.cells #[.slice AB m cB] 64)) := (Below.refl _ _).alloc (Nat.le_refl _) _
        have hat := HAT6.out
        have htab2 := TabV.snoc (HTB.out.below ba5) (hrow.below ba5) HO6.out HG6.out (hat.elim (fun e => .inl e.symm) (fun e => .inr (by rw [e]; rfl))) HRW.out (Nat.le_refl _) ba5.size
        rw [← roadL_succ] at htab2
        have hs6 := only_setCell w6 RB 1 (.slice (some ⟨g6, 0, none⟩) ((roadL xss m k).length + 1) cap6)
        have HS1 := Lib.hid (show TabV (RB + 1) (w6.setCell ⟨RB, 1, none⟩ (.slice (some ⟨g6, 0, none⟩) ((roadL xss m k).length + 1) cap6)).heap.size (w6.setCell ⟨RB, 1, none⟩ (.slice (some ⟨g6, 0, none⟩) ((roadL xss m k).length + 1) cap6)) _ _ _ by rw [World.size_setCell]; exact htab2.only hs6 (.inr (Nat.le_refl _)))
        have hrb := HRB.out
        have hp6 : ∀ z (c : Obj), wr.heap[z]? = some c → z < RB + 1 → w6.heap[z]? = some c := fun z c hc hz => by
          have h1 := block_lt hc
          have h5s := hB.size
          exact (HG6.out.block z (Nat.lt_of_lt_of_le (Nat.lt_of_lt_of_le h1 h5s) ba5.size) (fun e => by have := HON.out z e.symm; omega)).trans ((ba5.block z (Nat.lt_of_lt_of_le h1 h5s)).trans ((hB.block z h1).trans hc))
        have HS2 := Lib.hid (show (w6.setCell ⟨RB, 1, none⟩ (.slice (some ⟨g6, 0, none⟩) ((roadL xss m k).length + 1) cap6)).heap[w.heap.size]? = some (.cells #[.int .i64 0, .slice none 0 0] 28 (0, 0)) by
          rw [heap_setCell_other w6 ⟨RB, 1, none⟩ _ _ (by simp; omega)]
          exact hp6 _ _ X1.out (by omega))
        have HS3 := Lib.hid (show (w6.setCell ⟨RB, 1, none⟩ (.slice (some ⟨g6, 0, none⟩) ((roadL xss m k).length + 1) cap6)).heap[RB]? = some (.cells #[.int .i64 (n : Int), .slice (some ⟨g6, 0, none⟩) ((roadL xss m k).length + 1) cap6] 28 (0, 0)) by
          rw [heap_setCell_same w6 RB 1 _ _ _ (hp6 _ _ X2.out (by omega))]; rfl)
        have hbb := below_then HB.out hB
        have HS4 := Lib.hid (show Below w.heap.size w (w6.setCell ⟨RB, 1, none⟩ (.slice (some ⟨g6, 0, none⟩) ((roadL xss m k).length + 1) cap6)) from ((below_then hbb ba5).grown HG6.out (below_then hbb ba5).size (fun q' hq' => by have := HON.out q' hq'; omega)).setCell (by simp; omega) _)
        clear hrow ba5 hat htab2 hs6 hrb hp6 hbb c6 f6 qB fB qcB qcA b1 hA hB h9
        go_wp2_with fail
        go_roundw
        case rel => exact ⟨k + 1, _, _, by omega, by go_num, HS2.out, HS3.out, HS1.out, HS4.out⟩
        case measure => simp [intOf]; omega
    · have hkn : k = n := by omega
      have HKN := Lib.hid hkn
      obtain ⟨g2, g3⟩ := box2_setR X1.out (.int .i64 (n : Int)) (.slice A3 (roadL xss m k).length c3)
      obtain ⟨_, _, e4, e5⟩ := box2_cellsR X1.out
      obtain ⟨b0, b1, _, _⟩ := box2_cellsR X2.out
      clear hkn hbel
      go_wp2_with fail
      refine bodyPost_ret (v := .agg #[.int .i64 (n : Int), .slice A3 (roadL xss m k).length c3]) (by simp [results, Try.results140, go_sem, g2, g3]) rfl ?_
      have hrb := HRB.out
      refine ⟨_, rfl, ?_, (HB.out.setCell (by simp) _).setCell (by simp) _⟩
      rw [set2_sizeR, ← HKN.out]
      exact (TabIn.only ⟨vs, HT.out⟩ (set2_onlyR _ _ _ _) (.inr (by omega))).wide (by omega) (Nat.le_refl _)

end Go.Proofs.Ytkhhemlfahdbnab
