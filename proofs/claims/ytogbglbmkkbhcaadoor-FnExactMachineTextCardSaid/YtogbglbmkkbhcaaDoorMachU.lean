/-
  The text of a machine: the contract of the program's MachineText: rows of transitions that grow one after another.
-/
import Derived.Test.YtogbglbmkkbhcaaDoorMachT
import Derived.Test.YtogbglbmkkbhcaaDoorTrans
import Derived.Deep.AppendLies
import Derived.Deep.RegionLaw
namespace Go.Proofs.YtogbglbmkkbhcaaDoor
open Go.RowKit Go.Deep Go.ChangeShapes Go.WideShapes

theorem info_trn : (Tryd.prog.info? 105).map (fun i => (i.zero, i.size, i.bytes)) = some (some (.agg #[.int .i64 0, .int .i64 0]), 2, 16) := by kernel_rfl
theorem info_trns : (Tryd.prog.info? 103).map (fun i => (i.zero, i.size, i.bytes)) = some (some (.slice none 0 0), 1, 24) := by kernel_rfl
def pcl (gs : List (Nat × Nat)) : List Value := gs.flatMap fun g => [.int .i64 (g.1 : Int), .int .i64 (g.2 : Int)]
theorem pcl_append (a b : List (Nat × Nat)) : pcl (a ++ b) = pcl a ++ pcl b := by simp [pcl]
theorem pcl_at : ∀ {gs : List (Nat × Nat)} {j : Nat} {p : Nat × Nat}, gs[j]? = some p → (pcl gs)[j * 2]? = some (.int .i64 (p.1 : Int)) ∧ (pcl gs)[j * 2 + 1]? = some (.int .i64 (p.2 : Int))
  | [], j, p, h => by simp at h
  | g :: gs, 0, p, h => by
    simp only [List.getElem?_cons_zero, Option.some.injEq] at h
    subst h
    exact ⟨rfl, rfl⟩
  | g :: gs, j + 1, p, h => by
    simp only [List.getElem?_cons_succ] at h
    have := pcl_at h
    rw [show (j + 1) * 2 = j * 2 + 2 by omega]
    exact this
theorem ones_pair (k j : Int) : ∀ u ∈ [Value.int .i64 k, Value.int .i64 j], u.oneCell' = true := by
  intro u hu
  simp at hu
  rcases hu with rfl | rfl <;> rfl
theorem pairs_of_own {w : World} {base N : Nat} {u : Value} {ps : List (Nat × Nat)} (h : w.ownsRow base 105 2 u N (pcl ps)) (hl : ps.length = N) : ∃ A c, u = .slice A ps.length c ∧ PairsAt w A ps.length ps := by
  obtain ⟨A, c, rfl⟩ := own2_form h
  subst hl
  refine ⟨A, c, rfl, rfl, fun k p hp => ?_⟩
  have hk : k < ps.length := by
    rcases Nat.lt_or_ge k ps.length with hlt | hge
    · exact hlt
    · rw [List.getElem?_eq_none hge] at hp; cases hp
  obtain ⟨g, rfl, hc⟩ := own2_at h hk
  exact ⟨g, rfl, (hc (k * 2) (by omega)).trans (pcl_at hp).1, (hc (k * 2 + 1) (by omega)).trans (pcl_at hp).2⟩

/-- The rows of the first k letters are made, in the block G; behind them lies nothing yet. -/
structure MadeR (G n N k : Nat) (xss yss : List (List Int)) (us tail : List Value) (top : Nat) (w : World) : Prop where
  len : us.length = k
  heap : w.heap[G]? = some (.cells (us ++ tail).toArray 103 (0, 0))
  done : ∀ (j : Nat) (u : Value), us[j]? = some u → w.ownsRow (G + 1) 105 2 u N (pcl (trL xss yss j N)) ∧ ∀ g, u.ownBlock = some g → g < top
theorem MadeR.below {G n N k top : Nat} {xss yss : List (List Int)} {us tail : List Value} {w w' : World} (h : MadeR G n N k xss yss us tail top w) (hb : Below w.heap.size w w') : MadeR G n N k xss yss us tail top w' :=
  ⟨h.len, (hb.block _ (kept_lt h.heap)).trans h.heap, fun j u hu => ⟨own2_below (h.done j u hu).1 hb, (h.done j u hu).2⟩⟩
theorem MadeR.grown {G n N k top : Nat} {xss yss : List (List Int)} {us tail : List Value} {w w' : World} {v : Value} {s : Nat} {cs : List Value} (h : MadeR G n N k xss yss us tail top w) (ho : w.ownsRow top 105 2 v s cs) (hG : G < top) (hg : w.grownBy w' v.ownBlock) : MadeR G n N k xss yss us tail top w' := by
  have hv : ∀ g, v.ownBlock = some g → top ≤ g := fun g e => (ho.lt g e).1
  refine ⟨h.len, (hg.block _ (kept_lt h.heap) (fun e => ?_)).trans h.heap, fun j u hu => ⟨(h.done j u hu).1.kept hg ?_, (h.done j u hu).2⟩⟩
  · have := hv _ e.symm; omega
  · rcases hub : u.ownBlock with _ | g
    · exact .inl rfl
    · refine .inr (fun e => ?_)
      have h1 := (h.done j u hu).2 g hub
      have h2 := hv g e.symm
      omega
theorem own2_setOther {w : World} {base z : Nat} {e : TypeId} {v : Value} {n : Nat} {cs : List Value} {G : Nat} (h : w.ownsRow base e z v n cs) (hb : G < base) (j : Nat) (u : Value) : (w.setCell ⟨G, j, none⟩ u).ownsRow base e z v n cs := by
  obtain ⟨h1, h2⟩ := h
  refine ⟨h1, ?_⟩
  rcases h2 with h2 | ⟨g, cap, cur, hv, hg, hh, rest⟩
  · exact .inl h2
  · refine .inr ⟨g, cap, cur, hv, hg, ?_, rest⟩
    rw [heap_setCell_other _ _ _ _ (by show g ≠ G; omega)]
    exact hh
theorem MadeR.put {G n N k top : Nat} {xss yss : List (List Int)} {us tail : List Value} {v v' : Value} {w : World} (h : MadeR G n N k xss yss us (v :: tail) top w) : MadeR G n N k xss yss us (v' :: tail) top (w.setCell ⟨G, k, none⟩ v') := by
  refine ⟨h.len, ?_, fun j u hu => ⟨own2_setOther (h.done j u hu).1 (Nat.lt_succ_self _) _ _, (h.done j u hu).2⟩⟩
  rw [heap_setCell_same w G k _ _ v' h.heap, List.setIfInBounds_toArray, ← h.len, List.set_append_right _ _ (Nat.le_refl _), Nat.sub_self]
  rfl
theorem MadeR.drew {G n N k top : Nat} {xss yss : List (List Int)} {us tail : List Value} {w : World} (h : MadeR G n N k xss yss us tail top w) : MadeR G n N k xss yss us tail top w.drew := ⟨h.len, h.heap, h.done⟩
theorem own2_drew {w : World} {base z : Nat} {e : TypeId} {v : Value} {n : Nat} {cs : List Value} (h : w.ownsRow base e z v n cs) : w.drew.ownsRow base e z v n cs := h
theorem MadeR.cell {G n N k top : Nat} {xss yss : List (List Int)} {us tail : List Value} {v : Value} {w : World} (h : MadeR G n N k xss yss us (v :: tail) top w) : w.cell? ⟨G, k, none⟩ = some v := by
  rw [cell_of_row w G k _ _ _ h.heap, List.getElem?_toArray, ← h.len, List.getElem?_append_right (Nat.le_refl _), Nat.sub_self]
  rfl
theorem own2_base {w : World} {base base' z : Nat} {e : TypeId} {v : Value} {n : Nat} {cs : List Value} (h : w.ownsRow base e z v n cs) (hb : base' ≤ base) : w.ownsRow base' e z v n cs := by
  obtain ⟨h1, h2⟩ := h
  refine ⟨h1, ?_⟩
  rcases h2 with h2 | ⟨g, cap, cur, hv, hg, rest⟩
  · exact .inl h2
  · exact .inr ⟨g, cap, cur, hv, Nat.le_trans hb hg, rest⟩
/-- One more row is made. -/
theorem MadeR.next {G n N k top : Nat} {xss yss : List (List Int)} {us tail : List Value} {v : Value} {w : World} (h : MadeR G n N k xss yss us (v :: tail) top w) (hG : G < top) (ho : w.ownsRow top 105 2 v N (pcl (trL xss yss k N))) (htop : top ≤ w.heap.size) : MadeR G n N (k + 1) xss yss (us ++ [v]) tail w.heap.size w := by
  refine ⟨by rw [List.length_append, h.len]; rfl, by rw [List.append_assoc]; exact h.heap, fun j u hu => ?_⟩
  rcases Nat.lt_or_ge j us.length with hlt | hge
  · rw [List.getElem?_append_left hlt] at hu
    exact ⟨(h.done j u hu).1, fun g e => Nat.lt_of_lt_of_le ((h.done j u hu).2 g e) htop⟩
  · rw [List.getElem?_append_right hge] at hu
    have hj : j - us.length = 0 := by
      rcases Nat.eq_zero_or_pos (j - us.length) with h0 | h0
      · exact h0
      · rw [List.getElem?_eq_none (by simp only [List.length_cons, List.length_nil]; omega)] at hu; cases hu
    rw [hj] at hu
    have hjk : j = k := by have := h.len; omega
    subst hjk
    simp only [List.getElem?_cons_zero, Option.some.injEq] at hu
    subst hu
    exact ⟨own2_base ho (by omega), fun g e => (ho.lt g e).2⟩
theorem MadeR.rows {G n N top : Nat} {xss yss : List (List Int)} {us : List Value} {w : World} (h : MadeR G n N n xss yss us [] top w) : PairRows w (some ⟨G, 0, none⟩) n (rowsM xss yss N n) := by
  refine ⟨rowsM_len _ _ _ _, fun r ps hr => ?_⟩
  have hrn : r < n := by
    rcases Nat.lt_or_ge r n with hlt | hge
    · exact hlt
    · rw [List.getElem?_eq_none (by rw [rowsM_len]; exact hge)] at hr; cases hr
  rw [rowsM_at hrn] at hr
  cases hr
  have hrl : r < us.length := by rw [h.len]; exact hrn
  have hu : us[r]? = some us[r] := List.getElem?_eq_getElem hrl
  obtain ⟨A', c', hv, hp⟩ := pairs_of_own (h.done r _ hu).1 (trL_len _ _ _ _)
  refine ⟨G, A', c', rfl, ?_, hp⟩
  rw [cell_of_row w G r _ _ _ h.heap, List.append_nil, List.getElem?_toArray, hu, hv]

set_option maxRecDepth 100000 in
set_option maxHeartbeats 8000000 in
theorem implMachineText_any (s q : Int) (A : Option Addr) (n c : Nat) (xss : List (List Int)) (B : Option Addr) (m d : Nat) (yss : List (List Int)) (w : World) (h : RowsAt w A n xss) (hn : n ≤ 4611686018427387904)
    (hrows : ∀ (r : Nat) (xs : List Int), xss[r]? = some xs → xs.length ≤ 4611686018427387904) (g : RowsAt w B m yss) (hm : m ≤ 4611686018427387904) (houts : ∀ (r : Nat) (xs : List Int), yss[r]? = some xs → xs.length ≤ 4611686018427387904) :
    Calls Tryd.prog 31 #[.agg #[.int .i64 s, .int .i64 q, .slice A n c, .slice B m d]] w fun e w' => e = .returned (.string (strOfNums (machineText s q xss yss))) ∧ Below w.heap.size w w' := by
  have HR := Lib.hid hrows
  have HO := Lib.hid houts
  have HL := Lib.hid h.1
  have HLY := Lib.hid g.1
  obtain ⟨w1, hw1⟩ : ∃ w1, w1 = w.alloc (.cells #[.int .i64 s, .int .i64 q, .slice A n c, .slice B m d] 59) := ⟨_, rfl⟩
  have b1 : Below w.heap.size w w1 := by rw [hw1]; exact (Below.refl _ _).alloc (Nat.le_refl _) _
  have HB := Lib.hid (show Box w1 w.heap.size [.int .i64 s, .int .i64 q, .slice A n c, .slice B m d] by rw [hw1]; exact Box.new _ _ _)
  have HX := Lib.hid (h.below b1)
  have HY := Lib.hid (g.below b1)
  have W1 := Lib.hid b1
  have HW := Lib.hid hw1
  clear h g b1 hw1 hrows houts
  go_enter Tryd.func31, Tryd.ntmps31
  go_wp2_with fail
  rw [← HW.out]
  refine (implValidMachine_any s q A n c xss B m d yss w1 HX.out hn HR.out HY.out hm HO.out).mono ?_
  rintro e w2 ⟨rfl, b2⟩
  have HB2 := Lib.hid (Box.below HB.out b2)
  have HX2 := Lib.hid (HX.out.below b2)
  have HY2 := Lib.hid (HY.out.below b2)
  have W2 := Lib.hid (below_then W1.out b2)
  clear b2
  rcases hok : okM s q xss yss with _ | _
  · have HF := Lib.hid (machineText_1 hok)
    go_wp2_with fail
    go_ret
    exact ⟨ret_strT (by rw [HF.out]; rfl), W2.out⟩
  · obtain ⟨N, K, hs, hk, hg⟩ := goodM_of hok HL.out
    subst hs hk
    have HF := Lib.hid (machineText_0 hok HL.out)
    obtain rfl : m = n := by rw [← HLY.out, hg.outs]
    have HG := Lib.hid hg
    have hN := hg.good.n10
    have hm3 := hg.good.m3
    have hk3 := hg.k3
    have hM : m ≤ 10 := by omega
    have hK : K ≤ 10 := by omega
    obtain ⟨i0, hi, hz0, hz1, hz2⟩ := info_parts info_trn
    have hmk := run_make_row' (P := Tryd.prog) 102 103 (.slice none 0 0) 24 Tryd.underlying102 info_trns rfl .i64 .i64 m (by omega) (by omega)
    obtain ⟨w3, hw3⟩ : ∃ w3, w3 = w2.alloc (.cells (madeCells #[.slice none 0 0] m) 103) := ⟨_, rfl⟩
    have b3 : Below w2.heap.size w2 w3 := by rw [hw3]; exact (Below.refl _ _).alloc (Nat.le_refl _) _
    have HM0 := Lib.hid (show MadeR w2.heap.size m N 0 xss yss [] (List.replicate m (.slice none 0 0)) w3.heap.size w3 from ⟨rfl, by
      rw [hw3, heap_alloc_new, List.nil_append]
      congr 2
      apply Array.ext'
      rw [toList_madeCells_one], fun j u hu => by simp at hu⟩)
    have y2 := HB2.out 2 _ rfl
    have HZ3 := Lib.hid (show w2.heap.size < w3.heap.size by rw [hw3, World.size_alloc]; exact Nat.lt_succ_self _)
    have HW3 := Lib.hid hw3
    have B3 := Lib.hid b3
    clear hw3 b3 hg hok
    go_wp2_with fail
    rw [← HW3.out]
    clear hmk y2
    go_loopw [15] (fun i wr => ∃ (k : Nat) (us : List Value), k ≤ m ∧ i = .int .i64 k ∧ MadeR w2.heap.size m N k xss yss us (List.replicate (m - k) (.slice none 0 0)) wr.heap.size wr ∧ Below w2.heap.size w2 wr ∧ w2.heap.size < wr.heap.size) (fun i _ => m - (intOf i).toNat)
    case atStart => exact ⟨0, [], Nat.zero_le _, rfl, HM0.out, B3.out, HZ3.out⟩
    case round =>
      obtain ⟨k, us, hk, rfl, hmd, hbel, hsz⟩ := hrel
      have HMD := Lib.hid hmd
      have HWR := Lib.hid hbel
      have HSZ := Lib.hid hsz
      have c0 := Box.below HB2.out hbel 0 _ rfl
      have c1 := Box.below HB2.out hbel 1 _ rfl
      clear hmd hbel hsz
      by_cases hlt : k < m
      · have hk0 : (0 : Int) ≤ (k : Int) := by omega
        have hkl : (k : Int) < (m : Int) := by omega
        obtain ⟨G, hG⟩ : ∃ G, G = wr.heap.size := ⟨_, rfl⟩
        have HMD0 := Lib.hid (show MadeR w2.heap.size m N k xss yss us (.slice none 0 0 :: List.replicate (m - (k + 1)) (.slice none 0 0)) G wr by
          rw [hG, ← List.replicate_succ, show m - (k + 1) + 1 = m - k by omega]
          exact HMD.out)
        have HGG := Lib.hid (show w2.heap.size < G by rw [hG]; exact HSZ.out)
        have HGS := Lib.hid (show G ≤ wr.heap.size by rw [hG]; exact Nat.le_refl _)
        clear hG
        go_wp2_with fail
        clear c0 c1
        go_loopw [20] (fun j wi => ∃ (p : Nat) (v : Value), p ≤ N ∧ j = .int .i64 p ∧ MadeR w2.heap.size m N k xss yss us (v :: List.replicate (m - (k + 1)) (.slice none 0 0)) G wi ∧ wi.ownsRow G 105 2 v p (pcl (trL xss yss k p)) ∧ Below w2.heap.size w2 wi ∧ G ≤ wi.heap.size) (fun j _ => N - (intOf j).toNat)
        case atStart => exact ⟨0, .slice none 0 0, Nat.zero_le _, rfl, HMD0.out, own2_nil _ _ _ _, HWR.out, HGS.out⟩
        case round =>
          obtain ⟨p, v, hp, rfl, hmd, hcur, hbi, hgi⟩ := hrel
          obtain ⟨A4, C4, rfl⟩ := own2_form hcur
          have HMI := Lib.hid hmd
          have HCU := Lib.hid hcur
          have HBI := Lib.hid hbi
          have HGI := Lib.hid hgi
          by_cases hpn : p < N
          · have m0 := Box.below HB2.out hbi 0 _ rfl
            have m1 := Box.below HB2.out hbi 1 _ rfl
            have m2 := Box.below HB2.out hbi 2 _ rfl
            have m3 := Box.below HB2.out hbi 3 _ rfl
            have m4 := hmd.cell
            have r0 : ∀ W', Below wr.heap.size wr W' → W'.cell? ⟨w.heap.size, 0, none⟩ = some (.int .i64 (N : Int)) := fun W' hb => (hb.cell (cell_lt m0)).trans m0
            have r1 : ∀ W', Below wr.heap.size wr W' → W'.cell? ⟨w.heap.size, 1, none⟩ = some (.int .i64 (K : Int)) := fun W' hb => (hb.cell (cell_lt m1)).trans m1
            have r2 : ∀ W', Below wr.heap.size wr W' → W'.cell? ⟨w.heap.size, 2, none⟩ = some (.slice A m c) := fun W' hb => (hb.cell (cell_lt m2)).trans m2
            have r3 : ∀ W', Below wr.heap.size wr W' → W'.cell? ⟨w.heap.size, 3, none⟩ = some (.slice B m d) := fun W' hb => (hb.cell (cell_lt m3)).trans m3
            have r4 : ∀ W', Below wr.heap.size wr W' → W'.cell? ⟨w2.heap.size, k, none⟩ = some (.slice A4 p C4) := fun W' hb => (hb.cell (cell_lt m4)).trans m4
            have h9 : Below wr.heap.size wr wr := Below.refl _ _
            obtain ⟨v1, hv1⟩ : ∃ v1, v1 = nx xss k p := ⟨_, rfl⟩
            obtain ⟨v2, hv2⟩ : ∃ v2, v2 = nx yss k p := ⟨_, rfl⟩
            have HV1 := Lib.hid hv1
            have HV2 := Lib.hid hv2
            have hp0 : (0 : Int) ≤ (p : Int) := by omega
            have hpl : (p : Int) < (N : Int) := by omega
            clear m0 m1 m2 m3 m4 hmd hcur hbi hgi hv1 hv2
            go_wp2_with fail
            go_region_law (first
              | (go_simp; go_at_call 61; refine (transitionAt_any A N m K c xss B d yss k p _ HG.out (HX2.out.below (below_then HBI.out (by first | exact h9 | exact h9.drew))) (HY2.out.below (below_then HBI.out (by first | exact h9 | exact h9.drew))) hlt hpn).mono ?_; rintro e w5 ⟨rfl, b5⟩; rw [← HV1.out, ← HV2.out]; have h5 : Below wr.heap.size wr w5 := below_then (by first | exact h9 | exact h9.drew) b5; have a4 := r4 w5 h5; have a5 := r4 (w5.alloc (.cells #[.int .i64 (v1 : Int), .int .i64 (v2 : Int)] 105)) (h5.alloc h5.size _); clear b5)
              | ((refine step_append_lies _ rfl _ _ 103 rfl G 105 i0 (.agg #[.int .i64 0, .int .i64 0]) 2 16 Tryd.underlying103 hi hz0 hz1 hz2 rfl (by decide) _ _ _ rfl (own2_below HCU.out (by first | exact h5.alloc h5.size _ | exact (h5.alloc h5.size _).drew | exact h5.drew.alloc h5.size _)) ⟨_, 0, none⟩ 1 1 [.int .i64 (v1 : Int), .int .i64 (v2 : Int)] rfl rfl (World.news_of_block (by first | exact heap_alloc_new _ _)) (ones_pair _ _) (by decide) (by unfold maxLen; omega) (by omega) (by have := HGI.out; have := h5.size; simp; omega) _ rfl ?_); intro g6 cap6 w6 hown6 hgrow6 hat6 hlt6; have HO6 := Lib.hid hown6; have HM6 := Lib.hid ((HMI.out.below (h5.alloc h5.size (.cells #[.int .i64 (v1 : Int), .int .i64 (v2 : Int)] 105))).grown (own2_below HCU.out (h5.alloc h5.size _)) HGG.out hgrow6); have s6 := HM6.out.cell; have f6 : w6.frozen? ⟨w2.heap.size, k, none⟩ = false := frozen_of_row _ _ _ _ _ HM6.out.heap; have HB6 := Lib.hid (show Below w2.heap.size w2 w6 from ((below_then HBI.out h5).alloc (below_then HBI.out h5).size (.cells #[.int .i64 (v1 : Int), .int .i64 (v2 : Int)] 105)).grown hgrow6 (by rw [World.size_alloc]; exact Nat.le_succ_of_le (below_then HBI.out h5).size) (fun g hg => Nat.le_trans (Nat.le_of_lt HGG.out) (HCU.out.lt g hg).1)); have HS6 := Lib.hid (show G ≤ w6.heap.size from Nat.le_trans HGI.out (Nat.le_trans h5.size (Nat.le_trans (by rw [World.size_alloc]; exact Nat.le_succ _) hgrow6.size))); clear hown6 hgrow6 hat6 hlt6)
              | fail)
            all_goals
              clear s6 f6 a4 a5 r0 r1 r2 r3 r4 h9 h5
              go_wp2_with fail
              go_roundw
              case rel =>
                refine ⟨p + 1, .slice (some ⟨g6, 0, none⟩) (p + 1) cap6, by omega, by go_num, by first | exact HM6.out.put | exact HM6.out.put.drew, ?_, by first | exact HB6.out.setCell (Nat.le_refl _) _ | exact (HB6.out.setCell (Nat.le_refl _) _).drew, by first | (rw [World.size_setCell]; exact HS6.out) | (show G ≤ (w6.setCell _ _).heap.size; rw [World.size_setCell]; exact HS6.out)⟩
                rw [trL_succ, pcl_append, ← HV1.out, ← HV2.out]
                first | exact own2_setOther HO6.out HGG.out k _ | exact own2_drew (own2_setOther HO6.out HGG.out k _)
              case measure => simp [intOf]; omega
          · have hpe : p = N := by omega
            subst hpe
            clear hmd hcur hbi hgi
            go_wp2_with fail
            go_roundw
            case rel => exact ⟨k + 1, us ++ [.slice A4 p C4], by omega, by go_num, HMI.out.next HGG.out HCU.out HGI.out, HBI.out, Nat.lt_of_lt_of_le HGG.out HGI.out⟩
            case measure => simp [intOf]; omega
      · have hkl : k = m := by omega
        subst hkl
        have hmr := HMD.out
        rw [Nat.sub_self, List.replicate_zero] at hmr
        have HPR := Lib.hid hmr.rows
        clear hmr
        obtain ⟨w5, hw5⟩ : ∃ w5, w5 = wr.alloc (.cells #[.int .i64 (N : Int), .int .i64 (K : Int)] 2) := ⟨_, rfl⟩
        have b5 : Below wr.heap.size wr w5 := by rw [hw5]; exact (Below.refl _ _).alloc (Nat.le_refl _) _
        have HO5 := Lib.hid (show w5.ownsRow wr.heap.size 2 1 (.slice (some ⟨wr.heap.size, 0, none⟩) 2 2) 2 ([(N : Int), (K : Int)].map (Value.int .i64)) by
          rw [hw5]
          exact World.ownsRow_lit (e := 2) wr #[.int .i64 (N : Int), .int .i64 (K : Int)] 2 (Nat.le_refl _) (by unfold maxLen; omega) rfl)
        have HW5 := Lib.hid hw5
        have B5 := Lib.hid b5
        clear hw5 b5
        go_wp2_with fail
        rw [← HW5.out]
        refine (lettersTextP_any kindM (by decide) _ (by apply ByteArray.ext; rfl) wr.heap.size (some ⟨wr.heap.size, 0, none⟩) 2 2 [(N : Int), (K : Int)] (some ⟨w2.heap.size, 0, none⟩) k k (rowsM xss yss N k) wr w5 HO5.out rfl (by omega) B5.out.size ?s1 HPR.out B5.out (Nat.le_refl _) (by omega) (rowsM_small HG.out)).mono ?_
        case s1 =>
          intro j x hx
          rcases j with _ | _ | _ | j
          · exact ⟨N, by simpa using hx.symm, hN⟩
          · exact ⟨K, by simpa using hx.symm, hK⟩
          · exact ⟨k, by simpa using hx.symm, hM⟩
          · simp at hx
        rintro e w6 ⟨rfl, b6⟩
        obtain ⟨R, hR⟩ : ∃ R, R = strOfNums (kindM ++ (lineT ([(N : Int), (K : Int)] ++ [(k : Int)]) ++ [10]) ++ lettersP (rowsM xss yss N k)) := ⟨_, rfl⟩
        rw [← hR]
        have HRR := Lib.hid hR
        have W6 := Lib.hid (below_then W2.out (below_then HWR.out (B5.out.trans b6)))
        clear hR b6
        go_wp2_with fail
        go_ret
        exact ⟨ret_strT (by rw [HF.out, HRR.out, textM]), W6.out⟩

end Go.Proofs.YtogbglbmkkbhcaaDoor
