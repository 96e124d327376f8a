/-
  The model's automata of some states: the contracts of l01Renumbered and of the model's RestrictTo.
-/
import Derived.Test.YtfkmpabohebcfaaClosed
import Derived.Deep.AppendLies
namespace Go.Proofs.Ytfkmpabohebcfaa
open Go.RowKit Go.Deep Go.ChangeShapes Go.WideShapes

theorem only_of_below' {B : Nat} {w w' : World} (h : Below B w w') : Only B w.heap.size w w' := ⟨h.os, h.tape, h.output, h.size, fun k hk hb => h.block k (by omega)⟩
theorem tabV_nil (lo hi : Nat) (w : World) (n : Nat) (f : Nat → Nat → Int) : TabV lo hi w (.slice none 0 0) [] (rowsF n f 0) := by
  refine ⟨rfl, World.ownsRow_nil _ _ _ _, fun g hg => ?_, fun r u xs hu => ?_, fun r r' u u' g hu => ?_, fun r u g hu => ?_⟩
  · simp [Value.ownBlock] at hg
  · simp at hu
  · simp at hu
  · simp at hu

set_option maxRecDepth 100000 in
set_option maxHeartbeats 3000000 in
theorem l01Renumbered_any (p : Nat) (A AL : Option Addr) (n m cap nl cl : Nat) (xss : List (List Int)) (L : List Int) (w : World) (hg : Good n m xss) (c0 : w.cell? ⟨p, 0, none⟩ = some (.int .i64 (nl : Int))) (c1 : w.cell? ⟨p, 1, none⟩ = some (.slice A m cap)) (hR : RowsAt w A m xss) (hL : NumsAt w AL nl L) (hin : ∀ y ∈ L, 0 ≤ y ∧ y < (n : Int)) (hnl : nl ≤ 10) :
    Calls Try.prog 82 #[.pointer (some ⟨p, 0, none⟩), .slice AL nl cl] w fun e w' => ∃ v, e = .returned (.agg #[.int .i64 (nl : Int), v]) ∧ TabIn w.heap.size w'.heap.size w' v (rowsF nl (selF xss L) m) ∧ Below w.heap.size w w' := by
  obtain ⟨i0, hi, hz0, hz1, hz2⟩ := info_parts info_int64
  obtain ⟨i1, hi1, hy0, hy1, hy2⟩ := info_parts info_ints
  have hm3 : m ≤ 3 := hg.m3
  have HG := Lib.hid hg
  have HIN := Lib.hid hin
  have HRR := Lib.hid hR
  have HNL := Lib.hid hL
  have C1 := Lib.hid c1
  have e0 : (w.alloc (.cells #[.int .i64 0, .slice none 0 0] 29)).cell? ⟨p, 0, none⟩ = some (.int .i64 (nl : Int)) := (((Below.refl _ w).alloc (Nat.le_refl _) _).cell (cell_lt c0)).trans c0
  have b2 : Below w.heap.size w ((w.alloc (.cells #[.int .i64 0, .slice none 0 0] 29)).alloc (.cells #[.int .i64 (nl : Int), .slice none 0 0] 29)) := ((Below.refl _ w).alloc (Nat.le_refl _) _).alloc (by simp) _
  have B2 := Lib.hid b2
  have X0 := Lib.hid (show ((w.alloc (.cells #[.int .i64 0, .slice none 0 0] 29)).alloc (.cells #[.int .i64 (nl : Int), .slice none 0 0] 29)).heap[w.heap.size]? = some (.cells #[.int .i64 0, .slice none 0 0] 29 (0, 0)) by
    rw [Below.heap_alloc _ _ _ (by simp)]; exact heap_alloc_new _ _)
  have X1 := Lib.hid (show ((w.alloc (.cells #[.int .i64 0, .slice none 0 0] 29)).alloc (.cells #[.int .i64 (nl : Int), .slice none 0 0] 29)).heap[w.heap.size + 1]? = some (.cells #[.int .i64 (nl : Int), .slice none 0 0] 29 (0, 0)) by
    have := heap_alloc_new (w.alloc (.cells #[.int .i64 0, .slice none 0 0] 29)) (.cells #[.int .i64 (nl : Int), .slice none 0 0] 29)
    rw [World.size_alloc] at this; exact this)
  clear hg hin b2 hR hL
  go_enter Try.func82, Try.ntmps82
  go_wp2_with fail
  clear e0
  go_loopw [6] (fun i wr => ∃ (k : Nat) (v : Value) (vs : List Value), k ≤ m ∧ i = .int .i64 k ∧ wr.heap[w.heap.size]? = some (.cells #[.int .i64 0, .slice none 0 0] 29 (0, 0)) ∧ wr.heap[w.heap.size + 1]? = some (.cells #[.int .i64 (nl : Int), v] 29 (0, 0)) ∧
      TabV (w.heap.size + 2) wr.heap.size wr v vs (rowsF nl (selF xss L) k) ∧ Below w.heap.size w wr ∧ w.heap.size + 2 ≤ wr.heap.size) (fun i _ => m - (intOf i).toNat)
  case atStart => exact ⟨0, .slice none 0 0, [], Nat.zero_le _, rfl, X0.out, X1.out, tabV_nil _ _ _ _ _, B2.out, by simp⟩
  case round =>
    obtain ⟨k, v, vs, hk, rfl, hx0, hx1, htab, hbel, hlo⟩ := hrel
    obtain ⟨A3, c3, rfl⟩ := own_form htab.out
    have HX0 := Lib.hid hx0
    have HX1 := Lib.hid hx1
    have HT := Lib.hid htab
    have HB := Lib.hid hbel
    have HLO := Lib.hid hlo
    have HWL := Lib.hid (show w.heap.size ≤ w.heap.size + 2 by omega)
    by_cases hlt : k < m
    · have y1 : wr.cell? ⟨p, 1, none⟩ = some (.slice A m cap) := (hbel.cell (cell_lt C1.out)).trans C1.out
      clear hx0 hx1 htab hbel hlo
      obtain ⟨G9, hG9⟩ : ∃ G9, G9 = wr.heap.size := ⟨_, rfl⟩
      have HG9 := Lib.hid hG9
      have hb1 : Below wr.heap.size wr (wr.alloc (.cells #[] 2)) := (Below.refl _ _).alloc (Nat.le_refl _) _
      have HN0 := Lib.hid (own_none' (w := wr) (base := G9) (g := G9) hG9 (Nat.le_of_eq hG9))
      have HT1 := Lib.hid (HT.out.below hb1)
      have HY0 := Lib.hid ((hb1.block _ (block_lt HX0.out)).trans HX0.out)
      have HY1 := Lib.hid ((hb1.block _ (block_lt HX1.out)).trans HX1.out)
      have HB1 := Lib.hid (below_then HB.out hb1)
      have HZ1 := Lib.hid (show wr.heap.size + 1 ≤ (wr.alloc (.cells #[] 2)).heap.size by simp)
      have HLO := Lib.hid (show w.heap.size + 2 ≤ G9 by rw [hG9]; exact HLO.out)
      have hol : (w.heap.size + 1 : Nat) < w.heap.size + 2 := by omega
      rw [← hG9] at HT1 HZ1
      clear hG9 hb1
      go_wp2_with fail
      rw [← HG9.out]
      clear y1
      go_loopw [7, 8] (fun rv j wi => ∃ (q : Nat) (C : List Int), q ≤ nl ∧ j = .int .i64 q ∧ C = (List.range q).map (selF xss L k) ∧ wi.heap[w.heap.size]? = some (.cells #[.int .i64 0, .slice none 0 0] 29 (0, 0)) ∧ wi.heap[w.heap.size + 1]? = some (.cells #[.int .i64 (nl : Int), .slice A3 (rowsF nl (selF xss L) k).length c3] 29 (0, 0)) ∧
          TabV (w.heap.size + 2) G9 wi (.slice A3 (rowsF nl (selF xss L) k).length c3) vs (rowsF nl (selF xss L) k) ∧ wi.ownsRow G9 2 1 rv C.length (C.map (Value.int .i64)) ∧ Below w.heap.size w wi ∧ G9 + 1 ≤ wi.heap.size) (fun _ j _ => nl - (intOf j).toNat)
      case atStart => exact ⟨0, [], Nat.zero_le _, rfl, rfl, HY0.out, HY1.out, HT1.out, HN0.out, HB1.out, HZ1.out⟩
      case round =>
        obtain ⟨q, C, hq, rfl, hC, hz0, hz1, htb, hown, hbl, hsz⟩ := hrel
        have hclen : C.length ≤ 10 := by rw [hC]; simp; omega
        obtain ⟨A5, c5, rfl⟩ := own_form hown
        have HC := Lib.hid hC
        have HZ0 := Lib.hid hz0
        have HZ1 := Lib.hid hz1
        have HTB := Lib.hid htb
        have HOW := Lib.hid hown
        have HBL := Lib.hid hbl
        have HSZ := Lib.hid hsz
        have y1 : World.cell? ‹World› ⟨p, 1, none⟩ = some (.slice A m cap) := (hbl.cell (cell_lt C1.out)).trans C1.out
        clear hC hz0 hz1 htb hown hbl hsz HT1 HY0 HY1 HB1 HN0
        by_cases hqn : q < nl
        · obtain ⟨y, b3, off3, hy, hAL, hcy⟩ := (HNL.out.below HBL.out).at_ hqn
          have hyn := HIN.out y (List.mem_of_getElem? hy)
          obtain ⟨t, rfl⟩ : ∃ t : Nat, y = (t : Int) := ⟨y.toNat, by omega⟩
          have htn : t < n := by omega
          obtain ⟨b, off1, b2, off2, cr, hA, hcr, hcells⟩ := row_base HG.out HRR.out hlt
          have hct := hcells t htn
          have he : selF xss L k q = placeOf L ((nx xss k t : Nat) : Int) 0 := by unfold selF; rw [List.getD_eq_getElem?_getD, hy]; rfl
          have HE := Lib.hid he
          have i1 : (0 : Int) ≤ (k : Int) := by omega
          have i2 : (k : Int) < (m : Int) := by omega
          have i3 : (0 : Int) ≤ (q : Int) := by omega
          have i4 : (q : Int) < (nl : Int) := by omega
          have i5 : (0 : Int) ≤ (t : Int) := by omega
          have i6 : (t : Int) < (n : Int) := by omega
          subst hA
          obtain rfl := hAL
          have hwg : w.heap.size ≤ G9 := by have := HLO.out; have := HWL.out; omega
          have HWG := Lib.hid hwg
          have hq : ∀ W', Below G9 wr W' → Below w.heap.size w W' := fun W' hb => HBL.out.trans (hb.mono hwg)
          have HQ := Lib.hid hq
          have r1 : ∀ W', Below G9 wr W' → W'.cell? ⟨p, 1, none⟩ = some (.slice (some ⟨b, off1, none⟩) m cap) := fun W' hb => ((hq W' hb).cell (cell_lt C1.out)).trans C1.out
          have r2 : ∀ W', Below G9 wr W' → W'.cell? ⟨b, off1 + k, none⟩ = some (.slice (some ⟨b2, off2, none⟩) n cr) := fun W' hb => ((hq W' hb).cell (cell_lt hcr)).trans hcr
          have hcy0 : w.cell? ⟨b3, off3 + q, none⟩ = some (.int .i64 (t : Int)) := by
            obtain ⟨y', b', off', hy', hA', hcy'⟩ := HNL.out.at_ hqn
            simp only [Option.some.injEq, Addr.mk.injEq, and_true] at hA'
            obtain ⟨rfl, rfl⟩ := hA'
            rw [hy] at hy'
            obtain rfl := Option.some.inj hy'
            exact hcy'
          have r3 : ∀ W', Below G9 wr W' → W'.cell? ⟨b3, off3 + q, none⟩ = some (.int .i64 (t : Int)) := fun W' hb => ((hq W' hb).cell (cell_lt hcy0)).trans hcy0
          have r4 : ∀ W', Below G9 wr W' → W'.cell? ⟨b2, off2 + t, none⟩ = some (.int .i64 ((nx xss k t : Nat) : Int)) := fun W' hb => ((hq W' hb).cell (cell_lt hct)).trans hct
          have h9 : Below G9 wr wr := Below.refl _ _
          obtain ⟨V, hV⟩ : ∃ V, V = placeOf L ((nx xss k t : Nat) : Int) 0 := ⟨_, rfl⟩
          have HV := Lib.hid hV
          have HGZ := Lib.hid (show G9 ≤ wr.heap.size by have := HSZ.out; omega)
          have HROW := Lib.hid (fun g (hg : (Value.slice A5 C.length c5).ownBlock = some g) => (HOW.out.lt g hg).1)
          clear hy hyn hcells hct hcy hcy0 hcr y1 he hV hq hwg
          go_wp2_with fail
          go_region_held3 (fun w' => Below G9 wr w') (first | assumption | exact below_drewN' (by assumption) _ | exact (Below.refl _ _).alloc HGZ.out _ | exact (below_drewN' (Below.refl _ _) _).alloc HGZ.out _ | exact HB5.out)
            (first
              | (go_at_call 77; refine (l01Place_any _ nl cl L _ _ (HNL.out.below (HQ.out _ (by first | assumption | exact below_drewN' (by assumption) _))) (by omega)).mono ?_; rw [← HV.out]; rintro e w' ⟨rfl, rfl⟩)
              | (refine step_append_lies _ rfl _ _ 26 rfl G9 2 i0 (.int .i64 0) 1 8 Try.underlying26 hi hz0 hz1 hz2 rfl (by decide) _ _ _ rfl (World.ownsRow.alloc HOW.out _) ⟨_, 0, none⟩ 1 1 [.int .i64 V] rfl rfl (cell_one_new _ _ _) (ones_i64 [V]) (by decide) (by unfold maxLen; omega) (by omega) (by have := HGZ.out; simp; omega) _ rfl ?_; intro g5 cap5 w5 hown5 hgrow5 hat5 hlt5; have HO5 := Lib.hid hown5; have HG5 := Lib.hid hgrow5; have HB5 : Hid (Below G9 wr w5) := Lib.hid (Below.grown ((below_drewN' (Below.refl _ _) _).alloc HGZ.out _) hgrow5 (by have := HGZ.out; simp; omega) (fun g hg => HROW.out g hg)); clear hown5 hgrow5 hat5 hlt5))
          have HLT5 := Lib.hid (show G9 + 1 ≤ w5.heap.size by have h1 := HB5.out.size; have h2 := HSZ.out; omega)
          go_wp2_with fail
          go_roundw
          case rel =>
            have hlo := HLO.out
            have hon := only_of_below' HB5.out
            refine ⟨q + 1, C ++ [V], by omega, by go_num, by rw [List.range_succ, List.map_append, ← HC.out]; simp only [List.map_cons, List.map_nil]; rw [HE.out, ← HV.out], (HB5.out.block _ (by omega)).trans HZ0.out, (HB5.out.block _ (by omega)).trans HZ1.out, HTB.out.only hon (.inl (Nat.le_refl _)), by rw [List.length_append, List.map_append]; exact HO5.out, HQ.out _ HB5.out, HLT5.out⟩
          case measure => simp [intOf]; omega
        · have hqe : q = nl := by omega
          have HQE := Lib.hid hqe
          have hx1 := HZ1.out
          have e1 : World.cell? ‹World› ⟨w.heap.size + 1, 1, none⟩ = some (.slice A3 (rowsF nl (selF xss L) k).length c3) := cell_of_row _ (w.heap.size + 1) 1 _ _ _ hx1
          have hrl : (rowsF nl (selF xss L) k).length ≤ 3 := by rw [rowsF_len]; omega
          have HLE := Lib.hid (show w.heap.size + 2 ≤ wr.heap.size by have h1 := HSZ.out; have h2 := HLO.out; omega)
          clear hx1 hqe y1
          go_wp2_with (at_builtin; refine wpList_append_own_at _ rfl _ _ 22 rfl (w.heap.size + 2) 26 i1 (.slice none 0 0) 1 24 Try.underlying22 hi1 hy0 hy1 hy2 rfl (by decide) _ _ _ rfl (World.ownsRow.alloc (HTB.out.out) _) ⟨(wr).heap.size, 0, none⟩ 1 1 [.slice A5 C.length c5] rfl rfl (cell_one_new _ _ _) (by simp [Value.oneCell']) (by unfold maxLen; omega) (by omega) (by rw [World.size_alloc]; exact Nat.le_succ_of_le HLE.out) ?_)
          intro v' w2 hown' hgrow _ hat
          obtain ⟨A6, c6, rfl⟩ := own_form hown'
          have hrow : IntsIn G9 wr.heap.size wr (.slice A5 C.length c5) C := IntsIn.of HOW.out
          have hC := HC.out
          rw [HQE.out] at hC
          have ba : Below wr.heap.size wr (wr.alloc (.cells #[.slice A5 C.length c5] 26)) := (Below.refl _ _).alloc (Nat.le_refl _) _
          have htab2 := TabV.snoc (HTB.out.below ba) (hrow.below ba) hown' hgrow (by rw [World.size_alloc]; exact hat) HLO.out (Nat.le_refl _) ba.size
          rw [hC, ← rowsF_succ] at htab2
          rw [← hC] at htab2
          have HT2 := Lib.hid htab2
          have hvn : ∀ g, (Value.slice A3 (rowsF nl (selF xss L) k).length c3).ownBlock = some g → w.heap.size + 2 ≤ g := fun g hg => (HTB.out.out.lt g hg).1
          have hu0 : w2.heap[w.heap.size]? = some (.cells #[.int .i64 0, .slice none 0 0] 29 (0, 0)) := (hgrow.block _ (Nat.lt_of_lt_of_le (block_lt HZ0.out) ba.size) (fun e => by have := hvn _ e.symm; omega)).trans ((ba.block _ (block_lt HZ0.out)).trans HZ0.out)
          have hu1 : w2.heap[w.heap.size + 1]? = some (.cells #[.int .i64 (nl : Int), .slice A3 (rowsF nl (selF xss L) k).length c3] 29 (0, 0)) := (hgrow.block _ (Nat.lt_of_lt_of_le (block_lt HZ1.out) ba.size) (fun e => by have := hvn _ e.symm; omega)).trans ((ba.block _ (block_lt HZ1.out)).trans HZ1.out)
          have HU0 := Lib.hid hu0
          have HU1 := Lib.hid hu1
          have hc1 : w2.cell? ⟨w.heap.size + 1, 1, none⟩ = some (.slice A3 (rowsF nl (selF xss L) k).length c3) := cell_of_row _ (w.heap.size + 1) 1 _ _ _ hu1
          have hf1 : w2.frozen? ⟨w.heap.size + 1, 1, none⟩ = false := frozen_of_row _ (w.heap.size + 1) 1 _ _ hu1
          have HB2 := Lib.hid (below_grown (below_then HBL.out ba) hgrow (fun g hg => by have := hvn g hg; have := HWL.out; omega))
          have HLE2 := Lib.hid (show w.heap.size + 2 ≤ w2.heap.size by have h1 := HLE.out; have := hgrow.size; have := ba.size; omega)
          have HL1 := Lib.hid (show (rowsF nl (selF xss L) (k + 1)).length = (rowsF nl (selF xss L) k).length + 1 by rw [rowsF_len, rowsF_len])
          clear hown' hgrow hat ba hvn hu0 hu1 e1 hrow htab2 hC
          go_wp2_with fail
          go_roundw
          case rel =>
            have hon := only_setCell w2 (w.heap.size + 1) 1 (.slice A6 ((rowsF nl (selF xss L) k).length + 1) c6)
            have hwl := HWL.out
            refine ⟨k + 1, .slice A6 ((rowsF nl (selF xss L) k).length + 1) c6, vs ++ [.slice A5 C.length c5], by omega, by go_num, ?_, ?_, ?_, HB2.out.setCell (by simp) _, by rw [World.size_setCell]; exact HLE2.out⟩
            · rw [heap_setCell_other w2 ⟨w.heap.size + 1, 1, none⟩ _ _ (by first | (simp; done) | (simp; omega))]; exact HU0.out
            · rw [heap_setCell_same w2 (w.heap.size + 1) 1 _ _ _ HU1.out]; rfl
            · rw [World.size_setCell]
              exact HT2.out.only hon (.inr (by omega))
          case measure => simp [intOf]; omega
    · have hkm : k = m := by omega
      have HKM := Lib.hid hkm
      have y1 : wr.cell? ⟨p, 1, none⟩ = some (.slice A m cap) := (hbel.cell (cell_lt C1.out)).trans C1.out
      obtain ⟨e0, e1, _, _⟩ := box2_cells hx1
      obtain ⟨e2, e3, e4, e5⟩ := box2_cells hx0
      obtain ⟨g2, g3⟩ := box2_set hx0 (.int .i64 (nl : Int)) (.slice A3 (rowsF nl (selF xss L) k).length c3)
      clear hx0 hx1 htab hbel hkm hlo
      go_wp2_with fail
      refine bodyPost_ret (v := .agg #[.int .i64 (nl : Int), .slice A3 (rowsF nl (selF xss L) k).length c3]) (by simp [results, Try.results82, go_sem, g2, g3]) rfl ?_
      refine ⟨_, rfl, ?_, (HB.out.setCell (by simp) _).setCell (by simp) _⟩
      rw [set2_size, ← HKM.out]
      exact (TabIn.only ⟨vs, HT.out⟩ (set2_only _ _ _ _) (.inr (by omega))).wide (by omega) (Nat.le_refl _)

end Go.Proofs.Ytfkmpabohebcfaa
