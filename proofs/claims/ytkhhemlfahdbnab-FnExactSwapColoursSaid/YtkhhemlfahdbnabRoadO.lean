/-
  The roads of an automaton: the contract of the program's roadsOf.
-/
import Derived.Test.YtkhhemlfahdbnabLead
import Derived.Test.YtkhhemlfahdbnabSort
import Derived.Deep.AppendLies
namespace Go.Proofs.Ytkhhemlfahdbnab
open Go.RowKit Go.Deep Go.ChangeShapes Go.WideShapes

theorem box2_setR {w : World} {B : Nat} {x0 x1 : Value} {T : TypeId} (h : w.heap[B]? = some (.cells #[x0, x1] T (0, 0))) (y0 y1 : Value) :
    (w.setCell ⟨B, 0, none⟩ y0).cell? ⟨B, 0, none⟩ = some y0 ∧ ((w.setCell ⟨B, 0, none⟩ y0).setCell ⟨B, 1, none⟩ y1).cell? ⟨B, 1, none⟩ = some y1 := by
  have g0 : (w.setCell ⟨B, 0, none⟩ y0).heap[B]? = some (.cells #[y0, x1] T (0, 0)) := by rw [heap_setCell_same w B 0 _ _ _ h]; rfl
  have g1 : ((w.setCell ⟨B, 0, none⟩ y0).setCell ⟨B, 1, none⟩ y1).heap[B]? = some (.cells #[y0, y1] T (0, 0)) := by rw [heap_setCell_same _ B 1 _ _ _ g0]; rfl
  exact ⟨cell_of_row _ B 0 _ _ _ g0, cell_of_row _ B 1 _ _ _ g1⟩
theorem box2_cellsR {w : World} {B : Nat} {x0 x1 : Value} {T : TypeId} (h : w.heap[B]? = some (.cells #[x0, x1] T (0, 0))) :
    w.cell? ⟨B, 0, none⟩ = some x0 ∧ w.cell? ⟨B, 1, none⟩ = some x1 ∧ w.frozen? ⟨B, 0, none⟩ = false ∧ w.frozen? ⟨B, 1, none⟩ = false :=
  ⟨cell_of_row _ B 0 _ _ _ h, cell_of_row _ B 1 _ _ _ h, frozen_of_row _ B 0 _ _ h, frozen_of_row _ B 1 _ _ h⟩
theorem set2_onlyR (w : World) (B : Nat) (y0 y1 : Value) : Only B (B + 1) w ((w.setCell ⟨B, 0, none⟩ y0).setCell ⟨B, 1, none⟩ y1) := (only_setCell w B 0 y0).trans (only_setCell _ B 1 y1)
theorem set2_sizeR (w : World) (B : Nat) (y0 y1 : Value) : ((w.setCell ⟨B, 0, none⟩ y0).setCell ⟨B, 1, none⟩ y1).heap.size = w.heap.size := by rw [World.size_setCell, World.size_setCell]

def roadL (xss : List (List Int)) (m k : Nat) : List (List Int) := (List.range k).map fun s => sortF (leadF xss m s)
theorem roadL_len (xss : List (List Int)) (m k : Nat) : (roadL xss m k).length = k := by simp [roadL]
theorem roadL_succ (xss : List (List Int)) (m k : Nat) : roadL xss m (k + 1) = roadL xss m k ++ [sortF (leadF xss m k)] := by simp [roadL, List.range_succ]
theorem roadL_at {xss : List (List Int)} {m n k : Nat} (hk : k < n) : (roadL xss m n)[k]? = some (sortF (leadF xss m k)) := by
  unfold roadL; rw [List.getElem?_map, List.getElem?_range hk]; rfl
theorem tabV_nil (lo hi : Nat) (w : World) : TabV lo hi w (.slice none 0 0) [] [] := by
  refine ⟨rfl, World.ownsRow_nil _ _ _ _, fun g hg => ?_, fun r u xs hu => ?_, fun r r' u u' g hu => ?_, fun r u g hu => ?_⟩
  · simp [Value.ownBlock] at hg
  · simp at hu
  · simp at hu
  · simp at hu

set_option maxRecDepth 100000 in
set_option maxHeartbeats 4000000 in
theorem roadsOf_any (n m cap : Nat) (A : Option Addr) (xss : List (List Int)) (w : World) (hg : Good n m xss) (h : RowsAt w A m xss) :
    Calls Try.prog 144 #[.agg #[.int .i64 (n : Int), .slice A m cap]] w fun e w' => ∃ v, e = .returned (.agg #[.int .i64 (n : Int), v]) ∧ TabIn w.heap.size w'.heap.size w' v (roadL xss m n) ∧ Below w.heap.size w w' := by
  obtain ⟨i1, hi1, hy0, hy1, hy2⟩ := info_parts info_ints
  obtain ⟨W0, hW0⟩ : ∃ W0, W0 = ((w.alloc (.cells #[.int .i64 (n : Int), .slice A m cap] 33)).alloc (.cells #[.int .i64 0, .slice none 0 0] 28)).alloc (.cells #[.int .i64 (n : Int), .slice none 0 0] 28) := ⟨_, rfl⟩
  have b0 : Below w.heap.size w W0 := by rw [hW0]; go_grown
  have r0 : W0.heap[w.heap.size]? = some (.cells #[.int .i64 (n : Int), .slice A m cap] 33 (0, 0)) := by
    rw [hW0]
    have := heap_alloc_new w (.cells #[.int .i64 (n : Int), .slice A m cap] 33)
    exact (((Below.refl _ _).alloc (Nat.le_refl _) _).block _ (by simp; omega)).trans ((((Below.refl _ _).alloc (Nat.le_refl _) _).block _ (by simp)).trans this)
  have r1 : W0.heap[w.heap.size + 1]? = some (.cells #[.int .i64 0, .slice none 0 0] 28 (0, 0)) := by
    rw [hW0]
    have := heap_alloc_new (w.alloc (.cells #[.int .i64 (n : Int), .slice A m cap] 33)) (.cells #[.int .i64 0, .slice none 0 0] 28)
    rw [World.size_alloc] at this
    exact (((Below.refl _ _).alloc (Nat.le_refl _) _).block _ (by simp)).trans this
  have r2 : W0.heap[w.heap.size + 2]? = some (.cells #[.int .i64 (n : Int), .slice none 0 0] 28 (0, 0)) := by
    rw [hW0]
    have := heap_alloc_new ((w.alloc (.cells #[.int .i64 (n : Int), .slice A m cap] 33)).alloc (.cells #[.int .i64 0, .slice none 0 0] 28)) (.cells #[.int .i64 (n : Int), .slice none 0 0] 28)
    rw [World.size_alloc, World.size_alloc] at this
    exact this
  have z0 : W0.heap.size = w.heap.size + 3 := by rw [hW0]; simp
  obtain ⟨RB, hRB⟩ : ∃ RB, RB = w.heap.size + 1 + 1 := ⟨_, rfl⟩
  rw [show w.heap.size + 2 = RB by omega] at r2
  have HRB := Lib.hid hRB
  have HG := Lib.hid hg
  have hm1 := hg.m1
  have hm3 := hg.m3
  have hn10 := hg.n10
  have H0 := Lib.hid h
  have HW0 := Lib.hid hW0
  have B0 := Lib.hid b0
  have R0 := Lib.hid r0
  have R1 := Lib.hid r1
  have R2 := Lib.hid r2
  have Z0 := Lib.hid z0
  clear hg h hW0 b0 r0 r1 r2 z0
  go_enter Try.func144, Try.ntmps144
  go_wp2_with fail
  rw [← HW0.out, ← hRB]
  clear hRB
  go_loopw [11] (fun i wr => ∃ (k : Nat) (v : Value) (vs : List Value), k ≤ n ∧ i = .int .i64 k ∧ wr.heap[w.heap.size]? = some (.cells #[.int .i64 (n : Int), .slice A m cap] 33 (0, 0)) ∧ wr.heap[w.heap.size + 1]? = some (.cells #[.int .i64 0, .slice none 0 0] 28 (0, 0)) ∧
      wr.heap[RB]? = some (.cells #[.int .i64 (n : Int), v] 28 (0, 0)) ∧ TabV (RB + 1) wr.heap.size wr v vs (roadL xss m k) ∧ Below w.heap.size w wr) (fun i _ => n - (intOf i).toNat)
  case atStart => exact ⟨0, _, [], Nat.zero_le _, rfl, R0.out, R1.out, R2.out, tabV_nil _ _ _, B0.out⟩
  case round =>
    obtain ⟨k, v, vs, hk, rfl, hr0, hr1, hr2, htab, hbel⟩ := hrel
    obtain ⟨A3, c3, rfl⟩ := own_form htab.out
    obtain ⟨a0, a1, _, _⟩ := box2_cellsR hr0
    obtain ⟨b0, b1, _, f1⟩ := box2_cellsR hr2
    have X0 := Lib.hid hr0
    have X1 := Lib.hid hr1
    have X2 := Lib.hid hr2
    have HT := Lib.hid htab
    have HB := Lib.hid hbel
    clear hr0 hr1 hr2 htab
    by_cases hlt : k < n
    · have ik1 : (k : Int) < (n : Int) := by omega
      go_wp2_with fail
      refine (leadsFrom_any (n : Int) A n m cap k xss wr HG.out (H0.out.below HB.out) hlt).mono ?_
      rintro e w1 ⟨u, rfl, o1, b1'⟩
      obtain ⟨A5, c5, rfl⟩ := own_form o1
      obtain ⟨g, rfl, hg1, hg2⟩ := own_blockN o1 (by omega)
      have O1 := Lib.hid o1
      have D1 := Lib.hid b1'
      have HG1 := Lib.hid hg1
      have HG2 := Lib.hid hg2
      clear o1 b1' hg1 hg2 a0 a1 b0 b1 f1
      go_wp2_with fail
      refine (sort_any wr.heap.size g m c5 (leadF xss m k) w1 O1.out (leadF_len _ _ _) (by omega)).mono ?_
      rintro e w2 ⟨rfl, o2, u2, z2⟩
      have O2 := Lib.hid o2
      have U2 := Lib.hid u2
      have Z2 := Lib.hid z2
      have D2 := Lib.hid (Only.below D1.out u2 HG1.out D1.out.size)
      clear o2 u2 z2
      have Y0 := Lib.hid ((D2.out.block _ (block_lt X0.out)).trans X0.out)
      have Y1 := Lib.hid ((D2.out.block _ (block_lt X1.out)).trans X1.out)
      have Y2 := Lib.hid ((D2.out.block _ (block_lt X2.out)).trans X2.out)
      have HT2 := Lib.hid (HT.out.below D2.out)
      have HZW := Lib.hid (show RB + 1 ≤ wr.heap.size by have := block_lt X2.out; omega)
      have HZ2 := Lib.hid (show RB + 1 ≤ w2.heap.size by have := HZW.out; have := D2.out.size; omega)
      obtain ⟨b0, b1, _, f1⟩ := box2_cellsR Y2.out
      have hrl : (roadL xss m k).length ≤ 10 := by rw [roadL_len]; omega
      clear b0
      go_wp2_with (at_builtin; refine wpList_append_own_at _ rfl _ _ 22 rfl (RB + 1) 64 i1 (.slice none 0 0) 1 24 Try.underlying22 hi1 hy0 hy1 hy2 rfl (by decide) _ _ _ rfl (World.ownsRow.alloc (HT2.out.out) _) ⟨(w2).heap.size, 0, none⟩ 1 1 [.slice (some ⟨g, 0, none⟩) m c5] rfl rfl (cell_one_new _ _ _) (by simp [Value.oneCell']) (by unfold maxLen; omega) (by omega) (by rw [World.size_alloc]; exact Nat.le_succ_of_le HZ2.out) ?_)
      intro v' w3 hown' hgrow _ hat
      have ba : Below w2.heap.size w2 (w2.alloc (.cells #[.slice (some ⟨g, 0, none⟩) m c5] 64)) := (Below.refl _ _).alloc (Nat.le_refl _) _
      have hrow : IntsIn wr.heap.size w2.heap.size w2 (.slice (some ⟨g, 0, none⟩) m c5) (sortF (leadF xss m k)) := by
        have := O2.out
        exact ⟨by rw [sortF_len, leadF_len]; exact this, fun q hq => (this.lt q hq).2⟩
      have htab2 := TabV.snoc (HT2.out.below ba) (hrow.below ba) hown' hgrow (by rw [World.size_alloc]; exact hat) HZW.out (Nat.le_refl _) ba.size
      rw [← roadL_succ] at htab2
      have hvn : ∀ q, (Value.slice A3 (roadL xss m k).length c3).ownBlock = some q → RB + 1 ≤ q := fun q hq => (HT.out.out.lt q hq).1
      have hx : ∀ z (c : Obj), w2.heap[z]? = some c → z < RB + 1 → w3.heap[z]? = some c := fun z c hc hz =>
        (hgrow.block _ (Nat.lt_of_lt_of_le (block_lt hc) ba.size) (fun e => by have := hvn _ e.symm; omega)).trans ((ba.block _ (block_lt hc)).trans hc)
      have V0 := Lib.hid (hx _ _ Y0.out (by have := HRB.out; omega))
      have V1 := Lib.hid (hx _ _ Y1.out (by have := HRB.out; omega))
      have V2 := Lib.hid (hx _ _ Y2.out (by omega))
      have HT3 := Lib.hid htab2
      have HB3 := Lib.hid (below_grown (below_then HB.out (below_then D2.out ba)) hgrow (fun q hq => by have := hvn q hq; have := HRB.out; omega))
      obtain ⟨_, h3, _, f3⟩ := box2_cellsR V2.out
      clear hown' hgrow hat ba hrow htab2 hvn hx b1 f1
      obtain ⟨A6, c6, rfl⟩ := own_form HT3.out.out
      go_wp2_with fail
      go_roundw
      case rel =>
        have hon := only_setCell w3 RB 1 (.slice A6 (roadL xss m (k + 1)).length c6)
        refine ⟨k + 1, .slice A6 (roadL xss m (k + 1)).length c6, vs ++ [.slice (some ⟨g, 0, none⟩) m c5], by omega, by go_num, ?_, ?_, ?_, ?_, HB3.out.setCell (by have := HRB.out; simp; omega) _⟩
        · rw [heap_setCell_other w3 ⟨RB, 1, none⟩ _ _ (by have := HRB.out; simp; omega)]; exact V0.out
        · rw [heap_setCell_other w3 ⟨RB, 1, none⟩ _ _ (by have := HRB.out; simp; omega)]; exact V1.out
        · rw [heap_setCell_same w3 RB 1 _ _ _ V2.out]; rfl
        · rw [World.size_setCell]
          exact HT3.out.only hon (.inr (Nat.le_refl _))
      case measure => simp [intOf]; omega
    · have hkn : k = n := by omega
      have HKN := Lib.hid hkn
      obtain ⟨g2, g3⟩ := box2_setR X1.out (.int .i64 (n : Int)) (.slice A3 (roadL xss m k).length c3)
      obtain ⟨_, _, e4, e5⟩ := box2_cellsR X1.out
      clear hkn hbel a0 a1
      go_wp2_with fail
      refine bodyPost_ret (v := .agg #[.int .i64 (n : Int), .slice A3 (roadL xss m k).length c3]) (by simp [results, Try.results144, go_sem, g2, g3]) rfl ?_
      have hzw : RB + 1 ≤ wr.heap.size := by have := block_lt X2.out; omega
      refine ⟨_, rfl, ?_, (HB.out.setCell (by simp) _).setCell (by simp) _⟩
      rw [set2_sizeR, ← HKN.out]
      exact (TabIn.only ⟨vs, HT.out⟩ (set2_onlyR _ _ _ _) (.inr (by have := HRB.out; omega))).wide (by have := HRB.out; omega) (Nat.le_refl _)

end Go.Proofs.Ytkhhemlfahdbnab
