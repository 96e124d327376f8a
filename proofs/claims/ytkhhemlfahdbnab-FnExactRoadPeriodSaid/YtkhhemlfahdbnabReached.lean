/-
  The contracts of reachedMarks and of both ReachedFrom.
-/
import Derived.Test.YtkhhemlfahdbnabDist
import Derived.Test.YtkhhemlfahdbnabPre
namespace Go.Proofs.Ytkhhemlfahdbnab
open Go.RowKit Go.Deep Go.ChangeShapes Go.WideShapes

theorem run_index_dist (M : Array Value) (k : Nat) (x : Int) (w : World) (hk : k < 10) (hM : M[k]? = some (.int .i64 x)) :
    Sem.run Try.prog (Instr.index 145 (.agg M) (.int .i64 (k : Int))) w = .ok (.int .i64 x) w := by
  have hu : Try.prog.underlying 145 = some (.array 10 2) := Try.underlying145
  have h1 : (0 : Int) ≤ (k : Int) := by omega
  simp [Instr.index, run_underlying hu, asIntOf, h1, hk, hM, go_sem]
/-- What the blocks of reachedMarks hold: the box, the result, the marks so far. -/
structure RmAt (w : World) (f : Nat → Bool) (wr : World) : Prop where
  res : wr.heap[w.heap.size + 1]? = some (.cells (marr fun _ => false) 151 (0, 0))
  mks : wr.heap[w.heap.size + 1 + 1]? = some (.cells (marr f) 151 (0, 0))
  bel : Below w.heap.size w wr
theorem RmAt.below {w wr w' : World} {f : Nat → Bool} (h : RmAt w f wr) (hb : Below wr.heap.size wr w') : RmAt w f w' :=
  ⟨(hb.block _ (block_lt h.res)).trans h.res, (hb.block _ (block_lt h.mks)).trans h.mks, below_then h.bel hb⟩
theorem RmAt.set {w wr : World} {f : Nat → Bool} {k : Nat} (h : RmAt w f wr) (hk : k < 10) (b : Bool) : RmAt w (upd f k b) (wr.setCell ⟨w.heap.size + 1 + 1, k, none⟩ (.bool b)) := by
  refine ⟨?_, ?_, h.bel.setCell (by simp; omega) _⟩
  · rw [heap_setCell_other wr ⟨w.heap.size + 1 + 1, k, none⟩ _ _ (by simp)]; exact h.res
  · rw [heap_setCell_same wr (w.heap.size + 1 + 1) k _ _ _ h.mks, marr_set f hk]
def fTo (d : Nat → Int) (k : Nat) : Nat → Bool := fun q => decide (q < k) && decide (0 ≤ d q)
theorem fTo_step (d : Nat → Int) (k : Nat) : upd (fTo d k) k (decide (0 ≤ d k)) = fTo d (k + 1) := by
  funext q
  unfold upd fTo
  by_cases h : q = k
  · subst h; simp
  · have e : decide (q < k + 1) = decide (q < k) := by congr 1; exact propext ⟨fun _ => by omega, fun _ => by omega⟩
    rw [if_neg h, e]
theorem fTo_all (d : Nat → Int) : fTo d 10 = fD d := rfl
theorem fTo_0 (d : Nat → Int) : fTo d 0 = fun _ => false := by funext q; simp [fTo]

set_option maxRecDepth 100000 in
set_option maxHeartbeats 1500000 in
theorem reachedMarks_any (A : Option Addr) (n m cap s : Nat) (xss : List (List Int)) (w : World) (hg : Good n m xss) (hR : RowsAt w A m xss) (hs : s < n) :
    Calls Try.prog 127 #[.agg #[.int .i64 (n : Int), .slice A m cap], .int .i64 (s : Int)] w fun e w' => e = .returned (.agg (marr (reachF m xss s))) ∧ Below w.heap.size w w' := by
  have HG := Lib.hid hg
  obtain ⟨W3, hW3⟩ : ∃ W3, W3 = ((w.alloc (.cells #[.int .i64 (n : Int), .slice A m cap] 33)).alloc (.cells (marr fun _ => false) 151)).alloc (.cells (marr fun _ => false) 151) := ⟨_, rfl⟩
  have h3 : RmAt w (fun _ => false) W3 := by
    rw [hW3]
    refine ⟨?_, ?_, by go_grown⟩
    · rw [Below.heap_alloc _ _ _ (by simp)]
      have := heap_alloc_new (w.alloc (.cells #[.int .i64 (n : Int), .slice A m cap] 33)) (.cells (marr fun _ => false) 151)
      rw [World.size_alloc] at this
      exact this
    · have := heap_alloc_new ((w.alloc (.cells #[.int .i64 (n : Int), .slice A m cap] 33)).alloc (.cells (marr fun _ => false) 151)) (.cells (marr fun _ => false) 151)
      rw [World.size_alloc, World.size_alloc] at this
      exact this
  have hR3 : RowsAt W3 A m xss := hR.below h3.bel
  have HR3 := Lib.hid hR3
  have H3 := Lib.hid h3
  have HW3 := Lib.hid hW3
  clear hg hW3 h3 hR3
  go_enter Try.func127, Try.ntmps127
  go_wp2_with fail
  rw [show (#[.bool false, .bool false, .bool false, .bool false, .bool false, .bool false, .bool false, .bool false, .bool false, .bool false] : Array Value) = marr fun _ => false from rfl, ← HW3.out]
  refine (distancesFrom_any A n m cap s xss W3 HG.out HR3.out hs).mono ?_
  rintro e w4 ⟨d, rfl, hfd, _, _, b4⟩
  have HFD := Lib.hid hfd
  have H4 := Lib.hid (H3.out.below b4)
  obtain ⟨M, hM⟩ : ∃ M, M = darr d := ⟨_, rfl⟩
  have hmk : ∀ k, k < 10 → M[k]? = some (.int .i64 (d k)) := fun k hk => by rw [hM]; exact darr_at d hk
  have HMK := Lib.hid hmk
  rw [← hM]
  clear hfd b4 hM hmk
  go_wp2_with fail
  go_loopw [11] (fun i wr => ∃ k : Nat, k ≤ 10 ∧ i = .int .i64 k ∧ RmAt w (fTo d k) wr) (fun i _ => 10 - (intOf i).toNat)
  case atStart => exact ⟨0, Nat.zero_le _, rfl, by rw [fTo_0]; exact H4.out⟩
  case round =>
    obtain ⟨k, hk, rfl, hat⟩ := hrel
    have HT := Lib.hid hat
    clear hat H4
    by_cases hlt : k < 10
    · have hix := fun (w : World) => run_index_dist M k (d k) w hlt (HMK.out k hlt)
      have hc : wr.cell? ⟨w.heap.size + 1 + 1, k, none⟩ = some (.bool (fTo d k k)) := by
        rw [cell_of_row wr (w.heap.size + 1 + 1) k _ _ _ HT.out.mks, marr_at _ hlt]
      have hf : wr.frozen? ⟨w.heap.size + 1 + 1, k, none⟩ = false := frozen_of_row wr (w.heap.size + 1 + 1) k _ _ HT.out.mks
      have i1 : (0 : Int) ≤ (k : Int) := by omega
      have i2 : (k : Int) < 10 := by omega
      go_wp2_with fail
      go_roundw
      case rel => exact ⟨k + 1, by omega, by go_num, by rw [← fTo_step]; exact HT.out.set hlt _⟩
      case measure => simp [intOf]; omega
    · have hkn : k = 10 := by omega
      subst hkn
      have hT := HT.out
      rw [fTo_all, HFD.out] at hT
      obtain ⟨M2, hM2⟩ : ∃ M2, M2 = marr (reachF m xss s) := ⟨_, rfl⟩
      obtain ⟨Z, hZ⟩ : ∃ Z, Z = marr fun _ => false := ⟨_, rfl⟩
      have zs : Z.size = 10 := by rw [hZ]; rfl
      have ms : M2.size = 10 := by rw [hM2]; rfl
      have mo : M2.all (·.oneCell') = true := by rw [hM2]; exact marr_one _
      have k1 : wr.heap[w.heap.size + 1]? = some (.cells Z 151 (0, 0)) := by rw [hZ]; exact hT.res
      have k2 : wr.heap[w.heap.size + 1 + 1]? = some (.cells M2 151 (0, 0)) := by rw [hM2]; exact hT.mks
      have K1 := Lib.hid k1
      have K2 := Lib.hid k2
      have KB := Lib.hid hT.bel
      have HMM := Lib.hid hM2
      have ZS := Lib.hid zs
      have MS := Lib.hid ms
      have MO := Lib.hid mo
      clear hT hM2 hZ zs ms mo k1 k2
      go_wp2_with (first
        | (refine wpList_load_row rfl 151 _ rfl (w.heap.size + 1 + 1) rfl 151 M2 (0, 0) _ K2.out Try.underlying151 rfl (by rw [MS.out]; exact size_marks) ?_)
        | (refine wpList_store_mid rfl 151 _ _ rfl (w.heap.size + 1) 0 M2 rfl rfl (there_of K1.out (by rw [MS.out, ZS.out]; exact Nat.le_refl 10)) (by rw [MS.out]; exact size_marks) MO.out ?_))
      have hw := setCells_whole (vs := M2.toList) K1.out (by rw [Array.length_toList, MS.out, ZS.out])
      rw [Array.toArray_toList] at hw
      exact bodyPost_ret (v := .agg M2) (results_cell_row rfl _ _ (w.heap.size + 1) 151 _ (0, 0) _ rfl hw Try.underlying151 rfl (by rw [MS.out]; exact size_marks)) rfl ⟨by rw [HMM.out], setCells_below (by omega) _ _ _ KB.out⟩

end Go.Proofs.Ytkhhemlfahdbnab
