/-
  The states that all states reach: the contract of reachedFromAll.
-/
import Derived.Test.YtkhhemlfahdbnabJoined
namespace Go.Proofs.Ytkhhemlfahdbnab
open Go.RowKit Go.Deep Go.ChangeShapes Go.WideShapes

/-- The states that the first k states reach, and the state 0. -/
noncomputable def comK (m : Nat) (xss : List (List Int)) (k : Nat) : Nat → Bool := fun q => reachF m xss 0 q && (List.range k).all fun s => reachF m xss s q
theorem comK_0 (m : Nat) (xss : List (List Int)) : comK m xss 0 = reachF m xss 0 := by funext q; simp [comK]
theorem comK_step (m : Nat) (xss : List (List Int)) (k q : Nat) : comK m xss (k + 1) q = (comK m xss k q && reachF m xss k q) := by
  simp [comK, List.range_succ, Bool.and_assoc]
noncomputable def comT (m : Nat) (xss : List (List Int)) (k t : Nat) : Nat → Bool := fun q => if q < t then comK m xss (k + 1) q else comK m xss k q
theorem comT_0 (m : Nat) (xss : List (List Int)) (k : Nat) : comT m xss k 0 = comK m xss k := by funext q; simp [comT]
theorem comT_step (m : Nat) (xss : List (List Int)) (k t : Nat) : upd (comT m xss k t) t (comK m xss (k + 1) t) = comT m xss k (t + 1) := by
  funext q
  unfold upd comT
  by_cases h : q = t
  · subst h; simp
  · by_cases h2 : q < t
    · simp [h, h2, show q < t + 1 by omega]
    · simp [h, h2, show ¬ q < t + 1 by omega]
theorem comT_at (m : Nat) (xss : List (List Int)) (k t : Nat) : comT m xss k t t = comK m xss k t := by simp [comT]
theorem comT_all (m : Nat) (xss : List (List Int)) (k q : Nat) (hq : q < 10) : comT m xss k 10 q = comK m xss (k + 1) q := by simp [comT, hq]
theorem marr_congr {f g : Nat → Bool} (h : ∀ q, q < 10 → f q = g q) : marr f = marr g := by
  unfold marr
  rw [h 0 (by omega), h 1 (by omega), h 2 (by omega), h 3 (by omega), h 4 (by omega), h 5 (by omega), h 6 (by omega), h 7 (by omega), h 8 (by omega), h 9 (by omega)]

/-- What the blocks of reachedFromAll hold: the box, the result, the common marks. -/
structure ComAt (w : World) (n : Nat) (A : Option Addr) (m cap G : Nat) (f : Nat → Bool) (wr : World) : Prop where
  box : wr.heap[w.heap.size]? = some (.cells #[.int .i64 (n : Int), .slice A m cap] 33 (0, 0))
  res : wr.heap[w.heap.size + 1]? = some (.cells (marr fun _ => false) 151 (0, 0))
  com : wr.heap[G]? = some (.cells (marr f) 151 (0, 0))
  bel : Below w.heap.size w wr
theorem ComAt.below {w wr w' : World} {n : Nat} {A : Option Addr} {m cap G : Nat} {f : Nat → Bool} (h : ComAt w n A m cap G f wr) (hb : Below wr.heap.size wr w') : ComAt w n A m cap G f w' :=
  ⟨(hb.block _ (block_lt h.box)).trans h.box, (hb.block _ (block_lt h.res)).trans h.res, (hb.block _ (block_lt h.com)).trans h.com, below_then h.bel hb⟩
theorem ComAt.set {w wr : World} {n : Nat} {A : Option Addr} {m cap G : Nat} {f : Nat → Bool} {k : Nat} (h : ComAt w n A m cap G f wr) (hG : w.heap.size + 1 < G) (hk : k < 10) (b : Bool) : ComAt w n A m cap G (upd f k b) (wr.setCell ⟨G, k, none⟩ (.bool b)) := by
  refine ⟨?_, ?_, ?_, h.bel.setCell (by simp; omega) _⟩
  · rw [heap_setCell_other wr ⟨G, k, none⟩ _ _ (by simp; omega)]; exact h.box
  · rw [heap_setCell_other wr ⟨G, k, none⟩ _ _ (by simp; omega)]; exact h.res
  · rw [heap_setCell_same wr G k _ _ _ h.com, marr_set f hk]

set_option maxRecDepth 100000 in
set_option maxHeartbeats 2500000 in
theorem reachedFromAll_any (A : Option Addr) (n m cap : Nat) (xss : List (List Int)) (w : World) (hg : Good n m xss) (hR : RowsAt w A m xss) :
    Calls Try.prog 123 #[.agg #[.int .i64 (n : Int), .slice A m cap]] w fun e w' => e = .returned (.agg (marr (comK m xss n))) ∧ Below w.heap.size w w' := by
  have HG := Lib.hid hg
  have hn10 : n ≤ 10 := hg.n10
  have hn1 : 0 < n := hg.n1
  obtain ⟨W2, hW2⟩ : ∃ W2, W2 = (w.alloc (.cells #[.int .i64 (n : Int), .slice A m cap] 33)).alloc (.cells (marr fun _ => false) 151) := ⟨_, rfl⟩
  have B2 : Below w.heap.size w W2 := by rw [hW2]; go_grown
  have x0 : W2.heap[w.heap.size]? = some (.cells #[.int .i64 (n : Int), .slice A m cap] 33 (0, 0)) := by
    rw [hW2, Below.heap_alloc _ _ _ (by simp)]; exact heap_alloc_new _ _
  have x1 : W2.heap[w.heap.size + 1]? = some (.cells (marr fun _ => false) 151 (0, 0)) := by
    have := heap_alloc_new (w.alloc (.cells #[.int .i64 (n : Int), .slice A m cap] 33)) (.cells (marr fun _ => false) 151)
    rw [World.size_alloc, ← hW2] at this
    exact this
  have hz : W2.heap.size = w.heap.size + 1 + 1 := by rw [hW2]; simp
  have HB2 := Lib.hid B2
  have X0 := Lib.hid x0
  have X1 := Lib.hid x1
  have HZ := Lib.hid hz
  have HW2 := Lib.hid hW2
  have e0 : W2.cell? ⟨w.heap.size, 0, none⟩ = some (.int .i64 (n : Int)) := cell_of_row W2 w.heap.size 0 _ _ _ x0
  have e1 : W2.cell? ⟨w.heap.size, 1, none⟩ = some (.slice A m cap) := cell_of_row W2 w.heap.size 1 _ _ _ x0
  rw [hW2, show (marr fun _ => false) = #[.bool false, .bool false, .bool false, .bool false, .bool false, .bool false, .bool false, .bool false, .bool false, .bool false] from rfl] at e0 e1
  clear hg B2 x0 x1 hz hW2
  go_enter Try.func123, Try.ntmps123
  go_wp2_with fail
  rw [show (#[.bool false, .bool false, .bool false, .bool false, .bool false, .bool false, .bool false, .bool false, .bool false, .bool false] : Array Value) = marr fun _ => false from rfl, ← HW2.out]
  refine (reachedMarks_any A n m cap 0 xss W2 HG.out (hR.below HB2.out) hn1).mono ?_
  obtain ⟨F, hF⟩ : ∃ F : Nat → Bool, F = reachF m xss 0 := ⟨_, rfl⟩
  have HF := Lib.hid hF
  rw [← hF, show marr F = #[.bool (F 0), .bool (F 1), .bool (F 2), .bool (F 3), .bool (F 4), .bool (F 5), .bool (F 6), .bool (F 7), .bool (F 8), .bool (F 9)] from rfl]
  rintro e w3 ⟨rfl, b3⟩
  have h3 : ComAt w n A m cap w3.heap.size (comK m xss 0) (w3.alloc (.cells (marr F) 151)) := by
    have l0 := block_lt X0.out
    have l1 := block_lt X1.out
    have lz := b3.size
    rw [comK_0, ← HF.out]
    refine ⟨?_, ?_, heap_alloc_new _ _, (below_then HB2.out b3).alloc (below_then HB2.out b3).size _⟩
    · rw [Below.heap_alloc _ _ _ (by omega), b3.block _ l0]; exact X0.out
    · rw [Below.heap_alloc _ _ _ (by omega), b3.block _ l1]; exact X1.out
  have hG : w.heap.size + 1 < w3.heap.size := by have := HZ.out; have := b3.size; omega
  have d0 : (w3.alloc (.cells (marr F) 151)).cell? ⟨w.heap.size, 0, none⟩ = some (.int .i64 (n : Int)) := cell_of_row _ w.heap.size 0 _ _ _ h3.box
  rw [show marr F = #[.bool (F 0), .bool (F 1), .bool (F 2), .bool (F 3), .bool (F 4), .bool (F 5), .bool (F 6), .bool (F 7), .bool (F 8), .bool (F 9)] from rfl] at d0 h3
  have H3 := Lib.hid h3
  have HGG := Lib.hid hG
  clear hF b3 h3 hG e0 e1
  go_wp2_with fail
  go_loopw [11] (fun i wr => ∃ k : Nat, k ≤ n ∧ i = .int .i64 k ∧ ComAt w n A m cap w3.heap.size (comK m xss k) wr) (fun i _ => n - (intOf i).toNat)
  case atStart => exact ⟨0, Nat.zero_le _, rfl, H3.out⟩
  case round =>
    obtain ⟨k, hk, rfl, hat⟩ := hrel
    have HT := Lib.hid hat
    have f0 : wr.cell? ⟨w.heap.size, 0, none⟩ = some (.int .i64 (n : Int)) := cell_of_row wr w.heap.size 0 _ _ _ hat.box
    have f1 : wr.cell? ⟨w.heap.size, 1, none⟩ = some (.slice A m cap) := cell_of_row wr w.heap.size 1 _ _ _ hat.box
    clear hat d0 H3
    by_cases hlt : k < n
    · go_wp2_with fail
      refine (reachedMarks_any A n m cap k xss wr HG.out (hR.below HT.out.bel) hlt).mono ?_
      obtain ⟨E, hE⟩ : ∃ E : Nat → Bool, E = reachF m xss k := ⟨_, rfl⟩
      have HE := Lib.hid hE
      rw [← hE, show marr E = #[.bool (E 0), .bool (E 1), .bool (E 2), .bool (E 3), .bool (E 4), .bool (E 5), .bool (E 6), .bool (E 7), .bool (E 8), .bool (E 9)] from rfl]
      rintro e w5 ⟨rfl, b5⟩
      have h5 := (HT.out.below b5).below ((Below.refl _ _).alloc (Nat.le_refl _) (.cells (marr E) 151))
      have x5 : (w5.alloc (.cells (marr E) 151)).heap[w5.heap.size]? = some (.cells (marr E) 151 (0, 0)) := heap_alloc_new _ _
      have hG5 : w3.heap.size < w5.heap.size := Nat.lt_of_lt_of_le (block_lt HT.out.com) b5.size
      rw [show marr E = #[.bool (E 0), .bool (E 1), .bool (E 2), .bool (E 3), .bool (E 4), .bool (E 5), .bool (E 6), .bool (E 7), .bool (E 8), .bool (E 9)] from rfl] at h5
      rw [show (w5.alloc (.cells (marr E) 151)) = w5.alloc (.cells #[.bool (E 0), .bool (E 1), .bool (E 2), .bool (E 3), .bool (E 4), .bool (E 5), .bool (E 6), .bool (E 7), .bool (E 8), .bool (E 9)] 151) from rfl] at x5
      have H5 := Lib.hid h5
      have X5 := Lib.hid x5
      have HG5 := Lib.hid hG5
      clear hE b5 h5 x5 hG5 f0 f1
      go_wp2_with fail
      go_loopw [17] (fun i wr' => ∃ t : Nat, t ≤ 10 ∧ i = .int .i64 t ∧ ComAt w n A m cap w3.heap.size (comT m xss k t) wr' ∧ wr'.heap[w5.heap.size]? = some (.cells (marr E) 151 (0, 0))) (fun i _ => 10 - (intOf i).toNat)
      case atStart => exact ⟨0, Nat.zero_le _, rfl, by rw [comT_0]; exact H5.out, X5.out⟩
      case round =>
        obtain ⟨t, ht, rfl, hat, hrch⟩ := hrel
        have HT1 := Lib.hid hat
        have HX1 := Lib.hid hrch
        by_cases hlt2 : t < 10
        · have g0 : World.cell? ‹World› ⟨w3.heap.size, t, none⟩ = some (.bool (comK m xss k t)) := by
            rw [cell_of_row _ w3.heap.size t _ _ _ hat.com, marr_at _ hlt2, comT_at]
          have g1 : World.cell? ‹World› ⟨w5.heap.size, t, none⟩ = some (.bool (E t)) := by
            rw [cell_of_row _ w5.heap.size t _ _ _ hrch, marr_at _ hlt2]
          have g2 : World.frozen? ‹World› ⟨w3.heap.size, t, none⟩ = false := frozen_of_row _ w3.heap.size t _ _ hat.com
          have i1 : (0 : Int) ≤ (t : Int) := by omega
          have i2 : (t : Int) < 10 := by omega
          have hst := comK_step m xss k t
          rw [← HE.out] at hst
          have HST := Lib.hid hst
          clear hat hrch hst
          rcases hcm : comK m xss k t with _ | _
          · rw [hcm] at g0
            have HCM := Lib.hid hcm
            clear hcm
            go_wp2_with fail
            go_roundw
            case rel =>
              refine ⟨t + 1, by omega, by go_num, ?_, ?_⟩
              · have h9 := HT1.out.set HGG.out hlt2 (comK m xss (k + 1) t)
                rw [comT_step, HST.out, HCM.out] at h9
                exact h9
              · rw [heap_setCell_other _ _ _ _ (by have := HG5.out; simp; omega)]; exact HX1.out
            case measure => simp [intOf]; omega
          · rw [hcm] at g0
            have HCM := Lib.hid hcm
            clear hcm
            go_wp2_with fail
            go_roundw
            case rel =>
              refine ⟨t + 1, by omega, by go_num, ?_, ?_⟩
              · have h9 := HT1.out.set HGG.out hlt2 (comK m xss (k + 1) t)
                rw [comT_step, HST.out, HCM.out, Bool.true_and] at h9
                exact h9
              · rw [heap_setCell_other _ _ _ _ (by have := HG5.out; simp; omega)]; exact HX1.out
            case measure => simp [intOf]; omega
        · clear hat hrch
          go_wp2_with fail
          go_roundw
          case rel =>
            have ht10 : t = 10 := by omega
            subst ht10
            have h9 := HT1.out
            exact ⟨k + 1, by omega, by go_num, h9.box, h9.res, by rw [h9.com, marr_congr (comT_all m xss k)], h9.bel⟩
          case measure => simp [intOf]; omega
    · have hkn : k = n := by omega
      subst hkn
      have hT := HT.out
      obtain ⟨M2, hM2⟩ : ∃ M2, M2 = marr (comK m xss k) := ⟨_, rfl⟩
      obtain ⟨Z, hZ⟩ : ∃ Z, Z = marr fun _ => false := ⟨_, rfl⟩
      have zs : Z.size = 10 := by rw [hZ]; rfl
      have ms : M2.size = 10 := by rw [hM2]; rfl
      have mo : M2.all (·.oneCell') = true := by rw [hM2]; exact marr_one _
      have k1 : wr.heap[w.heap.size + 1]? = some (.cells Z 151 (0, 0)) := by rw [hZ]; exact hT.res
      have k2 : wr.heap[w3.heap.size]? = some (.cells M2 151 (0, 0)) := by rw [hM2]; exact hT.com
      have K1 := Lib.hid k1
      have K2 := Lib.hid k2
      have KB := Lib.hid hT.bel
      have HMM := Lib.hid hM2
      have ZS := Lib.hid zs
      have MS := Lib.hid ms
      have MO := Lib.hid mo
      clear hT hM2 hZ zs ms mo k1 k2 f0 f1
      go_wp2_with (first
        | (refine wpList_load_row rfl 151 _ rfl w3.heap.size rfl 151 M2 (0, 0) _ K2.out Try.underlying151 rfl (by rw [MS.out]; exact size_marks) ?_)
        | (refine wpList_store_mid rfl 151 _ _ rfl (w.heap.size + 1) 0 M2 rfl rfl (there_of K1.out (by rw [MS.out, ZS.out]; exact Nat.le_refl 10)) (by rw [MS.out]; exact size_marks) MO.out ?_))
      have hw := setCells_whole (vs := M2.toList) K1.out (by rw [Array.length_toList, MS.out, ZS.out])
      rw [Array.toArray_toList] at hw
      exact bodyPost_ret (v := .agg M2) (results_cell_row rfl _ _ (w.heap.size + 1) 151 _ (0, 0) _ rfl hw Try.underlying151 rfl (by rw [MS.out]; exact size_marks)) rfl ⟨by rw [HMM.out], setCells_below (by omega) _ _ _ KB.out⟩

end Go.Proofs.Ytkhhemlfahdbnab
