/-
  The program's distances: the contract of distancesFrom.
-/
import Derived.Test.YtkhhemlfahdbnabReach
import Derived.Test.YtkhhemlfahdbnabBfs
import Derived.Test.YtkhhemlfahdbnabMarks
namespace Go.Proofs.Ytkhhemlfahdbnab
open Go.RowKit Go.Deep Go.ChangeShapes Go.WideShapes

def darr (d : Nat → Int) : Array Value := #[.int .i64 (d 0), .int .i64 (d 1), .int .i64 (d 2), .int .i64 (d 3), .int .i64 (d 4), .int .i64 (d 5), .int .i64 (d 6), .int .i64 (d 7), .int .i64 (d 8), .int .i64 (d 9)]
theorem darr_at (d : Nat → Int) {k : Nat} (h : k < 10) : (darr d)[k]? = some (.int .i64 (d k)) := by
  rcases (show k = 0 ∨ k = 1 ∨ k = 2 ∨ k = 3 ∨ k = 4 ∨ k = 5 ∨ k = 6 ∨ k = 7 ∨ k = 8 ∨ k = 9 by omega) with rfl | rfl | rfl | rfl | rfl | rfl | rfl | rfl | rfl | rfl <;> rfl
theorem darr_set (d : Nat → Int) {k : Nat} (h : k < 10) (v : Int) : (darr d).setIfInBounds k (.int .i64 v) = darr (updI d k v) := by
  rcases (show k = 0 ∨ k = 1 ∨ k = 2 ∨ k = 3 ∨ k = 4 ∨ k = 5 ∨ k = 6 ∨ k = 7 ∨ k = 8 ∨ k = 9 by omega) with rfl | rfl | rfl | rfl | rfl | rfl | rfl | rfl | rfl | rfl <;> rfl
theorem darr_one (d : Nat → Int) : (darr d).all (·.oneCell') = true := by simp [darr, Value.oneCell']
theorem size_dist : (Try.prog.info? 145).map (·.size) = some 10 := by kernel_rfl
/-- The states that have a distance. -/
def fD (d : Nat → Int) : Nat → Bool := fun q => decide (q < 10) && decide (0 ≤ d q)
theorem fD_upd {d : Nat → Int} {k : Nat} {v : Int} (hk : k < 10) (hv : 0 ≤ v) : fD (updI d k v) = upd (fD d) k true := by
  funext q
  unfold fD upd updI
  by_cases h : q = k
  · subst h; simp [hk, hv]
  · simp [h]
structure DistAt (w : World) (n : Nat) (A : Option Addr) (m cap : Nat) (d : Nat → Int) (wr : World) : Prop where
  box : wr.heap[w.heap.size]? = some (.cells #[.int .i64 (n : Int), .slice A m cap] 33 (0, 0))
  res : wr.heap[w.heap.size + 1]? = some (.cells (darr fun _ => 0) 145 (0, 0))
  dst : wr.heap[w.heap.size + 1 + 1]? = some (.cells (darr d) 145 (0, 0))
  bel : Below w.heap.size w wr
theorem DistAt.grown {w wr w' : World} {n : Nat} {A : Option Addr} {m cap : Nat} {d : Nat → Int} {row : Option Nat} (h : DistAt w n A m cap d wr) (hg : wr.grownBy w' row) (hr : ∀ k, row = some k → w.heap.size + 1 + 1 + 1 ≤ k) : DistAt w n A m cap d w' := by
  have hb : ∀ k, k < wr.heap.size → k < w.heap.size + 1 + 1 + 1 → w'.heap[k]? = wr.heap[k]? := fun k hk hlt => hg.block k hk (fun e => by have := hr k e.symm; omega)
  exact ⟨(hb _ (block_lt h.box) (by omega)).trans h.box, (hb _ (block_lt h.res) (by omega)).trans h.res, (hb _ (block_lt h.dst) (by omega)).trans h.dst, h.bel.grown hg h.bel.size (fun k hk => by have := hr k hk; omega)⟩
theorem DistAt.below {w wr w' : World} {n : Nat} {A : Option Addr} {m cap : Nat} {d : Nat → Int} (h : DistAt w n A m cap d wr) (hb : Below wr.heap.size wr w') : DistAt w n A m cap d w' :=
  ⟨(hb.block _ (block_lt h.box)).trans h.box, (hb.block _ (block_lt h.res)).trans h.res, (hb.block _ (block_lt h.dst)).trans h.dst, below_then h.bel hb⟩
theorem DistAt.set {w wr : World} {n : Nat} {A : Option Addr} {m cap : Nat} {d : Nat → Int} {k : Nat} (h : DistAt w n A m cap d wr) (hk : k < 10) (v : Int) : DistAt w n A m cap (updI d k v) (wr.setCell ⟨w.heap.size + 1 + 1, k, none⟩ (.int .i64 v)) := by
  refine ⟨?_, ?_, ?_, h.bel.setCell (by simp; omega) _⟩
  · rw [heap_setCell_other wr ⟨w.heap.size + 1 + 1, k, none⟩ _ _ (by simp; omega)]; exact h.box
  · rw [heap_setCell_other wr ⟨w.heap.size + 1 + 1, k, none⟩ _ _ (by simp)]; exact h.res
  · rw [heap_setCell_same wr (w.heap.size + 1 + 1) k _ _ _ h.dst, darr_set d hk]

theorem cell_setCell_other' (w : World) {b g o o' : Nat} (h : b ≠ g) (u : Value) : (w.setCell ⟨g, o, none⟩ u).cell? ⟨b, o', none⟩ = w.cell? ⟨b, o', none⟩ :=
  World.cell?_of_block (heap_setCell_other w ⟨g, o, none⟩ b u h)
theorem queue_set {w : World} {base : Nat} {v : Value} {xs : List Int} (h : queueAt w base v xs) {b o : Nat} (hb : b < base) (u : Value) : queueAt (w.setCell ⟨b, o, none⟩ u) base v xs := by
  obtain ⟨g, off, cap, cur, hv, hg, hh, rest⟩ := h
  exact ⟨g, off, cap, cur, hv, hg, (heap_setCell_other w ⟨b, o, none⟩ g u (by show g ≠ b; omega)).trans hh, rest⟩
/-- The states that have a distance, read in a world. -/
def fW (G : Nat) (wr : World) : Nat → Bool := fun q => decide (q < 10) && (match wr.cell? ⟨G, q, none⟩ with | some (.int _ x) => decide (0 ≤ x) | _ => false)
theorem DistAt.reads {w wr : World} {n : Nat} {A : Option Addr} {m cap : Nat} {d : Nat → Int} (h : DistAt w n A m cap d wr) : fW (w.heap.size + 1 + 1) wr = fD d := by
  funext q
  unfold fW fD
  by_cases hq : q < 10
  · rw [cell_of_row wr (w.heap.size + 1 + 1) q _ _ _ h.dst, darr_at d hq]
  · simp [hq]
def cnt (d : Nat → Int) : Nat := (setL (fD d) 10).length
theorem cnt_le (d : Nat → Int) : cnt d ≤ 10 := setL_len _ _
theorem cnt_new {d : Nat → Int} {k : Nat} {v : Int} (hk : k < 10) (hv : 0 ≤ v) (h : fD d k = false) : cnt (updI d k v) = cnt d + 1 := by
  unfold cnt; rw [fD_upd hk hv]; exact setL_count h 10 hk
theorem fD_pos {d : Nat → Int} {q : Nat} (h : fD d q = true) : 0 ≤ d q := by simp [fD] at h; exact h.2
theorem fD_neg {d : Nat → Int} {q : Nat} (hq : q < 10) (h : fD d q = false) : d q < 0 := by simp [fD, hq] at h; exact h
theorem fD_start {s : Nat} (hs : s < 10) : fD (updI (fun _ => -1) s 0) = upd (fun _ => false) s true := by
  rw [fD_upd hs (by omega)]
  congr 1
  funext q
  simp [fD]

set_option maxRecDepth 100000 in
set_option maxHeartbeats 1500000 in
theorem distancesFrom_any (A : Option Addr) (n m cap s : Nat) (xss : List (List Int)) (w : World) (hg : Good n m xss) (hR : RowsAt w A m xss) (hs : s < n) :
    Calls Try.prog 124 #[.agg #[.int .i64 (n : Int), .slice A m cap], .int .i64 (s : Int)] w fun e w' => ∃ d, e = .returned (.agg (darr d)) ∧ fD d = reachF m xss s ∧ Far m xss s d ∧ (∀ q, d q ≤ 10) ∧ Below w.heap.size w w' := by
  have HG := Lib.hid hg
  have hn10 : n ≤ 10 := hg.n10
  have hm3 : m ≤ 3 := hg.m3
  have j1 : (0 : Int) ≤ (s : Int) := by omega
  have j2 : (s : Int) < 10 := by omega
  clear hg
  go_enter Try.func124, Try.ntmps124
  obtain ⟨D0, hD0⟩ : ∃ D0, D0 = updI (fun _ => -1) s 0 := ⟨_, rfl⟩
  obtain ⟨W3, hW3⟩ : ∃ W3, W3 = ((w.alloc (.cells #[.int .i64 (n : Int), .slice A m cap] 33)).alloc (.cells (darr fun _ => 0) 145)).alloc (.cells (darr fun _ => -1) 145) := ⟨_, rfl⟩
  have hc3 : W3.cell? ⟨w.heap.size + 1 + 1, s, none⟩ = some (.int .i64 (-1)) := by
    have := heap_alloc_new ((w.alloc (.cells #[.int .i64 (n : Int), .slice A m cap] 33)).alloc (.cells (darr fun _ => 0) 145)) (.cells (darr fun _ => -1) 145)
    rw [World.size_alloc, World.size_alloc, ← hW3] at this
    rw [cell_of_row W3 (w.heap.size + 1 + 1) s _ _ _ this, darr_at _ (by omega)]
  have hf3 : W3.frozen? ⟨w.heap.size + 1 + 1, s, none⟩ = false := by
    have := heap_alloc_new ((w.alloc (.cells #[.int .i64 (n : Int), .slice A m cap] 33)).alloc (.cells (darr fun _ => 0) 145)) (.cells (darr fun _ => -1) 145)
    rw [World.size_alloc, World.size_alloc, ← hW3] at this
    exact frozen_of_row W3 (w.heap.size + 1 + 1) s _ _ this
  obtain ⟨W4, hW4⟩ : ∃ W4, W4 = ((w.alloc (.cells #[.int .i64 (n : Int), .slice A m cap] 33)).alloc (.cells (darr fun _ => 0) 145)).alloc (.cells (darr D0) 145) := ⟨_, rfl⟩
  have hz4 : W4.heap.size = w.heap.size + 1 + 1 + 1 := by rw [hW4]; simp
  have h4 : DistAt w n A m cap D0 W4 := by
    rw [hW4]
    refine ⟨?_, ?_, ?_, by go_grown⟩
    · rw [Below.heap_alloc _ _ _ (by simp; omega), Below.heap_alloc _ _ _ (by simp)]; exact heap_alloc_new _ _
    · rw [Below.heap_alloc _ _ _ (by simp)]
      have := heap_alloc_new (w.alloc (.cells #[.int .i64 (n : Int), .slice A m cap] 33)) (.cells (darr fun _ => 0) 145)
      rw [World.size_alloc] at this
      exact this
    · have := heap_alloc_new ((w.alloc (.cells #[.int .i64 (n : Int), .slice A m cap] 33)).alloc (.cells (darr fun _ => 0) 145)) (.cells (darr D0) 145)
      rw [World.size_alloc, World.size_alloc] at this
      exact this
  have hq4 : queueAt (W4.alloc (.cells #[.int .i64 (s : Int)] 2)) (w.heap.size + 1 + 1 + 1) (.slice (some ⟨w.heap.size + 1 + 1 + 1, 0, none⟩) 1 1) (ints [s]) := by
    have h2 := World.ownsRow_lit (e := 2) (size := 1) (base := w.heap.size + 1 + 1 + 1) W4 #[.int .i64 (s : Int)] 1 (by rw [hz4]; exact Nat.le_refl _) (by decide) rfl
    rw [hz4] at h2
    exact queue_of_own (n := 1) (xs := [(s : Int)]) h2 (by omega)
  have h5 := h4.below ((Below.refl _ _).alloc (Nat.le_refl _) (.cells #[.int .i64 (s : Int)] 2))
  have hset : (([.int .i64 (-1), .int .i64 (-1), .int .i64 (-1), .int .i64 (-1), .int .i64 (-1), .int .i64 (-1), .int .i64 (-1), .int .i64 (-1), .int .i64 (-1), .int .i64 (-1)] : List Value).set s (.int .i64 0)).toArray = darr D0 := by
    rw [hD0, ← darr_set _ (by omega)]; simp [darr]
  rw [hW4] at h5 hq4
  rw [hW3] at hc3 hf3
  rw [show (darr fun _ => 0) = #[.int .i64 0, .int .i64 0, .int .i64 0, .int .i64 0, .int .i64 0, .int .i64 0, .int .i64 0, .int .i64 0, .int .i64 0, .int .i64 0] from rfl] at hc3 hf3 hq4 h5
  rw [show (darr fun _ => -1) = #[.int .i64 (-1), .int .i64 (-1), .int .i64 (-1), .int .i64 (-1), .int .i64 (-1), .int .i64 (-1), .int .i64 (-1), .int .i64 (-1), .int .i64 (-1), .int .i64 (-1)] from rfl] at hc3 hf3
  have H5 := Lib.hid h5
  have HQ4 := Lib.hid hq4
  have HSET := Lib.hid hset
  have HD0 := Lib.hid hD0
  clear hW3 hW4 hz4 h4 h5 hq4 hset hD0
  go_wp2_with fail
  go_rounds 12
  go_loopw [7] (fun tv wr => ∃ (d : Nat → Int) (T : List Nat), (∃ k, bfs m xss s k = (d, T)) ∧ Found n m xss s (fD d) T ∧ DistAt w n A m cap d wr ∧ queueAt wr (w.heap.size + 1 + 1 + 1) tv (ints T) ∧ (∀ q, d q ≤ (cnt d : Int)) ∧ 2 * (10 - cnt d) + T.length ≤ 20) (fun tv wr => 2 * (10 - (setL (fW (w.heap.size + 1 + 1) wr) 10).length) + slLen tv)
  case atStart =>
    have h1 : cnt (updI (fun _ => -1) s 0) = 1 := by
      unfold cnt
      rw [fD_start (by omega), setL_gap (f := fun _ => false) 10 (by omega) (fun _ _ _ => rfl)]; simp [setL]
    rw [HSET.out]
    refine ⟨D0, [s], ⟨0, by rw [HD0.out]; rfl⟩, by rw [HD0.out, fD_start (by omega)]; exact found_start hs, H5.out, HQ4.out, fun q => ?_, by rw [HD0.out, h1]; simp⟩
    rw [HD0.out, h1]
    unfold updI
    split <;> simp
  case round =>
    obtain ⟨d0, T0, hK, hF, hD, hq, hbd, hmeas⟩ := hrel
    have HK := Lib.hid hK
    have HF := Lib.hid hF
    have HD := Lib.hid hD
    have HQ := Lib.hid hq
    have HBD := Lib.hid hbd
    have HM0 := Lib.hid hmeas
    clear hK hF hD hq hbd hmeas H5 HQ4 hc3 hf3
    rcases T0 with _ | ⟨now, T0⟩
    · have hfa := HF.out.all
      have HFA := Lib.hid hfa
      obtain ⟨g, off, cap', cur, hv, _⟩ := HQ.out
      subst hv
      clear hfa
      have z1 : (darr fun _ => 0).size = 10 := rfl
      obtain ⟨M, hM⟩ : ∃ M, M = darr d0 := ⟨_, rfl⟩
      obtain ⟨Z, hZ⟩ : ∃ Z, Z = darr fun _ => 0 := ⟨_, rfl⟩
      have zs : Z.size = 10 := by rw [hZ]; rfl
      have ms : M.size = 10 := by rw [hM]; rfl
      have mo : M.all (·.oneCell') = true := by rw [hM]; exact darr_one _
      have k1 : wr.heap[w.heap.size + 1]? = some (.cells Z 145 (0, 0)) := by rw [hZ]; exact HD.out.res
      have k2 : wr.heap[w.heap.size + 1 + 1]? = some (.cells M 145 (0, 0)) := by rw [hM]; exact HD.out.dst
      have K1 := Lib.hid k1
      have K2 := Lib.hid k2
      have KB := Lib.hid HD.out.bel
      have HMM := Lib.hid hM
      have ZS := Lib.hid zs
      have MS := Lib.hid ms
      have MO := Lib.hid mo
      clear hM hZ zs ms mo k1 k2 z1
      go_wp2_with (first
        | (refine wpList_load_row rfl 145 _ rfl (w.heap.size + 1 + 1) rfl 145 M (0, 0) _ K2.out Try.underlying145 rfl (by rw [MS.out]; exact size_dist) ?_)
        | (refine wpList_store_mid rfl 145 _ _ rfl (w.heap.size + 1) 0 M rfl rfl (there_of K1.out (by rw [MS.out, ZS.out]; exact Nat.le_refl 10)) (by rw [MS.out]; exact size_dist) MO.out ?_))
      have hw := setCells_whole (vs := M.toList) K1.out (by rw [Array.length_toList, MS.out, ZS.out])
      rw [Array.toArray_toList] at hw
      exact bodyPost_ret (v := .agg M) (results_cell_row rfl _ _ (w.heap.size + 1) 145 _ (0, 0) _ rfl hw Try.underlying145 rfl (by rw [MS.out]; exact size_dist)) rfl ⟨d0, by rw [HMM.out], HFA.out, HK.out, fun q => by have h1 := HBD.out q; have h2 := cnt_le d0; omega, setCells_below (by omega) _ _ _ KB.out⟩
    · obtain ⟨g, off, cap', hv, hc, hle, hq'⟩ := queue_pop (x := (now : Int)) (xs := ints T0) HQ.out
      subst hv
      have hq0 : cap' = 0 → queueAt wr (w.heap.size + 1 + 1 + 1) (.slice (some ⟨g, off, none⟩) (ints T0).length 0) (ints T0) := fun h0 => queue_zero (x := (now : Int)) (xs := ints T0) HQ.out h0 hle
      have HQ0 := Lib.hid hq0
      have HQ' := Lib.hid hq'
      have hfn := HF.out.todo now (by simp)
      have hnown : now < n := (HF.out.ok now hfn).1
      have hbox := HD.out.box
      have e1 : wr.cell? ⟨w.heap.size, 1, none⟩ = some (.slice A m cap) := cell_of_row wr w.heap.size 1 _ _ _ hbox
      clear hq' hle hq0 hfn hbox
      go_wp2_with fail
      all_goals
        go_loopw [7, 32] (fun tv i wr' => ∃ (x : Nat) (d : Nat → Int) (T : List Nat), x ≤ m ∧ i = .int .i64 x ∧ rowB x xss now (d0, T0) = (d, T) ∧ Seen n m xss s (fD d) T now x ∧ DistAt w n A m cap d wr' ∧ queueAt wr' (w.heap.size + 1 + 1 + 1) tv (ints T) ∧ (∀ q, d q ≤ (cnt d : Int)) ∧ 2 * (10 - cnt d) + T.length < 2 * (10 - cnt d0) + (T0.length + 1)) (fun _ i _ => m - (intOf i).toNat)
        case atStart =>
          refine ⟨0, d0, T0, Nat.zero_le _, rfl, rfl, HF.out.pop, HD.out, ?_, HBD.out, by omega⟩
          first
            | exact HQ'.out
            | exact HQ0.out (by assumption)
        case round =>
          obtain ⟨x, d, T, hx, rfl, hRB, hS, hD, hq, hbd, hmeas⟩ := hrel
          have HRB := Lib.hid hRB
          have HS := Lib.hid hS
          have HD1 := Lib.hid hD
          have HQ1 := Lib.hid hq
          have HBD1 := Lib.hid hbd
          have HM1 := Lib.hid hmeas
          clear hRB hS hD hq hbd hmeas e1
          by_cases hlt : x < m
          · have hto := HG.out.nextD hlt hnown
            obtain ⟨b, off1, b2, off2, cr, hA, hcr, hcells⟩ := row_base HG.out (hR.below HD1.out.bel) hlt
            have f1 := hcells now hnown
            have hto10 : nx xss x now < 10 := by omega
            have f2 : World.cell? ‹World› ⟨w.heap.size + 1 + 1, nx xss x now, none⟩ = some (.int .i64 (d (nx xss x now))) := by
              rw [cell_of_row _ (w.heap.size + 1 + 1) _ _ _ _ HD1.out.dst, darr_at d hto10]
            have i1 : (0 : Int) ≤ (x : Int) := by omega
            have i2 : (x : Int) < (m : Int) := by omega
            have i3 : (0 : Int) ≤ (now : Int) := by omega
            have i4 : (now : Int) < (n : Int) := by omega
            have i5 : (0 : Int) ≤ ((nx xss x now : Nat) : Int) := by omega
            have i6 : ((nx xss x now : Nat) : Int) < 10 := by omega
            subst hA
            rcases hft : fD d (nx xss x now) with _ | _
            · have hp := fD_neg hto10 hft
              have hpd : decide (d (nx xss x now) < 0) = true := by rw [decide_eq_true_eq]; exact hp
              have hnw := fD_pos HS.out.nowOk
              have hcl := cnt_le d
              have hb0 := HBD1.out now
              have hnow10 : now < 10 := by omega
              have f3 : World.cell? ‹World› ⟨w.heap.size + 1 + 1, now, none⟩ = some (.int .i64 (d now)) := by
                rw [cell_of_row _ (w.heap.size + 1 + 1) _ _ _ _ HD1.out.dst, darr_at d hnow10]
              have f4 : World.frozen? ‹World› ⟨w.heap.size + 1 + 1, nx xss x now, none⟩ = false := frozen_of_row _ (w.heap.size + 1 + 1) _ _ _ HD1.out.dst
              have hn10' : (now : Int) < 10 := by omega
              have hcn := cnt_new (v := d now + 1) hto10 (by omega) hft
              have hN : Seen n m xss s (fD (updI d (nx xss x now) (d now + 1))) (T ++ [nx xss x now]) now (x + 1) := by
                rw [fD_upd hto10 (by omega)]; exact HS.out.new HG.out hlt hft
              have HN := Lib.hid hN
              have HRN := Lib.hid (rowB_new HRB.out hp)
              have HCN := Lib.hid hcn
              clear hft hcells hto hp hN hcn
              have hb2 : b2 < w.heap.size := by
                obtain ⟨b', off', b2', off2', cr', hA', hcr', hcells'⟩ := row_base HG.out hR hlt
                simp only [Option.some.injEq, Addr.mk.injEq, and_true] at hA'
                obtain ⟨rfl, rfl⟩ := hA'
                have h1 := (HD1.out.bel.cell (cell_lt hcr')).trans hcr'
                have h2 := Option.some.inj (hcr.symm.trans h1)
                simp only [Value.slice.injEq, Option.some.injEq, Addr.mk.injEq, and_true, true_and] at h2
                have h3 : b2' < w.heap.size := cell_lt (hcells' now hnown)
                omega
              have hbne : b2 ≠ w.heap.size + 1 + 1 := by omega
              have hwrap : IntKind.i64.wrap (d now + 1) = d now + 1 := IntWalk.i64_in _ (by omega)
              go_wp2_with fail
              go_region_with (fail)
              all_goals
                try rw [hwrap]
                obtain ⟨W7, hW7⟩ : ∃ W7, W7 = (wr.setCell ⟨w.heap.size + 1 + 1, nx xss x now, none⟩ (.int .i64 (d now + 1))).drew := ⟨_, rfl⟩
                rw [← hW7]
                have h7 : DistAt w n (some ⟨b, off1, none⟩) m cap (updI d (nx xss x now) (d now + 1)) W7 := by
                  rw [hW7]; exact (HD1.out.set hto10 _).below (below_drewN' (Below.refl _ _) 1)
                have hW8 : W7 = (wr.setCell ⟨w.heap.size + 1 + 1, nx xss x now, none⟩ (.int .i64 (d now + 1))).drewN 1 := hW7
                have q7 := queue_below (queue_set HQ1.out (b := w.heap.size + 1 + 1) (o := nx xss x now) (by omega) (.int .i64 (d now + 1))) (below_drewN' (Below.refl _ _) 1)
                rw [← hW8] at q7
                have f8 : (wr.setCell ⟨w.heap.size + 1 + 1, nx xss x now, none⟩ (.int .i64 (d now + 1))).cell? ⟨b2, off2 + now, none⟩ = some (.int .i64 ((nx xss x now : Nat) : Int)) := (cell_setCell_other' wr hbne _).trans f1
                have f7 : W7.cell? ⟨b2, off2 + now, none⟩ = some (.int .i64 ((nx xss x now : Nat) : Int)) := by
                  rw [hW8]
                  exact (Below.cell (below_drewN' (Below.refl _ _) 1) (cell_lt f8)).trans f8
                have H7 := Lib.hid h7
                have Q7 := Lib.hid q7
                have hTl : (ints T).length ≤ 1000 := by have := HM1.out; have := HM0.out; simp [ints] at this ⊢; omega
                have HTL := Lib.hid hTl
                clear h7 q7 hTl hW7 hW8 f8
                go_wp2_with (at_builtin; refine wpList_append_queue _ rfl _ _ rfl rfl (w.heap.size + 1 + 1 + 1) _ (ints T) rfl (queue_below Q7.out ((Below.refl _ _).alloc (Nat.le_refl _) _)) ⟨W7.heap.size, 0, none⟩ 1 ((nx xss x now : Nat) : Int) rfl (cell_one_new _ _ _) HTL.out (by have h1 := block_lt H7.out.dst; rw [World.size_alloc]; omega) ?_)
                intro v3 w3 hq3 hg3 _
                have HQ3 := Lib.hid hq3
                have HG3 := Lib.hid hg3
                clear hq3 hg3
                go_wp2_with fail
                go_roundw
                case rel =>
                  obtain ⟨gq, hgq, hgb, hglt⟩ := queue_block Q7.out
                  refine ⟨x + 1, updI d (nx xss x now) (d now + 1), T ++ [nx xss x now], by omega, by go_num, HRN.out, HN.out, (H7.out.below ((Below.refl _ _).alloc (Nat.le_refl _) _)).grown HG3.out (fun k hk => by rw [hgq] at hk; obtain rfl := Option.some.inj hk; exact hgb), by have := HQ3.out; simpa [ints] using this, fun q => ?_, ?_⟩
                  · rw [HCN.out]
                    have h1 := HBD1.out q
                    have h2 := HBD1.out now
                    unfold updI
                    split <;> omega
                  · have h1 := HM1.out
                    have h2 := cnt_le (updI d (nx xss x now) (d now + 1))
                    rw [HCN.out] at h2 ⊢
                    rw [List.length_append]
                    simp only [List.length_cons, List.length_nil]
                    omega
                case measure => simp [intOf]; omega
            · have hp := fD_pos hft
              have hpd : decide (d (nx xss x now) < 0) = false := by rw [decide_eq_false_iff_not]; omega
              have HN := Lib.hid (HS.out.old hft)
              have HRN := Lib.hid (rowB_old HRB.out (by omega))
              clear hft hcells hto hp
              go_wp2_with fail
              go_roundw
              case rel => exact ⟨x + 1, d, T, by omega, by go_num, HRN.out, HN.out, HD1.out, HQ1.out, HBD1.out, HM1.out⟩
              case measure => simp [intOf]; omega
          · go_wp2_with fail
            go_roundw
            case rel =>
              have hxm : x = m := by omega
              subst hxm
              exact ⟨d, T, by obtain ⟨k, hk⟩ := HK.out; exact ⟨k + 1, by rw [bfs_pop hk]; exact HRB.out⟩, HS.out.found, HD1.out, HQ1.out, HBD1.out, by have := HM1.out; have := HM0.out; simp at this; omega⟩
            case measure =>
              have h1 := queue_len HQ1.out
              have h2 := HM1.out
              rw [HD1.out.reads, HD.out.reads]
              unfold cnt at h2
              simp [slLen, ints] at h1 ⊢
              omega

end Go.Proofs.Ytkhhemlfahdbnab
