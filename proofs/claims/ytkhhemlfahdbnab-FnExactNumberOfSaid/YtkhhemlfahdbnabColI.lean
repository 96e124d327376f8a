/-
  The colouring with a number, in the program: the contracts of listIn and colouringAt; both ColouringAt.
-/
import Derived.Test.YtkhhemlfahdbnabColAt
import Derived.Deep.RegionHeld3
namespace Go.Proofs.Ytkhhemlfahdbnab
open Go.RowKit Go.Deep Go.ChangeShapes Go.WideShapes

set_option maxRecDepth 100000 in
set_option maxHeartbeats 1000000 in
theorem listIn_any (b off n c U N : Nat) (A6 : Option Addr) (m c6 : Nat) (w : World) (hc : w.cell? ⟨b, off + N / U % n, none⟩ = some (.slice A6 m c6)) (hU : 1 ≤ U) (hn : 1 ≤ n) (hN : N ≤ 1000000) (hn2 : n ≤ 1000000) (hU2 : U ≤ 1000000) :
    Calls Try.prog 136 #[.agg #[.slice (some ⟨b, off, none⟩) n c, .int .i64 (U : Int)], .int .i64 (N : Int)] w fun e w' => e = .returned (.slice A6 m c6) ∧ Below w.heap.size w w' := by
  obtain ⟨w1, hw1⟩ : ∃ w1, w1 = w.alloc (.cells #[.slice (some ⟨b, off, none⟩) n c, .int .i64 (U : Int)] 107) := ⟨_, rfl⟩
  have b1 : Below w.heap.size w w1 := by rw [hw1]; exact (Below.refl _ _).alloc (Nat.le_refl _) _
  have x0 : w1.cell? ⟨w.heap.size, 0, none⟩ = some (.slice (some ⟨b, off, none⟩) n c) := by rw [hw1]; go_cell
  have x1 : w1.cell? ⟨w.heap.size, 1, none⟩ = some (.int .i64 (U : Int)) := by rw [hw1]; go_cell
  obtain ⟨D, hD⟩ : ∃ D, D = N / U := ⟨_, rfl⟩
  obtain ⟨P, hP⟩ : ∃ P, P = D % n := ⟨_, rfl⟩
  rw [← hD, ← hP] at hc
  have hD0 : D ≤ 1000000 := by rw [hD]; exact Nat.le_trans (Nat.div_le_self _ _) hN
  have hPn : P < n := by rw [hP]; exact Nat.mod_lt _ (by omega)
  have x2 := (b1.cell (cell_lt hc)).trans hc
  have hdiv : (N : Int).tdiv (U : Int) = (D : Int) := by rw [hD, Int.tdiv_eq_ediv_of_nonneg (by omega), Int.natCast_ediv]
  have hmod : (D : Int).tmod (n : Int) = (P : Int) := by rw [hP, Int.tmod_eq_emod_of_nonneg (by omega), Int.natCast_emod]
  have hdiv' : (N : Int) / (U : Int) = (D : Int) := by rw [hD, Int.natCast_ediv]
  have hmod' : (D : Int) % (n : Int) = (P : Int) := by rw [hP, Int.natCast_emod]
  have hne : ((U : Int) == 0) = false := by rw [beq_eq_false_iff_ne]; omega
  have hne2 : ((n : Int) == 0) = false := by rw [beq_eq_false_iff_ne]; omega
  have i1 : (0 : Int) ≤ (P : Int) := by omega
  have i2 : (P : Int) < (n : Int) := by omega
  have HW := Lib.hid hw1
  have B1 := Lib.hid b1
  clear hw1 b1 hc hD hP
  go_enter Try.func136, Try.ntmps136
  go_wp2_with fail
  rw [← HW.out]
  go_quiet ((go_at_call 132; exact quiet_eq (count_any _ _ _ _)))
  go_wp2_with fail
  go_ret
  exact ⟨rfl, below_drewN' B1.out _⟩

set_option maxRecDepth 100000 in
set_option maxHeartbeats 2000000 in
theorem colLead_any (bt bn G n m N x s : Nat) (X : List (List (List Int))) (w : World) (hg : GoodX n m X) (ht : TownsAt G n 0 X w) (c0 : w.cell? ⟨bt, 0, none⟩ = some (.slice (some ⟨G, 0, none⟩) n n)) (c1 : w.cell? ⟨bn, 0, none⟩ = some (.int .i64 (N : Int))) (hx : x < m) (hs : s < n) (hN : N ≤ 1000000) :
    Calls Try.prog 135 #[.int .i64 (x : Int), .int .i64 (s : Int), .pointer (some ⟨bt, 0, none⟩), .pointer (some ⟨bn, 0, none⟩)] w fun e w' => e = .returned (.int .i64 (colX X n N x s)) ∧ Below w.heap.size w w' := by
  obtain ⟨A, c, e0, e1, e2⟩ := ht.cells (Nat.zero_le _) hs
  obtain ⟨ha1, ha2, ha3⟩ := hg.at_ (N := N) hs
  have hp := hg.some_ s hs
  have hu1 := hg.pos (n - 1 - s) (by omega)
  have hu2 := uD_small hg.all (n := n) (d := n - 1 - s) (by have := hg.n7; omega)
  obtain ⟨Y, hY⟩ : ∃ Y, Y = X.getD s [] := ⟨_, rfl⟩
  obtain ⟨U, hU⟩ : ∃ U, U = uD X n (n - 1 - s) := ⟨_, rfl⟩
  rw [← hY] at e0 e2 ha1 ha2 hp
  rw [← hU] at e1 ha1 ha2 hu1 hu2
  obtain ⟨b, off, A6, c6, rfl, hc6, hn6⟩ := e2.2 _ _ ha2
  rw [ha3] at hc6 hn6
  obtain ⟨z, b8, off8, hz8, rfl, hc8⟩ := hn6.at_ hx
  have hzx : z = colX X n N x s := by unfold colX; rw [List.getD_eq_getElem?_getD, hz8]; rfl
  have HZX := Lib.hid hzx
  have HC6 := Lib.hid hc6
  have r0 : ∀ W', Below w.heap.size w W' → W'.cell? ⟨bt, 0, none⟩ = some (.slice (some ⟨G, 0, none⟩) n n) := fun W' hb => (hb.cell (cell_lt c0)).trans c0
  have r1 : ∀ W', Below w.heap.size w W' → W'.cell? ⟨bn, 0, none⟩ = some (.int .i64 (N : Int)) := fun W' hb => (hb.cell (cell_lt c1)).trans c1
  have r2 : ∀ W', Below w.heap.size w W' → W'.cell? ⟨G, s * 2, none⟩ = some (.slice (some ⟨b, off, none⟩) Y.length c) := fun W' hb => (hb.cell (cell_lt e0)).trans e0
  have r3 : ∀ W', Below w.heap.size w W' → W'.cell? ⟨G, s * 2 + 1, none⟩ = some (.int .i64 (U : Int)) := fun W' hb => (hb.cell (cell_lt e1)).trans e1
  have r4 : ∀ W', Below w.heap.size w W' → W'.cell? ⟨b8, off8 + x, none⟩ = some (.int .i64 z) := fun W' hb => (hb.cell (cell_lt hc8)).trans hc8
  have h9 : Below w.heap.size w w := Below.refl _ _
  have i1 : (0 : Int) ≤ (s : Int) := by omega
  have i2 : (s : Int) < (n : Int) := by omega
  have i3 : (0 : Int) ≤ (x : Int) := by omega
  have i4 : (x : Int) < (m : Int) := by omega
  clear ht hg c0 c1 e0 e1 e2 ha2 ha3 hY hU hn6 hz8 hc8 hzx hc6
  go_enter Try.func135, Try.ntmps135
  go_wp2_with fail
  go_region_held3 (fun w' => Below w.heap.size w w') (first | assumption | exact below_drewN' (by assumption) _)
    (first
      | (go_at_call 136; refine (listIn_any b off Y.length c U N (some ⟨b8, off8, none⟩) m c6 _ (by have hb : Below w.heap.size w _ := (by first | assumption | exact below_drewN' (by assumption) _); exact (hb.cell (cell_lt HC6.out)).trans HC6.out) hu1 hp.1 hN (by omega) (by omega)).mono ?_; rintro en w1 ⟨rfl, b1⟩; have k1 : Below w.heap.size w w1 := below_then (by first | assumption | exact below_drewN' (by assumption) _) b1; clear b1)
      | fail)
  go_wp2_with fail
  go_ret
  exact ⟨ret_int HZX.out, by first | assumption | exact below_drewN' (by assumption) _⟩

set_option maxRecDepth 100000 in
set_option maxHeartbeats 2000000 in
theorem colouringAt_any (G n m N : Nat) (X : List (List (List Int))) (w : World) (hg : GoodX n m X) (ht : TownsAt G n 0 X w) (hN : N ≤ 1000000) :
    Calls Try.prog 78 #[.slice (some ⟨G, 0, none⟩) n n, .int .i64 (N : Int)] w fun e w' => ∃ v, e = .returned (.agg #[.int .i64 (n : Int), v]) ∧ TabIn w.heap.size w'.heap.size w' v (rowsF n (colX X n N) m) ∧ Below w.heap.size w w' := by
  have hmf : ∀ (fn : Fn) (first cap : Array Value) (w : World), (Instr.makeFunc fn first cap).run Try.prog w = .ok (.func fn first cap) w := fun _ _ _ _ => rfl
  have hn1 := hg.n1
  have hn7 := hg.n7
  have hm3 := hg.m3
  obtain ⟨W3, hW3⟩ : ∃ W3, W3 = ((w.alloc (.cells #[.slice (some ⟨G, 0, none⟩) n n] 92)).alloc (.cells #[.int .i64 (N : Int)] 2)).alloc (.cells #[.int .i64 0, .slice none 0 0] 33) := ⟨_, rfl⟩
  have B3 : Below w.heap.size w W3 := by rw [hW3]; go_grown
  have x0 : W3.cell? ⟨w.heap.size, 0, none⟩ = some (.slice (some ⟨G, 0, none⟩) n n) := by rw [hW3]; go_cell
  have x1 : W3.cell? ⟨w.heap.size + 1, 0, none⟩ = some (.int .i64 (N : Int)) := by rw [hW3]; go_cell
  have x2 : W3.heap[w.heap.size + 2]? = some (.cells #[.int .i64 0, .slice none 0 0] 33 (0, 0)) := by
    have := heap_alloc_new ((w.alloc (.cells #[.slice (some ⟨G, 0, none⟩) n n] 92)).alloc (.cells #[.int .i64 (N : Int)] 2)) (.cells #[.int .i64 0, .slice none 0 0] 33)
    rw [World.size_alloc, World.size_alloc, ← hW3] at this
    exact this
  have HG := Lib.hid hg
  have HT := Lib.hid (ht.below B3)
  -- the first list of the first town tells how many letters there are
  obtain ⟨A0, c0, e0, _, e2⟩ := HT.out.cells (Nat.zero_le _) (show 0 < n by omega)
  obtain ⟨hp, _⟩ := hg.some_ 0 (by omega)
  have hrow := hg.rows 0 (by omega)
  obtain ⟨Y, hY⟩ : ∃ Y, Y = X.getD 0 [] := ⟨_, rfl⟩
  rw [← hY] at e0 e2 hp hrow
  obtain ⟨l0, hl0⟩ : ∃ l, Y[0]? = some l := ⟨Y[0]'(by omega), List.getElem?_eq_getElem _⟩
  have hlm := hrow l0 (List.mem_of_getElem? hl0)
  obtain ⟨b, off, A6, c6, rfl, hc6, _⟩ := e2.2 0 l0 hl0
  rw [hlm, Nat.add_zero] at hc6
  rw [Nat.zero_mul] at e0
  have j0 : (0 : Int) < (n : Int) := by omega
  have j1 : (0 : Int) < (Y.length : Int) := by omega
  have HB3 := Lib.hid B3
  have X0 := Lib.hid x0
  have X1 := Lib.hid x1
  have X2 := Lib.hid x2
  have HW3 := Lib.hid hW3
  rw [hW3] at e0 hc6
  clear hg ht B3 x0 x1 x2 hW3 e2 hp hrow hY hl0 hlm
  go_enter Try.func78, Try.ntmps78
  go_wp2_with fail
  rw [← HW3.out]
  refine (buildAutomaton_any 135 #[.pointer (some ⟨w.heap.size, 0, none⟩), .pointer (some ⟨w.heap.size + 1, 0, none⟩)] n m (colX X n N) W3 (by omega) hm3 (fun _ _ => rfl) (fun x q hx hq W' hb => ?_)).mono ?_
  · exact colLead_any w.heap.size (w.heap.size + 1) G n m N x q X W' HG.out (HT.out.below hb) ((hb.cell (cell_lt X0.out)).trans X0.out) ((hb.cell (cell_lt X1.out)).trans X1.out) hx hq hN
  · rintro e w1 ⟨v, rfl, t1, b1⟩
    obtain ⟨A1, c1, rfl⟩ := t1.form
    have hx2 := (b1.block _ (block_lt X2.out)).trans X2.out
    obtain ⟨e0, e1, e2, e3⟩ := box2_cellsR hx2
    obtain ⟨g2, g3⟩ := box2_setR hx2 (.int .i64 (n : Int)) (.slice A1 (rowsF n (colX X n N) m).length c1)
    have HT1 := Lib.hid t1
    have HB := Lib.hid (below_then HB3.out b1)
    have hl := Lib.hid (block_lt X2.out)
    have hl0 := Lib.hid HB3.out.size
    clear t1 b1 hx2
    go_wp2_with fail
    refine bodyPost_ret (v := .agg #[.int .i64 (n : Int), .slice A1 (rowsF n (colX X n N) m).length c1]) (by simp [results, Try.results78, go_sem, g2, g3]) rfl ?_
    refine ⟨_, rfl, ?_, (HB.out.setCell (by simp; omega) _).setCell (by simp; omega) _⟩
    rw [set2_sizeR]
    exact (HT1.out.only (set2_onlyR _ _ _ _) (.inr hl.out)).wide hl0.out (Nat.le_refl _)

end Go.Proofs.Ytkhhemlfahdbnab
