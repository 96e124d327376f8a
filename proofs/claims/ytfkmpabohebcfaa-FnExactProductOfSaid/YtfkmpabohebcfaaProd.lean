/-
  The product of two automata: what it is, the contract of the program's closure, and of the program's ProductOf.
-/
import Derived.Test.YtfkmpabohebcfaaClosed
namespace Go.Proofs.Ytfkmpabohebcfaa
open Go.RowKit Go.Deep Go.ChangeShapes Go.WideShapes

/-- Where the letter x leads from the state q of the product, b with k states. -/
def prodF (xss yss : List (List Int)) (k x q : Nat) : Int := ((nx xss x (q / k) : Nat) : Int) * (k : Int) + ((nx yss x (q % k) : Nat) : Int)

theorem nx_lt' {n m : Nat} {xss : List (List Int)} (hg : Good n m xss) {x q : Nat} (hx : x < m) (hq : q < n) : nx xss x q < n := by
  obtain ⟨row, hrow⟩ : ∃ row, xss[x]? = some row := ⟨_, List.getElem?_eq_getElem (by rw [hg.letters]; exact hx)⟩
  exact (hg.next hrow hq).2

/-- What ProductOf answers. -/
noncomputable def productOf (s : Int) (xss : List (List Int)) (s' : Int) (yss : List (List Int)) : Int × List (List Int) × Int :=
  if okA s xss = true ∧ okA s' yss = true then (if xss.length = yss.length then (if s * s' ≤ 10 then (s * s', rowsF (s * s').toNat (prodF xss yss s'.toNat) xss.length, 0) else (0, [], 3)) else (0, [], 2)) else (0, [], 1)
theorem productOf_1 {s s' : Int} {xss yss : List (List Int)} (h : okA s xss = false) : productOf s xss s' yss = (0, [], 1) := by unfold productOf; rw [if_neg (by simp [h])]
theorem productOf_1' {s s' : Int} {xss yss : List (List Int)} (h : okA s' yss = false) : productOf s xss s' yss = (0, [], 1) := by unfold productOf; rw [if_neg (by simp [h])]
theorem productOf_2 {s s' : Int} {xss yss : List (List Int)} (h : okA s xss = true) (h' : okA s' yss = true) (hm : xss.length ≠ yss.length) : productOf s xss s' yss = (0, [], 2) := by unfold productOf; rw [if_pos ⟨h, h'⟩, if_neg hm]
theorem productOf_3 {s s' : Int} {xss yss : List (List Int)} (h : okA s xss = true) (h' : okA s' yss = true) (hm : xss.length = yss.length) (hb : ¬ s * s' ≤ 10) : productOf s xss s' yss = (0, [], 3) := by unfold productOf; rw [if_pos ⟨h, h'⟩, if_pos hm, if_neg hb]
theorem productOf_0 {n k m : Nat} {xss yss : List (List Int)} (h : okA (n : Int) xss = true) (h' : okA (k : Int) yss = true) (hx : xss.length = m) (hy : yss.length = m) (hb : n * k ≤ 10) : productOf (n : Int) xss (k : Int) yss = ((n : Int) * (k : Int), rowsF (n * k) (prodF xss yss k) m, 0) := by
  unfold productOf
  have e : ((n : Int) * (k : Int)) = ((n * k : Nat) : Int) := by rw [Int.natCast_mul]
  rw [if_pos ⟨h, h'⟩, if_pos (hx.trans hy.symm), e, if_pos (by omega), Int.toNat_natCast, Int.toNat_natCast, hx]
theorem productOf_len (s : Int) (xss : List (List Int)) (s' : Int) (yss : List (List Int)) : (productOf s xss s' yss).2.1.length ≤ 10 := by
  unfold productOf
  split
  · rename_i h
    obtain ⟨_, h2, _⟩ := okA_parts h.1
    split
    · split
      · rw [rowsF_len]; omega
      · simp
    · simp
  · simp
theorem productOf_sum (s : Int) (xss : List (List Int)) (s' : Int) (yss : List (List Int)) : sumLens (productOf s xss s' yss).2.1 ≤ 100 := by
  unfold productOf
  split
  · rename_i h
    obtain ⟨_, h2, _⟩ := okA_parts h.1
    split
    · split
      · show sumLens (rowsF _ _ _) ≤ 100
        rw [rowsF_sum]
        have : xss.length * (s * s').toNat ≤ 3 * 10 := Nat.mul_le_mul (by omega) (by omega)
        omega
      · simp [sumLens]
    · simp [sumLens]
  · simp [sumLens]

set_option maxRecDepth 100000 in
set_option maxHeartbeats 2000000 in
theorem prodLead_any (pa pn pb : Nat) (A A' : Option Addr) (n k m c c' x q : Nat) (xss yss : List (List Int)) (W : World) (hg : Good n m xss) (hg' : Good k m yss) (hR : RowsAt W A m xss) (hR' : RowsAt W A' m yss)
    (c1 : W.cell? ⟨pa, 1, none⟩ = some (.slice A m c)) (cn : W.cell? ⟨pn, 0, none⟩ = some (.int .i64 (k : Int))) (c1' : W.cell? ⟨pb, 1, none⟩ = some (.slice A' m c')) (hx : x < m) (hq : q < n * k) :
    Calls Try.prog 85 #[.int .i64 (x : Int), .int .i64 (q : Int), .pointer (some ⟨pa, 0, none⟩), .pointer (some ⟨pn, 0, none⟩), .pointer (some ⟨pb, 0, none⟩)] W fun e w' => e = .returned (.int .i64 (prodF xss yss k x q)) ∧ Below W.heap.size W w' := by
  have hk1 := hg'.n1
  have hk10 := hg'.n10
  have hn10 := hg.n10
  have hd : q / k < n := by rw [Nat.div_lt_iff_lt_mul (by omega)]; exact hq
  have hr : q % k < k := Nat.mod_lt _ (by omega)
  have hm3 := hg.m3
  have hq100 : q < 100 := Nat.lt_of_lt_of_le hq (Nat.mul_le_mul hn10 hk10)
  obtain ⟨b, off1, b2, off2, cr, rfl, hcr, hcells⟩ := row_base hg hR hx
  obtain ⟨b', off1', b2', off2', cr', rfl, hcr', hcells'⟩ := row_base hg' hR' hx
  have hct := hcells _ hd
  have hct' := hcells' _ hr
  have hv := nx_lt' hg hx hd
  have hv' := nx_lt' hg' hx hr
  obtain ⟨V, hV⟩ : ∃ V, V = nx xss x (q / k) := ⟨_, rfl⟩
  obtain ⟨V', hV'⟩ : ∃ V', V' = nx yss x (q % k) := ⟨_, rfl⟩
  have HE := Lib.hid (show prodF xss yss k x q = (V : Int) * (k : Int) + (V' : Int) by unfold prodF; rw [hV, hV'])
  rw [← hV] at hct hv
  rw [← hV'] at hct' hv'
  obtain ⟨D, hD⟩ : ∃ D, D = q / k := ⟨_, rfl⟩
  obtain ⟨R, hRR⟩ : ∃ R, R = q % k := ⟨_, rfl⟩
  have hdiv : (q : Int).tdiv (k : Int) = (D : Int) := by rw [hD, Int.tdiv_eq_ediv_of_nonneg (by omega), Int.natCast_ediv]
  have hmod : (q : Int).tmod (k : Int) = (R : Int) := by rw [hRR, Int.tmod_eq_emod_of_nonneg (by omega), Int.natCast_emod]
  have hdiv' : (q : Int) / (k : Int) = (D : Int) := by rw [hD, Int.natCast_ediv]
  have hmod' : (q : Int) % (k : Int) = (R : Int) := by rw [hRR, Int.natCast_emod]
  rw [← hD] at hct hd
  rw [← hRR] at hct' hr
  have hne : ((k : Int) == 0) = false := by rw [beq_eq_false_iff_ne]; omega
  have i1 : (0 : Int) ≤ (x : Int) := by omega
  have i2 : (x : Int) < (m : Int) := by omega
  have i3 : (0 : Int) ≤ (D : Int) := by omega
  have i4 : (D : Int) < (n : Int) := by omega
  have i5 : (0 : Int) ≤ (R : Int) := by omega
  have i6 : (R : Int) < (k : Int) := by omega
  have hmul : (V : Int) * (k : Int) ≤ 100 := by
    have : V * k ≤ 10 * 10 := Nat.mul_le_mul (by omega) hk10
    rw [← Int.natCast_mul]; omega
  have hmul0 : (0 : Int) ≤ (V : Int) * (k : Int) := by rw [← Int.natCast_mul]; omega
  clear hcells hcells' hV hV' hD hRR hR hR' hg hg' hq
  go_enter Try.func85, Try.ntmps85
  go_wp2_with fail
  go_quiet (fail)
  go_wp2_with fail
  go_ret
  exact ⟨ret_int HE.out.symm, below_drewN' (Below.refl _ _) _⟩

set_option maxRecDepth 100000 in
set_option maxHeartbeats 4000000 in
theorem implProductOf_any (s : Int) (A : Option Addr) (m cap : Nat) (xss : List (List Int)) (s' : Int) (A' : Option Addr) (m' cap' : Nat) (yss : List (List Int)) (w : World) (h : RowsAt w A m xss) (hm : m ≤ 4611686018427387904)
    (hrows : ∀ (r : Nat) (xs : List Int), xss[r]? = some xs → xs.length ≤ 4611686018427387904) (h' : RowsAt w A' m' yss) (hm' : m' ≤ 4611686018427387904)
    (hrows' : ∀ (r : Nat) (xs : List Int), yss[r]? = some xs → xs.length ≤ 4611686018427387904) :
    Calls Try.prog 39 #[.agg #[.int .i64 s, .slice A m cap], .agg #[.int .i64 s', .slice A' m' cap']] w (AutosTo (productOf s xss s' yss) w) := by
  have hmf : ∀ (fn : Fn) (first cap : Array Value) (w : World), (Instr.makeFunc fn first cap).run Try.prog w = .ok (.func fn first cap) w := fun _ _ _ _ => rfl
  have HR := Lib.hid hrows
  have HR' := Lib.hid hrows'
  have HM := Lib.hid h.1
  have HM' := Lib.hid h'.1
  obtain ⟨W2, hW2⟩ : ∃ W2, W2 = ((w.alloc (.cells #[.int .i64 s, .slice A m cap] 29)).alloc (.cells #[.int .i64 s', .slice A' m' cap'] 29)).alloc (.cells #[.int .i64 0, .slice none 0 0] 29) := ⟨_, rfl⟩
  have b2 : Below w.heap.size w W2 := by rw [hW2]; go_grown
  have x0 : W2.cell? ⟨w.heap.size, 0, none⟩ = some (.int .i64 s) := by rw [hW2]; go_cell
  have x1 : W2.cell? ⟨w.heap.size, 1, none⟩ = some (.slice A m cap) := by rw [hW2]; go_cell
  have y0 : W2.cell? ⟨w.heap.size + 1, 0, none⟩ = some (.int .i64 s') := by rw [hW2]; go_cell
  have y1 : W2.cell? ⟨w.heap.size + 1, 1, none⟩ = some (.slice A' m' cap') := by rw [hW2]; go_cell
  have xr : W2.heap[w.heap.size + 2]? = some (.cells #[.int .i64 0, .slice none 0 0] 29 (0, 0)) := by
    have := heap_alloc_new ((w.alloc (.cells #[.int .i64 s, .slice A m cap] 29)).alloc (.cells #[.int .i64 s', .slice A' m' cap'] 29)) (.cells #[.int .i64 0, .slice none 0 0] 29)
    rw [World.size_alloc, World.size_alloc, ← hW2] at this
    exact this
  have B2 := Lib.hid b2
  have H2 := Lib.hid (h.below b2)
  have H2' := Lib.hid (h'.below b2)
  have X0 := Lib.hid x0
  have X1 := Lib.hid x1
  have Y0 := Lib.hid y0
  have Y1 := Lib.hid y1
  have XR := Lib.hid xr
  have HW2 := Lib.hid hW2
  clear hrows hrows' b2 x0 x1 y0 y1 xr hW2
  rcases hok : okA s xss with _ | _
  · have HF := Lib.hid (productOf_1 (s' := s') (yss := yss) hok)
    have x0 := X0.out
    have x1 := X1.out
    have y0 := Y0.out
    have y1 := Y1.out
    rw [HW2.out] at x0 x1 y0 y1
    go_enter Try.func39, Try.ntmps39
    go_wp2_with fail
    rw [← HW2.out]
    refine (implValid_any s A m cap xss _ H2.out hm HR.out).mono ?_
    rw [hok]
    rintro e w1 ⟨rfl, b1⟩
    clear x0 x1 y0 y1
    have d0 : w1.cell? ⟨w.heap.size, 0, none⟩ = some (.int .i64 s) := (b1.cell (cell_lt X0.out)).trans X0.out
    have d1 : w1.cell? ⟨w.heap.size, 1, none⟩ = some (.slice A m cap) := (b1.cell (cell_lt X1.out)).trans X1.out
    have f0 : w1.cell? ⟨w.heap.size + 1, 0, none⟩ = some (.int .i64 s') := (b1.cell (cell_lt Y0.out)).trans Y0.out
    have f1 : w1.cell? ⟨w.heap.size + 1, 1, none⟩ = some (.slice A' m' cap') := (b1.cell (cell_lt Y1.out)).trans Y1.out
    have xr := (b1.block _ (block_lt XR.out)).trans XR.out
    obtain ⟨e0, e1, e2, e3⟩ := box2_cells xr
    have BB := Lib.hid (below_then B2.out b1)
    obtain ⟨g2, g3⟩ := box2_set xr (.int .i64 0) (.slice none 0 0)
    clear xr
    go_wp2_with fail
    refine bodyPost_ret (v := .tuple #[.agg #[.int .i64 0, .slice none 0 0], .int .i64 1]) (by simp [results, Try.results39, go_sem, g2, g3]) rfl ?_
    exact autosTo_mk HF.out (tab_nil _ _ _) ((BB.out.setCell (by simp; try omega) _).setCell (by simp; try omega) _)
  · rcases hok' : okA s' yss with _ | _
    · have HF := Lib.hid (productOf_1' (s := s) (xss := xss) hok')
      have x0 := X0.out
      have x1 := X1.out
      have y0 := Y0.out
      have y1 := Y1.out
      rw [HW2.out] at x0 x1 y0 y1
      go_enter Try.func39, Try.ntmps39
      go_wp2_with fail
      rw [← HW2.out]
      refine (implValid_any s A m cap xss _ H2.out hm HR.out).mono ?_
      rw [hok]
      rintro e w1 ⟨rfl, b1⟩
      clear x0 x1 y0 y1
      have d0 : w1.cell? ⟨w.heap.size, 0, none⟩ = some (.int .i64 s) := (b1.cell (cell_lt X0.out)).trans X0.out
      have d1 : w1.cell? ⟨w.heap.size, 1, none⟩ = some (.slice A m cap) := (b1.cell (cell_lt X1.out)).trans X1.out
      have f0 : w1.cell? ⟨w.heap.size + 1, 0, none⟩ = some (.int .i64 s') := (b1.cell (cell_lt Y0.out)).trans Y0.out
      have f1 : w1.cell? ⟨w.heap.size + 1, 1, none⟩ = some (.slice A' m' cap') := (b1.cell (cell_lt Y1.out)).trans Y1.out
      have xr := (b1.block _ (block_lt XR.out)).trans XR.out
      obtain ⟨e0, e1, e2, e3⟩ := box2_cells xr
      have BB := Lib.hid (below_then B2.out b1)
      clear xr
      have H1' := Lib.hid (H2'.out.below b1)
      go_wp2_with fail
      refine (implValid_any s' A' m' cap' yss _ H1'.out hm' HR'.out).mono ?_
      rw [hok']
      rintro e w2 ⟨rfl, b2⟩
      have b12 := below_then b1 b2
      clear d0 d1 f0 f1 e0 e1 e2 e3 BB b1 b2
      have d0 : w2.cell? ⟨w.heap.size, 0, none⟩ = some (.int .i64 s) := (b12.cell (cell_lt X0.out)).trans X0.out
      have d1 : w2.cell? ⟨w.heap.size, 1, none⟩ = some (.slice A m cap) := (b12.cell (cell_lt X1.out)).trans X1.out
      have f0 : w2.cell? ⟨w.heap.size + 1, 0, none⟩ = some (.int .i64 s') := (b12.cell (cell_lt Y0.out)).trans Y0.out
      have f1 : w2.cell? ⟨w.heap.size + 1, 1, none⟩ = some (.slice A' m' cap') := (b12.cell (cell_lt Y1.out)).trans Y1.out
      have xr := (b12.block _ (block_lt XR.out)).trans XR.out
      obtain ⟨e0, e1, e2, e3⟩ := box2_cells xr
      have BB := Lib.hid (below_then B2.out b12)
      obtain ⟨g2, g3⟩ := box2_set xr (.int .i64 0) (.slice none 0 0)
      clear xr
      go_wp2_with fail
      refine bodyPost_ret (v := .tuple #[.agg #[.int .i64 0, .slice none 0 0], .int .i64 1]) (by simp [results, Try.results39, go_sem, g2, g3]) rfl ?_
      exact autosTo_mk HF.out (tab_nil _ _ _) ((BB.out.setCell (by simp; try omega) _).setCell (by simp; try omega) _)
    · obtain ⟨n, hsn, hg⟩ := good_of hok HM.out
      obtain ⟨k, hsk, hg'⟩ := good_of hok' HM'.out
      subst hsn
      subst hsk
      have hn10 : n ≤ 10 := hg.n10
      have hk10 : k ≤ 10 := hg'.n10
      have hm3 : m ≤ 3 := hg.m3
      have hm3' : m' ≤ 3 := hg'.m3
      have HG := Lib.hid hg
      have HG' := Lib.hid hg'
      clear hg hg'
      by_cases hmm : m = m'
      · subst hmm
        obtain ⟨P, hP⟩ : ∃ P, P = n * k := ⟨_, rfl⟩
        have hPi : (n : Int) * (k : Int) = (P : Int) := by rw [hP, Int.natCast_mul]
        have hP100 : P ≤ 100 := by rw [hP]; exact Nat.mul_le_mul hn10 hk10
        have hz : ((m : Int) != (m : Int)) = false := by rw [bne_eq_false_iff_eq]
        by_cases hp10 : P ≤ 10
        · have HF := Lib.hid (productOf_0 hok hok' HM.out HM'.out (by omega))
          rw [hPi, ← hP] at HF
          have HP := Lib.hid hP
          clear hP
          have x0 := X0.out
          have x1 := X1.out
          have y0 := Y0.out
          have y1 := Y1.out
          rw [HW2.out] at x0 x1 y0 y1
          go_enter Try.func39, Try.ntmps39
          go_wp2_with fail
          rw [← HW2.out]
          refine (implValid_any (n : Int) A m cap xss _ H2.out hm HR.out).mono ?_
          rw [hok]
          rintro e w1 ⟨rfl, b1⟩
          clear x0 x1 y0 y1
          have d0 : w1.cell? ⟨w.heap.size, 0, none⟩ = some (.int .i64 (n : Int)) := (b1.cell (cell_lt X0.out)).trans X0.out
          have d1 : w1.cell? ⟨w.heap.size, 1, none⟩ = some (.slice A m cap) := (b1.cell (cell_lt X1.out)).trans X1.out
          have f0 : w1.cell? ⟨w.heap.size + 1, 0, none⟩ = some (.int .i64 (k : Int)) := (b1.cell (cell_lt Y0.out)).trans Y0.out
          have f1 : w1.cell? ⟨w.heap.size + 1, 1, none⟩ = some (.slice A' m cap') := (b1.cell (cell_lt Y1.out)).trans Y1.out
          have xr := (b1.block _ (block_lt XR.out)).trans XR.out
          obtain ⟨e0, e1, e2, e3⟩ := box2_cells xr
          have BB := Lib.hid (below_then B2.out b1)
          clear xr
          have H1' := Lib.hid (H2'.out.below b1)
          go_wp2_with fail
          refine (implValid_any (k : Int) A' m cap' yss _ H1'.out hm HR'.out).mono ?_
          rw [hok']
          rintro e w2 ⟨rfl, b2⟩
          have b12 := below_then b1 b2
          clear d0 d1 f0 f1 e0 e1 e2 e3 BB b1 b2
          have d0 : w2.cell? ⟨w.heap.size, 0, none⟩ = some (.int .i64 (n : Int)) := (b12.cell (cell_lt X0.out)).trans X0.out
          have d1 : w2.cell? ⟨w.heap.size, 1, none⟩ = some (.slice A m cap) := (b12.cell (cell_lt X1.out)).trans X1.out
          have f0 : w2.cell? ⟨w.heap.size + 1, 0, none⟩ = some (.int .i64 (k : Int)) := (b12.cell (cell_lt Y0.out)).trans Y0.out
          have f1 : w2.cell? ⟨w.heap.size + 1, 1, none⟩ = some (.slice A' m cap') := (b12.cell (cell_lt Y1.out)).trans Y1.out
          have xr := (b12.block _ (block_lt XR.out)).trans XR.out
          obtain ⟨e0, e1, e2, e3⟩ := box2_cells xr
          have BB := Lib.hid (below_then B2.out b12)
          clear xr e0 e1 e2 e3 BB
          have b13 := below_then b12 (show Below w2.heap.size w2 (w2.alloc (.cells #[.int .i64 (k : Int)] 2)) from (Below.refl _ _).alloc (Nat.le_refl _) _)
          have q0 : (w2.alloc (.cells #[.int .i64 (k : Int)] 2)).cell? ⟨w.heap.size, 0, none⟩ = some (.int .i64 (n : Int)) := (b13.cell (cell_lt X0.out)).trans X0.out
          have q1 : (w2.alloc (.cells #[.int .i64 (k : Int)] 2)).cell? ⟨w.heap.size, 1, none⟩ = some (.slice A m cap) := (b13.cell (cell_lt X1.out)).trans X1.out
          have r0 : (w2.alloc (.cells #[.int .i64 (k : Int)] 2)).cell? ⟨w.heap.size + 1, 0, none⟩ = some (.int .i64 (k : Int)) := (b13.cell (cell_lt Y0.out)).trans Y0.out
          have r1 : (w2.alloc (.cells #[.int .i64 (k : Int)] 2)).cell? ⟨w.heap.size + 1, 1, none⟩ = some (.slice A' m cap') := (b13.cell (cell_lt Y1.out)).trans Y1.out
          have xr := (b13.block _ (block_lt XR.out)).trans XR.out
          obtain ⟨e0, e1, e2, e3⟩ := box2_cells xr
          have BB := Lib.hid (below_then B2.out b13)
          have QN := Lib.hid (show (w2.alloc (.cells #[.int .i64 (k : Int)] 2)).cell? ⟨w2.heap.size, 0, none⟩ = some (.int .i64 (k : Int)) by go_cell)
          have Q1 := Lib.hid q1
          have R1 := Lib.hid r1
          have XR3 := Lib.hid xr
          have H3 := Lib.hid (H2.out.below b13)
          have H3' := Lib.hid (H2'.out.below b13)
          have hpi : (P : Int) ≤ 10 := by omega
          clear xr e0 e1 e2 e3
          go_wp2_with fail
          refine (buildAutomaton_any 85 #[.pointer (some ⟨w.heap.size, 0, none⟩), .pointer (some ⟨w2.heap.size, 0, none⟩), .pointer (some ⟨w.heap.size + 1, 0, none⟩)] P m (prodF xss yss k) _ hp10 hm3 (fun _ _ => rfl) (fun x q hx hq W' hb => prodLead_any w.heap.size w2.heap.size (w.heap.size + 1) A A' n k m cap cap' x q xss yss W' HG.out HG'.out (H3.out.below hb) (H3'.out.below hb) ((hb.cell (cell_lt Q1.out)).trans Q1.out) ((hb.cell (cell_lt QN.out)).trans QN.out) ((hb.cell (cell_lt R1.out)).trans R1.out) hx (by rw [← HP.out]; exact hq))).mono ?_
          rintro e w4 ⟨v, rfl, t4, b4⟩
          obtain ⟨V4, c4, rfl⟩ := t4.form
          have xr := (b4.block _ (block_lt XR3.out)).trans XR3.out
          obtain ⟨e0, e1, e2, e3⟩ := box2_cells xr
          obtain ⟨g2, g3⟩ := box2_set xr (.int .i64 (P : Int)) (.slice V4 (rowsF P (prodF xss yss k) m).length c4)
          have T4 := Lib.hid t4
          have B4 := Lib.hid (below_then BB.out b4)
          have hl3 := Lib.hid (block_lt XR3.out)
          have hl0 := Lib.hid BB.out.size
          clear t4 b4 xr
          go_wp2_with fail
          refine bodyPost_ret (v := .tuple #[.agg #[.int .i64 (P : Int), .slice V4 (rowsF P (prodF xss yss k) m).length c4], .int .i64 0]) (by simp [results, Try.results39, go_sem, g2, g3]) rfl ?_
          refine autosTo_mk HF.out ?_ ((B4.out.setCell (by simp; try omega) _).setCell (by simp; try omega) _)
          rw [set2_size]
          exact (T4.out.only (set2_only _ _ _ _) (.inr hl3.out)).wide hl0.out (Nat.le_refl _)
        · have HF := Lib.hid (productOf_3 hok hok' (HM.out.trans HM'.out.symm) (by rw [hPi]; omega))
          have hpi : (10 : Int) < (P : Int) := by omega
          clear hP hp10
          have x0 := X0.out
          have x1 := X1.out
          have y0 := Y0.out
          have y1 := Y1.out
          rw [HW2.out] at x0 x1 y0 y1
          go_enter Try.func39, Try.ntmps39
          go_wp2_with fail
          rw [← HW2.out]
          refine (implValid_any (n : Int) A m cap xss _ H2.out hm HR.out).mono ?_
          rw [hok]
          rintro e w1 ⟨rfl, b1⟩
          clear x0 x1 y0 y1
          have d0 : w1.cell? ⟨w.heap.size, 0, none⟩ = some (.int .i64 (n : Int)) := (b1.cell (cell_lt X0.out)).trans X0.out
          have d1 : w1.cell? ⟨w.heap.size, 1, none⟩ = some (.slice A m cap) := (b1.cell (cell_lt X1.out)).trans X1.out
          have f0 : w1.cell? ⟨w.heap.size + 1, 0, none⟩ = some (.int .i64 (k : Int)) := (b1.cell (cell_lt Y0.out)).trans Y0.out
          have f1 : w1.cell? ⟨w.heap.size + 1, 1, none⟩ = some (.slice A' m cap') := (b1.cell (cell_lt Y1.out)).trans Y1.out
          have xr := (b1.block _ (block_lt XR.out)).trans XR.out
          obtain ⟨e0, e1, e2, e3⟩ := box2_cells xr
          have BB := Lib.hid (below_then B2.out b1)
          clear xr
          have H1' := Lib.hid (H2'.out.below b1)
          go_wp2_with fail
          refine (implValid_any (k : Int) A' m cap' yss _ H1'.out hm HR'.out).mono ?_
          rw [hok']
          rintro e w2 ⟨rfl, b2⟩
          have b12 := below_then b1 b2
          clear d0 d1 f0 f1 e0 e1 e2 e3 BB b1 b2
          have d0 : w2.cell? ⟨w.heap.size, 0, none⟩ = some (.int .i64 (n : Int)) := (b12.cell (cell_lt X0.out)).trans X0.out
          have d1 : w2.cell? ⟨w.heap.size, 1, none⟩ = some (.slice A m cap) := (b12.cell (cell_lt X1.out)).trans X1.out
          have f0 : w2.cell? ⟨w.heap.size + 1, 0, none⟩ = some (.int .i64 (k : Int)) := (b12.cell (cell_lt Y0.out)).trans Y0.out
          have f1 : w2.cell? ⟨w.heap.size + 1, 1, none⟩ = some (.slice A' m cap') := (b12.cell (cell_lt Y1.out)).trans Y1.out
          have xr := (b12.block _ (block_lt XR.out)).trans XR.out
          obtain ⟨e0, e1, e2, e3⟩ := box2_cells xr
          have BB := Lib.hid (below_then B2.out b12)
          clear xr e0 e1 e2 e3 BB
          have b13 := below_then b12 (show Below w2.heap.size w2 (w2.alloc (.cells #[.int .i64 (k : Int)] 2)) from (Below.refl _ _).alloc (Nat.le_refl _) _)
          have q0 : (w2.alloc (.cells #[.int .i64 (k : Int)] 2)).cell? ⟨w.heap.size, 0, none⟩ = some (.int .i64 (n : Int)) := (b13.cell (cell_lt X0.out)).trans X0.out
          have q1 : (w2.alloc (.cells #[.int .i64 (k : Int)] 2)).cell? ⟨w.heap.size, 1, none⟩ = some (.slice A m cap) := (b13.cell (cell_lt X1.out)).trans X1.out
          have r0 : (w2.alloc (.cells #[.int .i64 (k : Int)] 2)).cell? ⟨w.heap.size + 1, 0, none⟩ = some (.int .i64 (k : Int)) := (b13.cell (cell_lt Y0.out)).trans Y0.out
          have r1 : (w2.alloc (.cells #[.int .i64 (k : Int)] 2)).cell? ⟨w.heap.size + 1, 1, none⟩ = some (.slice A' m cap') := (b13.cell (cell_lt Y1.out)).trans Y1.out
          have xr := (b13.block _ (block_lt XR.out)).trans XR.out
          obtain ⟨e0, e1, e2, e3⟩ := box2_cells xr
          have BB := Lib.hid (below_then B2.out b13)
          obtain ⟨g2, g3⟩ := box2_set xr (.int .i64 0) (.slice none 0 0)
          clear xr
          go_wp2_with fail
          refine bodyPost_ret (v := .tuple #[.agg #[.int .i64 0, .slice none 0 0], .int .i64 3]) (by simp [results, Try.results39, go_sem, g2, g3]) rfl ?_
          exact autosTo_mk HF.out (tab_nil _ _ _) ((BB.out.setCell (by simp; try omega) _).setCell (by simp; try omega) _)
      · have HF := Lib.hid (productOf_2 hok hok' (by rw [HM.out, HM'.out]; exact hmm))
        have hz : ((m : Int) != (m' : Int)) = true := by rw [bne_iff_ne]; omega
        clear hmm
        have x0 := X0.out
        have x1 := X1.out
        have y0 := Y0.out
        have y1 := Y1.out
        rw [HW2.out] at x0 x1 y0 y1
        go_enter Try.func39, Try.ntmps39
        go_wp2_with fail
        rw [← HW2.out]
        refine (implValid_any (n : Int) A m cap xss _ H2.out hm HR.out).mono ?_
        rw [hok]
        rintro e w1 ⟨rfl, b1⟩
        clear x0 x1 y0 y1
        have d0 : w1.cell? ⟨w.heap.size, 0, none⟩ = some (.int .i64 (n : Int)) := (b1.cell (cell_lt X0.out)).trans X0.out
        have d1 : w1.cell? ⟨w.heap.size, 1, none⟩ = some (.slice A m cap) := (b1.cell (cell_lt X1.out)).trans X1.out
        have f0 : w1.cell? ⟨w.heap.size + 1, 0, none⟩ = some (.int .i64 (k : Int)) := (b1.cell (cell_lt Y0.out)).trans Y0.out
        have f1 : w1.cell? ⟨w.heap.size + 1, 1, none⟩ = some (.slice A' m' cap') := (b1.cell (cell_lt Y1.out)).trans Y1.out
        have xr := (b1.block _ (block_lt XR.out)).trans XR.out
        obtain ⟨e0, e1, e2, e3⟩ := box2_cells xr
        have BB := Lib.hid (below_then B2.out b1)
        clear xr
        have H1' := Lib.hid (H2'.out.below b1)
        go_wp2_with fail
        refine (implValid_any (k : Int) A' m' cap' yss _ H1'.out hm' HR'.out).mono ?_
        rw [hok']
        rintro e w2 ⟨rfl, b2⟩
        have b12 := below_then b1 b2
        clear d0 d1 f0 f1 e0 e1 e2 e3 BB b1 b2
        have d0 : w2.cell? ⟨w.heap.size, 0, none⟩ = some (.int .i64 (n : Int)) := (b12.cell (cell_lt X0.out)).trans X0.out
        have d1 : w2.cell? ⟨w.heap.size, 1, none⟩ = some (.slice A m cap) := (b12.cell (cell_lt X1.out)).trans X1.out
        have f0 : w2.cell? ⟨w.heap.size + 1, 0, none⟩ = some (.int .i64 (k : Int)) := (b12.cell (cell_lt Y0.out)).trans Y0.out
        have f1 : w2.cell? ⟨w.heap.size + 1, 1, none⟩ = some (.slice A' m' cap') := (b12.cell (cell_lt Y1.out)).trans Y1.out
        have xr := (b12.block _ (block_lt XR.out)).trans XR.out
        obtain ⟨e0, e1, e2, e3⟩ := box2_cells xr
        have BB := Lib.hid (below_then B2.out b12)
        obtain ⟨g2, g3⟩ := box2_set xr (.int .i64 0) (.slice none 0 0)
        clear xr
        go_wp2_with fail
        refine bodyPost_ret (v := .tuple #[.agg #[.int .i64 0, .slice none 0 0], .int .i64 2]) (by simp [results, Try.results39, go_sem, g2, g3]) rfl ?_
        exact autosTo_mk HF.out (tab_nil _ _ _) ((BB.out.setCell (by simp; try omega) _).setCell (by simp; try omega) _)

end Go.Proofs.Ytfkmpabohebcfaa
