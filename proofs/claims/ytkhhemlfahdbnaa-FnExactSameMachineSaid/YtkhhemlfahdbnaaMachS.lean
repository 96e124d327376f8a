/-
  Equal machines: the contracts of l06SameRows and of both SameMachine.
-/
import Derived.Test.YtkhhemlfahdbnaaMachV
import Derived.Test.YtkhhemlfahdbnaaSame
import Derived.Deep.RegionLaw
namespace Go.Proofs.Ytkhhemlfahdbnaa
open Go.RowKit Go.Deep Go.ChangeShapes Go.WideShapes

set_option maxHeartbeats 1000000 in
theorem l06SameRows_any (A A' : Option Addr) (n n' cap cap' : Nat) (xss yss : List (List Int)) (w : World) (h : RowsAt w A n xss) (h' : RowsAt w A' n' yss) (hn : n ≤ 4611686018427387904) (hn' : n' ≤ 4611686018427387904)
    (hrows : ∀ (r : Nat) (xs : List Int), xss[r]? = some xs → xs.length ≤ 4611686018427387904) (hrows' : ∀ (r : Nat) (xs : List Int), yss[r]? = some xs → xs.length ≤ 4611686018427387904) :
    Calls Try.prog 45 #[.slice A n cap, .slice A' n' cap'] w fun e w' => e = .returned (.bool (sameR xss yss)) ∧ ∃ m, w' = w.drewN m := by
  have HR := Lib.hid hrows
  have HR' := Lib.hid hrows'
  clear hrows hrows'
  by_cases hnn : n = n'
  · subst hnn
    go_enter Try.func45, Try.ntmps45
    go_wp2
    go_loopw [5] (fun i wr => ∃ k m : Nat, k ≤ n ∧ i = .int .i64 k ∧ wr = w.drewN m ∧ xss.take k = yss.take k) (fun i _ => n - (intOf i).toNat)
    case atStart => exact ⟨0, 0, Nat.zero_le _, rfl, rfl, by simp⟩
    case round =>
      obtain ⟨k, m, hk, rfl, hw, htake⟩ := hrel
      have HT := Lib.hid htake
      have HW := Lib.hid hw
      have h1 : RowsAt wr A n xss := by rw [hw]; exact h.drewN m
      have h2 : RowsAt wr A' n yss := by rw [hw]; exact h'.drewN m
      clear htake hw
      by_cases hlt : k < n
      · obtain ⟨xs, b, off, A1, c1, hx, rfl, hc, hnum⟩ := h1.at_ hlt
        obtain ⟨ys, b', off', A2, c2, hy, rfl, hc', hnum'⟩ := h2.at_ hlt
        have HX := Lib.hid hx
        have HY := Lib.hid hy
        have HN := Lib.hid hnum
        have HN' := Lib.hid hnum'
        have hk0 : (0 : Int) ≤ (k : Int) := by omega
        have hkn : (k : Int) < (n : Int) := by omega
        clear hx hy hnum hnum' h1 h2
        by_cases hxy : xs = ys
        · have hs : sameB xs ys = true := sameB_t hxy
          have HXY := Lib.hid hxy
          clear hxy
          go_wp2_with fail
          go_quiet ((go_at_call 79; exact Calls.quiet_of (l00Same_any _ _ _ _ _ _ _ _ _ (HN.out.drewN _) (HN'.out.drewN _) (HR.out _ _ HX.out) (HR'.out _ _ HY.out))))
          go_wp2_with fail
          go_roundw
          case rel => exact ⟨k + 1, _, by omega, by go_num, by rw [HW.out, World.drewN_drewN], rows_snoc HT.out HX.out HY.out HXY.out⟩
          case measure => simp [intOf]; omega
        · have hs : sameB xs ys = false := sameB_f hxy
          have HXY := Lib.hid hxy
          clear hxy
          go_wp2_with fail
          go_quiet ((go_at_call 79; exact Calls.quiet_of (l00Same_any _ _ _ _ _ _ _ _ _ (HN.out.drewN _) (HN'.out.drewN _) (HR.out _ _ HX.out) (HR'.out _ _ HY.out))))
          go_wp2_with fail
          go_ret
          exact ⟨ret_bool (sameR_f (rows_stop HX.out HY.out HXY.out)).symm, _, by rw [HW.out, World.drewN_drewN]⟩
      · go_wp2
        go_ret
        have hkn : k = n := by omega
        subst hkn
        have ht := HT.out
        rw [List.take_of_length_le (Nat.le_of_eq h.1), List.take_of_length_le (Nat.le_of_eq h'.1)] at ht
        exact ⟨ret_bool (sameR_t ht).symm, _, HW.out⟩
  · have hne : ((n : Int) != (n' : Int)) = true := by rw [bne_iff_ne]; omega
    go_enter Try.func45, Try.ntmps45
    go_wp2
    go_ret
    exact ⟨ret_bool (sameR_f (by rintro rfl; exact hnn (h.1.symm.trans h'.1))).symm, 0, rfl⟩

/-- What SameMachine answers. -/
def sameMachine (s q : Int) (xss yss : List (List Int)) (s' q' : Int) (xss' yss' : List (List Int)) : Bool := decide (s = s') && (decide (q = q') && (sameR xss xss' && sameR yss yss'))
theorem sameM_of {s q s' q' : Int} {xss yss xss' yss' : List (List Int)} (h : s = s') (h' : q = q') : sameMachine s q xss yss s' q' xss' yss' = (sameR xss xss' && sameR yss yss') := by simp [sameMachine, h, h']
theorem sameM_1 {s q s' q' : Int} {xss yss xss' yss' : List (List Int)} (h : ¬ s = s') : sameMachine s q xss yss s' q' xss' yss' = false := by simp [sameMachine, h]
theorem sameM_2 {s q s' q' : Int} {xss yss xss' yss' : List (List Int)} (h : ¬ q = q') : sameMachine s q xss yss s' q' xss' yss' = false := by simp [sameMachine, h]
theorem sameM_3 {s q s' q' : Int} {xss yss xss' yss' : List (List Int)} (h : sameR xss xss' = false) : sameMachine s q xss yss s' q' xss' yss' = false := by simp [sameMachine, h]
theorem sameM_4 {s q s' q' : Int} {xss yss xss' yss' : List (List Int)} (h : s = s') (h' : q = q') (h2 : sameR xss xss' = true) {b : Bool} (h3 : sameR yss yss' = b) : sameMachine s q xss yss s' q' xss' yss' = b := by simp [sameMachine, h, h', h2, h3]

set_option maxRecDepth 100000 in
set_option maxHeartbeats 2000000 in
theorem specSameMachine_any (s q : Int) (A : Option Addr) (n c : Nat) (xss : List (List Int)) (B : Option Addr) (m d : Nat) (yss : List (List Int)) (s' q' : Int) (A' : Option Addr) (n' c' : Nat) (xss' : List (List Int)) (B' : Option Addr) (m' d' : Nat) (yss' : List (List Int)) (w : World)
    (h : RowsAt w A n xss) (hn : n ≤ 4611686018427387904) (hrows : ∀ (r : Nat) (xs : List Int), xss[r]? = some xs → xs.length ≤ 4611686018427387904) (g : RowsAt w B m yss) (hm : m ≤ 4611686018427387904) (houts : ∀ (r : Nat) (xs : List Int), yss[r]? = some xs → xs.length ≤ 4611686018427387904)
    (h' : RowsAt w A' n' xss') (hn' : n' ≤ 4611686018427387904) (hrows' : ∀ (r : Nat) (xs : List Int), xss'[r]? = some xs → xs.length ≤ 4611686018427387904) (g' : RowsAt w B' m' yss') (hm' : m' ≤ 4611686018427387904) (houts' : ∀ (r : Nat) (xs : List Int), yss'[r]? = some xs → xs.length ≤ 4611686018427387904) :
    Calls Try.prog 15 #[.agg #[.int .i64 s, .int .i64 q, .slice A n c, .slice B m d], .agg #[.int .i64 s', .int .i64 q', .slice A' n' c', .slice B' m' d']] w fun e w' => e = .returned (.bool (sameMachine s q xss yss s' q' xss' yss')) ∧ Below w.heap.size w w' := by
  have HR := Lib.hid hrows
  have HO := Lib.hid houts
  have HR' := Lib.hid hrows'
  have HO' := Lib.hid houts'
  obtain ⟨w0, hw0⟩ : ∃ w0, w0 = (w.alloc (.cells #[.int .i64 s, .int .i64 q, .slice A n c, .slice B m d] 27)).alloc (.cells #[.int .i64 s', .int .i64 q', .slice A' n' c', .slice B' m' d'] 27) := ⟨_, rfl⟩
  have b0 : Below w.heap.size w w0 := by rw [hw0]; go_grown
  have x0 : w0.cell? ⟨w.heap.size, 0, none⟩ = some (.int .i64 s) := by rw [hw0]; go_cell
  have x1 : w0.cell? ⟨w.heap.size, 1, none⟩ = some (.int .i64 q) := by rw [hw0]; go_cell
  have x2 : w0.cell? ⟨w.heap.size, 2, none⟩ = some (.slice A n c) := by rw [hw0]; go_cell
  have x3 : w0.cell? ⟨w.heap.size, 3, none⟩ = some (.slice B m d) := by rw [hw0]; go_cell
  have y0 : w0.cell? ⟨w.heap.size + 1, 0, none⟩ = some (.int .i64 s') := by rw [hw0]; go_cell
  have y1 : w0.cell? ⟨w.heap.size + 1, 1, none⟩ = some (.int .i64 q') := by rw [hw0]; go_cell
  have y2 : w0.cell? ⟨w.heap.size + 1, 2, none⟩ = some (.slice A' n' c') := by rw [hw0]; go_cell
  have y3 : w0.cell? ⟨w.heap.size + 1, 3, none⟩ = some (.slice B' m' d') := by rw [hw0]; go_cell
  have HW := Lib.hid hw0
  have B0 := Lib.hid b0
  have HX := Lib.hid (h.below b0)
  have HY := Lib.hid (g.below b0)
  have HX' := Lib.hid (h'.below b0)
  have HY' := Lib.hid (g'.below b0)
  clear hw0 b0 h g h' g' hrows houts hrows' houts'
  by_cases hs : s = s'
  · have es : (s == s') = true := by simp [hs]
    by_cases hq : q = q'
    · have eq : (q == q') = true := by simp [hq]
      rcases hx : sameR xss xss' with _ | _
      · have HXX := Lib.hid hx
        clear hs hq
        go_enter Try.func15, Try.ntmps15
        go_wp2_with fail
        rw [← HW.out]
        refine (l06SameRows_any _ _ _ _ _ _ xss xss' _ HX.out HX'.out hn hn' HR.out HR'.out).mono ?_
        rintro e w1 ⟨rfl, k, rfl⟩
        go_wp2_with fail
        go_ret
        exact ⟨ret_bool (sameM_3 HXX.out).symm, below_drewN' B0.out _⟩
      · have HXX := Lib.hid hx
        obtain ⟨ans, hans⟩ : ∃ ans, ans = sameR yss yss' := ⟨_, rfl⟩
        have HA := Lib.hid (sameM_4 hs hq hx hans.symm)
        have HANS := Lib.hid hans
        clear hans hs hq
        go_enter Try.func15, Try.ntmps15
        go_wp2_with fail
        rw [← HW.out]
        refine (l06SameRows_any _ _ _ _ _ _ xss xss' _ HX.out HX'.out hn hn' HR.out HR'.out).mono ?_
        rintro e w1 ⟨rfl, k, rfl⟩
        go_wp2_with fail
        refine (l06SameRows_any _ _ _ _ _ _ yss yss' _ (HY.out.drewN k) (HY'.out.drewN k) hm hm' HO.out HO'.out).mono ?_
        rw [← HANS.out]
        rintro e w2 ⟨rfl, k2, rfl⟩
        go_wp2_with fail
        go_ret
        exact ⟨ret_bool HA.out.symm, by first | exact below_drewN' (below_drewN' B0.out _) _ | exact below_drewN' B0.out _⟩
    · have eq : (q == q') = false := by simp [hq]
      have HQ := Lib.hid hq
      clear hq hs
      go_enter Try.func15, Try.ntmps15
      go_wp2_with fail
      rw [← HW.out]
      go_ret
      exact ⟨ret_bool (sameM_2 HQ.out).symm, B0.out⟩
  · have es : (s == s') = false := by simp [hs]
    have HS := Lib.hid hs
    clear hs
    go_enter Try.func15, Try.ntmps15
    go_wp2_with fail
    rw [← HW.out]
    go_ret
    exact ⟨ret_bool (sameM_1 HS.out).symm, B0.out⟩

set_option maxRecDepth 100000 in
set_option maxHeartbeats 4000000 in
theorem implSameMachine_any (s q : Int) (A : Option Addr) (n c : Nat) (xss : List (List Int)) (B : Option Addr) (m d : Nat) (yss : List (List Int)) (s' q' : Int) (A' : Option Addr) (n' c' : Nat) (xss' : List (List Int)) (B' : Option Addr) (m' d' : Nat) (yss' : List (List Int)) (w : World)
    (h : RowsAt w A n xss) (hn : n ≤ 4611686018427387904) (hrows : ∀ (r : Nat) (xs : List Int), xss[r]? = some xs → xs.length ≤ 4611686018427387904) (g : RowsAt w B m yss) (hm : m ≤ 4611686018427387904) (houts : ∀ (r : Nat) (xs : List Int), yss[r]? = some xs → xs.length ≤ 4611686018427387904)
    (h' : RowsAt w A' n' xss') (hn' : n' ≤ 4611686018427387904) (hrows' : ∀ (r : Nat) (xs : List Int), xss'[r]? = some xs → xs.length ≤ 4611686018427387904) (g' : RowsAt w B' m' yss') (hm' : m' ≤ 4611686018427387904) (houts' : ∀ (r : Nat) (xs : List Int), yss'[r]? = some xs → xs.length ≤ 4611686018427387904) :
    Calls Try.prog 16 #[.agg #[.int .i64 s, .int .i64 q, .slice A n c, .slice B m d], .agg #[.int .i64 s', .int .i64 q', .slice A' n' c', .slice B' m' d']] w fun e w' => e = .returned (.bool (sameMachine s q xss yss s' q' xss' yss')) ∧ Below w.heap.size w w' := by
  have HR := Lib.hid hrows
  have HO := Lib.hid houts
  have HR' := Lib.hid hrows'
  have HO' := Lib.hid houts'
  obtain ⟨w0, hw0⟩ : ∃ w0, w0 = (w.alloc (.cells #[.int .i64 s, .int .i64 q, .slice A n c, .slice B m d] 27)).alloc (.cells #[.int .i64 s', .int .i64 q', .slice A' n' c', .slice B' m' d'] 27) := ⟨_, rfl⟩
  have b0 : Below w.heap.size w w0 := by rw [hw0]; go_grown
  have x0 : w0.cell? ⟨w.heap.size, 0, none⟩ = some (.int .i64 s) := by rw [hw0]; go_cell
  have x1 : w0.cell? ⟨w.heap.size, 1, none⟩ = some (.int .i64 q) := by rw [hw0]; go_cell
  have x2 : w0.cell? ⟨w.heap.size, 2, none⟩ = some (.slice A n c) := by rw [hw0]; go_cell
  have x3 : w0.cell? ⟨w.heap.size, 3, none⟩ = some (.slice B m d) := by rw [hw0]; go_cell
  have y0 : w0.cell? ⟨w.heap.size + 1, 0, none⟩ = some (.int .i64 s') := by rw [hw0]; go_cell
  have y1 : w0.cell? ⟨w.heap.size + 1, 1, none⟩ = some (.int .i64 q') := by rw [hw0]; go_cell
  have y2 : w0.cell? ⟨w.heap.size + 1, 2, none⟩ = some (.slice A' n' c') := by rw [hw0]; go_cell
  have y3 : w0.cell? ⟨w.heap.size + 1, 3, none⟩ = some (.slice B' m' d') := by rw [hw0]; go_cell
  have HW := Lib.hid hw0
  have B0 := Lib.hid b0
  have HX := Lib.hid (h.below b0)
  have HY := Lib.hid (g.below b0)
  have HX' := Lib.hid (h'.below b0)
  have HY' := Lib.hid (g'.below b0)
  clear hw0 b0 h g h' g' hrows houts hrows' houts'
  have h9 : Below w0.heap.size w0 w0 := Below.refl _ _
  have r0 : ∀ W', Below w0.heap.size w0 W' → W'.cell? ⟨w.heap.size, 0, none⟩ = some (.int .i64 s) := fun W' hb => (hb.cell (cell_lt x0)).trans x0
  have r1 : ∀ W', Below w0.heap.size w0 W' → W'.cell? ⟨w.heap.size, 1, none⟩ = some (.int .i64 q) := fun W' hb => (hb.cell (cell_lt x1)).trans x1
  have r2 : ∀ W', Below w0.heap.size w0 W' → W'.cell? ⟨w.heap.size, 2, none⟩ = some (.slice A n c) := fun W' hb => (hb.cell (cell_lt x2)).trans x2
  have r3 : ∀ W', Below w0.heap.size w0 W' → W'.cell? ⟨w.heap.size, 3, none⟩ = some (.slice B m d) := fun W' hb => (hb.cell (cell_lt x3)).trans x3
  have u0 : ∀ W', Below w0.heap.size w0 W' → W'.cell? ⟨w.heap.size + 1, 0, none⟩ = some (.int .i64 s') := fun W' hb => (hb.cell (cell_lt y0)).trans y0
  have u1 : ∀ W', Below w0.heap.size w0 W' → W'.cell? ⟨w.heap.size + 1, 1, none⟩ = some (.int .i64 q') := fun W' hb => (hb.cell (cell_lt y1)).trans y1
  have u2 : ∀ W', Below w0.heap.size w0 W' → W'.cell? ⟨w.heap.size + 1, 2, none⟩ = some (.slice A' n' c') := fun W' hb => (hb.cell (cell_lt y2)).trans y2
  have u3 : ∀ W', Below w0.heap.size w0 W' → W'.cell? ⟨w.heap.size + 1, 3, none⟩ = some (.slice B' m' d') := fun W' hb => (hb.cell (cell_lt y3)).trans y3
  by_cases hq : q = q'
  · subst hq
    have hqq : (q == q) = true := by simp
    obtain ⟨a1, ha1⟩ : ∃ a1, a1 = sameA s s' xss xss' := ⟨_, rfl⟩
    obtain ⟨a2, ha2⟩ : ∃ a2, a2 = sameR yss yss' := ⟨_, rfl⟩
    have HA1 := Lib.hid ha1
    have HA2 := Lib.hid ha2
    have HA : Hid (sameMachine s q xss yss s' q xss' yss' = (a1 && a2)) := Lib.hid (by
      rw [ha1, ha2, sameMachine]
      simp [sameA, sameR]
      by_cases e1 : s = s' <;> by_cases e2 : xss = xss' <;> simp [e1, e2])
    clear ha1 ha2 x0 x1 x2 x3 y0 y1 y2 y3
    go_enter Try.func16, Try.ntmps16
    rcases a1 with _ | _
    · go_wp2_with fail
      rw [← HW.out]
      first
      | (go_region_law
        (first
          | (go_simp; go_at_call_of 40 (Value.agg #[Value.int IntKind.i64 s, Value.int IntKind.i64 q, Value.slice A n c, Value.slice B m d]); refine (automatonOf_any s q A n c B m d _).mono ?_; rintro e wa ⟨rfl, ba⟩; have ca : Below w0.heap.size w0 wa := below_then (by first | assumption | exact h9.drew | exact ca.drew | exact cb.drew | exact below_drewN' (by assumption) _) ba; clear ba)
          | (go_simp; go_at_call_of 40 (Value.agg #[Value.int IntKind.i64 s', Value.int IntKind.i64 q, Value.slice A' n' c', Value.slice B' m' d']); refine (automatonOf_any s' q A' n' c' B' m' d' _).mono ?_; rintro e wb ⟨rfl, bb⟩; have cb : Below w0.heap.size w0 wb := below_then (by first | assumption | exact h9.drew | exact ca.drew | exact cb.drew | exact below_drewN' (by assumption) _) bb; clear bb)
          | (go_simp; go_at_call 46; refine (implSame_any s s' _ _ n n' c c' xss xss' _ (HX.out.below (by first | assumption | exact h9.drew | exact ca.drew | exact cb.drew | exact below_drewN' (by assumption) _)) (HX'.out.below (by first | assumption | exact h9.drew | exact ca.drew | exact cb.drew | exact below_drewN' (by assumption) _)) hn hn' HR.out HR'.out).mono ?_; rw [← HA1.out]; rintro e wd ⟨rfl, bd⟩; have cd : Below w0.heap.size w0 wd := below_then (by first | assumption | exact h9.drew | exact ca.drew | exact cb.drew | exact below_drewN' (by assumption) _) bd; clear bd)
          | (go_simp; go_at_call 47; refine (equalFunc_any _ _ _ _ _ _ yss yss' _ (HY.out.below (by first | assumption | exact h9.drew | exact ca.drew | exact cb.drew | exact below_drewN' (by assumption) _)) (HY'.out.below (by first | assumption | exact h9.drew | exact ca.drew | exact cb.drew | exact below_drewN' (by assumption) _)) hm hm' HO.out HO'.out).mono ?_; rw [← HA2.out]; rintro e wf ⟨rfl, kf, hwf⟩; have cf : Below w0.heap.size w0 wf := (by rw [hwf]; first | exact below_drewN' (by assumption) _ | exact below_drewN' (below_drewN' (by assumption) _) _); clear hwf)
          | fail))
      | fail
      all_goals
        go_wp2_with fail
        go_ret
        exact ⟨ret_bool (by rw [HA.out]; rfl), below_then B0.out (by first | assumption | exact h9.drew | exact ca.drew | exact cb.drew | exact below_drewN' (by assumption) _)⟩
    · go_wp2_with fail
      rw [← HW.out]
      go_region_held3 (fun w' => Below w0.heap.size w0 w') (first | assumption | exact below_drewN' (by assumption) _)
        (first
          | (go_at_call_of 40 (Value.agg #[Value.int IntKind.i64 s, Value.int IntKind.i64 q, Value.slice A n c, Value.slice B m d]); refine (automatonOf_any s q A n c B m d _).mono ?_; rintro e wa ⟨rfl, ba⟩; have ca : Below w0.heap.size w0 wa := below_then (by first | assumption | exact below_drewN' (by assumption) _) ba; clear ba)
          | (go_at_call_of 40 (Value.agg #[Value.int IntKind.i64 s', Value.int IntKind.i64 q, Value.slice A' n' c', Value.slice B' m' d']); refine (automatonOf_any s' q A' n' c' B' m' d' _).mono ?_; rintro e wb ⟨rfl, bb⟩; have cb : Below w0.heap.size w0 wb := below_then (by first | assumption | exact below_drewN' (by assumption) _) bb; clear bb)
          | (go_at_call 46; refine (implSame_any s s' _ _ n n' c c' xss xss' _ (HX.out.below (by first | assumption | exact below_drewN' (by assumption) _)) (HX'.out.below (by first | assumption | exact below_drewN' (by assumption) _)) hn hn' HR.out HR'.out).mono ?_; rw [← HA1.out]; rintro e wd ⟨rfl, bd⟩; have cd : Below w0.heap.size w0 wd := below_then (by first | assumption | exact below_drewN' (by assumption) _) bd; clear bd)
          | (go_at_call 47; refine (equalFunc_any _ _ _ _ _ _ yss yss' _ (HY.out.below (by first | assumption | exact below_drewN' (by assumption) _)) (HY'.out.below (by first | assumption | exact below_drewN' (by assumption) _)) hm hm' HO.out HO'.out).mono ?_; rw [← HA2.out]; rintro e wf ⟨rfl, kf, hwf⟩; have cf : Below w0.heap.size w0 wf := (by rw [hwf]; first | exact below_drewN' (by assumption) _ | exact below_drewN' (below_drewN' (by assumption) _) _); clear hwf)
          | fail)
      all_goals
        go_wp2_with fail
        go_ret
        exact ⟨ret_bool (by rw [HA.out]; rfl), below_then B0.out (by first | assumption | exact below_drewN' (by assumption) _)⟩
  · have eq : (q == q') = false := by simp [hq]
    have HQ := Lib.hid hq
    clear hq
    go_enter Try.func16, Try.ntmps16
    go_wp2_with fail
    rw [← HW.out]
    go_quiet (fail)
    go_wp2_with fail
    go_ret
    exact ⟨ret_bool (sameM_2 HQ.out).symm, below_drewN' B0.out _⟩


end Go.Proofs.Ytkhhemlfahdbnaa
