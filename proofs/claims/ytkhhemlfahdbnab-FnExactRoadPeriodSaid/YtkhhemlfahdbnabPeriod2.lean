/-
  The period: the contracts of both PeriodOf.
-/
import Derived.Test.YtkhhemlfahdbnabPeriod
namespace Go.Proofs.Ytkhhemlfahdbnab
open Go.RowKit Go.Deep Go.ChangeShapes Go.WideShapes

noncomputable def per (n m : Nat) (xss : List (List Int)) : Nat := @dite Nat (∃ d, Far m xss 0 d) (Classical.propDecidable _) (fun h => gcdL (perL m xss (Classical.choose h) n)) (fun _ => 0)
theorem per_is {n m : Nat} {xss : List (List Int)} {d : Nat → Int} (h : Far m xss 0 d) : per n m xss = gcdL (perL m xss d n) := by
  have hx : ∃ d, Far m xss 0 d := ⟨d, h⟩
  unfold per
  rw [dif_pos hx, Far.one (Classical.choose_spec hx) h]
/-- The same, letter by letter. -/
def perT (n : Nat) (xss : List (List Int)) (d : Nat → Int) (k : Nat) : List Nat := (List.range k).flatMap fun x => (List.range n).map fun s => difN xss d s x
theorem perT_succ (n : Nat) (xss : List (List Int)) (d : Nat → Int) (k : Nat) : perT n xss d (k + 1) = perT n xss d k ++ (List.range n).map (fun s => difN xss d s k) := by
  unfold perT; rw [List.range_succ, List.flatMap_append]; simp
theorem perT_mem {n k y : Nat} {xss : List (List Int)} {d : Nat → Int} : y ∈ perT n xss d k ↔ ∃ x, x < k ∧ ∃ s, s < n ∧ difN xss d s x = y := by
  unfold perT; simp [List.mem_flatMap, List.mem_map, List.mem_range]
theorem perT_L (n m : Nat) (xss : List (List Int)) (d : Nat → Int) : gcdL (perT n xss d m) = gcdL (perL m xss d n) := by
  apply gcdL_same
  intro y
  rw [perT_mem, perL_mem]
  constructor
  · rintro ⟨x, hx, s, hs, e⟩; exact ⟨s, hs, x, hx, e⟩
  · rintro ⟨s, hs, x, hx, e⟩; exact ⟨x, hx, s, hs, e⟩

/-- What PeriodOf answers. -/
noncomputable def periodOf (s : Int) (xss : List (List Int)) : Int × Int := if okA s xss = true then (if joinedB s.toNat xss.length xss = true then ((per s.toNat xss.length xss : Int), 0) else (0, 4)) else (0, 1)
theorem periodOf_1 {s : Int} {xss : List (List Int)} (h : okA s xss = false) : periodOf s xss = (0, 1) := by unfold periodOf; rw [if_neg (by simp [h])]
theorem periodOf_4 {n m : Nat} {xss : List (List Int)} (h : okA (n : Int) xss = true) (hm : xss.length = m) (hj : joinedB n m xss = false) : periodOf (n : Int) xss = (0, 4) := by unfold periodOf; rw [if_pos h, hm, Int.toNat_natCast, if_neg (by simp [hj])]
theorem periodOf_0 {n m : Nat} {xss : List (List Int)} (h : okA (n : Int) xss = true) (hm : xss.length = m) (hj : joinedB n m xss = true) : periodOf (n : Int) xss = ((per n m xss : Int), 0) := by unfold periodOf; rw [if_pos h, hm, Int.toNat_natCast, if_pos hj]
theorem joinedB_is {n m : Nat} {xss : List (List Int)} (h : joinedB n m xss = true) : Joined n m xss := by
  unfold joinedB at h; exact @of_decide_eq_true _ (Classical.propDecidable _) h
theorem two_ints' {r : Int × Int} {b c : Int} (h : r = (b, c)) : Ending.returned (.tuple #[.int .i64 b, .int .i64 c]) = .returned (.tuple #[.int .i64 r.1, .int .i64 r.2]) := by rw [h]

set_option maxRecDepth 100000 in
set_option maxHeartbeats 4000000 in
theorem implPeriodOf_any (s : Int) (A : Option Addr) (m cap : Nat) (xss : List (List Int)) (w : World) (h : RowsAt w A m xss) (hm : m ≤ 4611686018427387904)
    (hrows : ∀ (r : Nat) (xs : List Int), xss[r]? = some xs → xs.length ≤ 4611686018427387904) :
    Calls Try.prog 62 #[.agg #[.int .i64 s, .slice A m cap]] w fun e w' => e = .returned (.tuple #[.int .i64 (periodOf s xss).1, .int .i64 (periodOf s xss).2]) ∧ Below w.heap.size w w' := by
  have HR := Lib.hid hrows
  have HM := Lib.hid h.1
  have b0 : Below w.heap.size w (w.alloc (.cells #[.int .i64 s, .slice A m cap] 33)) := (Below.refl _ _).alloc (Nat.le_refl _) _
  have H0 := Lib.hid (h.below b0)
  have B0 := Lib.hid b0
  clear hrows b0
  rcases hok : okA s xss with _ | _
  · have HF := Lib.hid (periodOf_1 hok)
    go_enter Try.func62, Try.ntmps62
    go_wp2_with fail
    refine (implValid_any s A m cap xss _ H0.out hm HR.out).mono ?_
    rw [hok]
    rintro e w1 ⟨rfl, b1⟩
    have B1 := Lib.hid (below_then B0.out b1)
    clear b1
    go_wp2_with fail
    go_ret2
    exact ⟨two_ints' HF.out, B1.out⟩
  · obtain ⟨n, hsn, hg⟩ := good_of hok HM.out
    subst hsn
    have HG := Lib.hid hg
    have hn10 : n ≤ 10 := hg.n10
    have hn1 : 0 < n := hg.n1
    have hm3 : m ≤ 3 := hg.m3
    clear hg
    rcases hj : joinedB n m xss with _ | _
    all_goals
      go_enter Try.func62, Try.ntmps62
      go_wp2_with fail
      refine (implValid_any (n : Int) A m cap xss _ H0.out hm HR.out).mono ?_
      rw [hok]
      rintro e w1 ⟨rfl, b1⟩
      have d0 : w1.cell? ⟨w.heap.size, 0, none⟩ = some (.int .i64 (n : Int)) := (b1.cell (by simp)).trans (by go_cell)
      have d1 : w1.cell? ⟨w.heap.size, 1, none⟩ = some (.slice A m cap) := (b1.cell (by simp)).trans (by go_cell)
      have H1 := Lib.hid (H0.out.below b1)
      have B1 := Lib.hid (below_then B0.out b1)
      clear b1
      go_wp2_with fail
      refine (isConnected_any A n m cap xss _ HG.out H1.out).mono ?_
      rw [hj]
      rintro e w2 ⟨rfl, b2⟩
    · have HF := Lib.hid (periodOf_4 hok HM.out hj)
      have B2 := Lib.hid (below_then B1.out b2)
      clear b2
      go_wp2_with fail
      go_ret2
      exact ⟨two_ints' HF.out, B2.out⟩
    · have HF := Lib.hid (periodOf_0 hok HM.out hj)
      have HJ := Lib.hid (joinedB_is hj)
      have d0 : w2.cell? ⟨w.heap.size, 0, none⟩ = some (.int .i64 (n : Int)) := (b2.cell (cell_lt d0)).trans d0
      have d1 : w2.cell? ⟨w.heap.size, 1, none⟩ = some (.slice A m cap) := (b2.cell (cell_lt d1)).trans d1
      have H2 := Lib.hid (H1.out.below b2)
      have B2 := Lib.hid (below_then B1.out b2)
      clear b2 hj
      go_wp2_with fail
      refine (distancesFrom_any A n m cap 0 xss w2 HG.out H2.out hn1).mono ?_
      rintro e w3 ⟨d, rfl, hfd, hfar, htop, b3⟩
      have hall : ∀ q, q < n → 0 ≤ d q := fun q hq => by
        have hr := joined_reach HG.out HJ.out hq
        have h1 : fD d q = true := by
          rw [hfd]; unfold reachF; exact @decide_eq_true _ (Classical.propDecidable _) hr
        exact fD_pos h1
      have HALL := Lib.hid hall
      have HTOP := Lib.hid htop
      have HFAR := Lib.hid hfar
      obtain ⟨W4, hW4⟩ : ∃ W4, W4 = w3.alloc (.cells (darr d) 145) := ⟨_, rfl⟩
      have b4 : Below w3.heap.size w3 W4 := by rw [hW4]; exact (Below.refl _ _).alloc (Nat.le_refl _) _
      have b34 := below_then b3 b4
      have x1 : W4.cell? ⟨w.heap.size, 1, none⟩ = some (.slice A m cap) := (b34.cell (cell_lt d1)).trans d1
      have xd : W4.heap[w3.heap.size]? = some (.cells (darr d) 145 (0, 0)) := by rw [hW4]; exact heap_alloc_new _ _
      have H4 := Lib.hid (H2.out.below b34)
      have B4 := Lib.hid (below_then B2.out b34)
      have X1 := Lib.hid x1
      have XD := Lib.hid xd
      have HW4 := Lib.hid hW4
      rw [hW4] at x1
      rw [show darr d = #[.int .i64 (d 0), .int .i64 (d 1), .int .i64 (d 2), .int .i64 (d 3), .int .i64 (d 4), .int .i64 (d 5), .int .i64 (d 6), .int .i64 (d 7), .int .i64 (d 8), .int .i64 (d 9)] from rfl] at x1 HW4 ⊢
      clear hfd hfar hall htop b3 b4 b34 d0 d1 xd hW4
      go_wp2_with fail
      rw [← HW4.out]
      have y1 := X1.out
      clear x1
      go_loopw [5, 21] (fun g i wr => ∃ x : Nat, x ≤ m ∧ i = .int .i64 x ∧ g = .int .i64 ((gcdL (perT n xss d x) : Nat) : Int) ∧ Below W4.heap.size W4 wr) (fun _ i _ => m - (intOf i).toNat)
      case atStart => exact ⟨0, Nat.zero_le _, rfl, rfl, Below.refl _ _⟩
      case round =>
        obtain ⟨x, hx, rfl, rfl, hbel⟩ := hrel
        have HBL := Lib.hid hbel
        by_cases hxm : x < m
        · obtain ⟨b, off1, b2, off2, cr, hA, hcr, hcells⟩ := row_base HG.out (H4.out.below hbel) hxm
          have z1 : wr.cell? ⟨w.heap.size, 1, none⟩ = some (.slice A m cap) := (hbel.cell (cell_lt y1)).trans y1
          have HCL := Lib.hid hcells
          subst hA
          have i1 : (0 : Int) ≤ (x : Int) := by omega
          have i2 : (x : Int) < (m : Int) := by omega
          clear hbel hcells
          go_wp2_with fail
          go_loopw [5, 27] (fun g i wi => ∃ s : Nat, s ≤ n ∧ i = .int .i64 s ∧ g = .int .i64 ((gcdL (perT n xss d x ++ (List.range s).map (fun s => difN xss d s x)) : Nat) : Int) ∧ Below wr.heap.size wr wi) (fun _ i _ => n - (intOf i).toNat)
          case atStart => exact ⟨0, Nat.zero_le _, rfl, by simp, Below.refl _ _⟩
          case round =>
            obtain ⟨s, hs, rfl, rfl, hbel⟩ := hrel
            have HBL1 := Lib.hid hbel
            by_cases hsn : s < n
            · have htt := HG.out.nextD hxm hsn
              have hct := HCL.out s hsn
              have hct := (hbel.cell (cell_lt hct)).trans hct
              obtain ⟨δ, hδ⟩ : ∃ δ, δ = difN xss d s x := ⟨_, rfl⟩
              have HDL := Lib.hid hδ
              obtain ⟨u, hu⟩ : ∃ u, u = nx xss x s := ⟨_, rfl⟩
              rw [← hu] at htt hct
              have h1 := HALL.out s hsn
              have h2 := HALL.out u htt
              have h3 := HTOP.out s
              have h4 := HTOP.out u
              have h5 : d u ≤ d s + 1 := by rw [hu]; exact HFAR.out.step h1 hxm
              have hde : d s + 1 - d u = (δ : Int) := by rw [hδ]; unfold difN; rw [← hu]; omega
              have hw1 : IntKind.i64.wrap (d s + 1) = d s + 1 := IntWalk.i64_in _ (by omega)
              have hw2 : IntKind.i64.wrap (d s + 1 - d u) = (δ : Int) := by rw [IntWalk.i64_in _ (by omega), hde]
              have hdl : δ ≤ 11 := by omega
              have b04 := below_then HBL.out hbel
              have c1 : W4.cell? ⟨w3.heap.size, s, none⟩ = some (.int .i64 (d s)) := by rw [cell_of_row _ w3.heap.size s _ _ _ XD.out, darr_at d (by omega)]
              have c2 : W4.cell? ⟨w3.heap.size, u, none⟩ = some (.int .i64 (d u)) := by rw [cell_of_row _ w3.heap.size u _ _ _ XD.out, darr_at d (by omega)]
              have f1 := (b04.cell (cell_lt c1)).trans c1
              have f2 := (b04.cell (cell_lt c2)).trans c2
              obtain ⟨D1, hD1⟩ : ∃ D1, D1 = d s := ⟨_, rfl⟩
              obtain ⟨D2, hD2⟩ : ∃ D2, D2 = d u := ⟨_, rfl⟩
              rw [← hD1] at f1 hw1 hw2
              rw [← hD2] at f2 hw2
              obtain ⟨g, hg⟩ : ∃ g, g = gcdL (perT n xss d x ++ (List.range s).map (fun s => difN xss d s x)) := ⟨_, rfl⟩
              have hgb : g ≤ 1000000 := by
                rw [hg]
                refine Nat.le_trans (gcdL_le (b := 11) (fun y hy => ?_)) (by omega)
                rcases List.mem_append.1 hy with hy | hy
                · obtain ⟨x', hx', s', hs', rfl⟩ := perT_mem.1 hy
                  have a1 := HTOP.out s'
                  have a2 := HALL.out (nx xss x' s') (HG.out.nextD (by omega) hs')
                  unfold difN; omega
                · rw [List.mem_map] at hy
                  obtain ⟨s', hs', rfl⟩ := hy
                  have hs'' := List.mem_range.1 hs'
                  have a1 := HTOP.out s'
                  have a2 := HALL.out (nx xss x s') (HG.out.nextD hxm (by omega))
                  unfold difN; omega
              have HGG := Lib.hid hg
              have i3 : (0 : Int) ≤ (s : Int) := by omega
              have i4 : (s : Int) < (n : Int) := by omega
              have i4' : (s : Int) < 10 := by omega
              have i5 : (0 : Int) ≤ (u : Int) := by omega
              have i6 : (u : Int) < 10 := by omega
              have hdl' : δ ≤ 1000000 := by omega
              rw [← hg]
              clear hδ hu h1 h2 h3 h4 h5 hde hD1 hD2 hg c1 c2 b04 hbel
              go_wp2_with fail
              go_quiet ((go_at_call 125; exact Calls.quiet_of (commonDivisor_any g δ _ hgb hdl')))
              clear hw1 hw2
              go_wp2_with fail
              go_roundw
              case rel =>
                refine ⟨s + 1, by omega, by go_num, ?_, below_drewN' HBL1.out _⟩
                rw [List.range_succ, List.map_append, ← List.append_assoc, List.map_cons, List.map_nil, gcdL_snoc, ← HGG.out, ← HDL.out]
              case measure => simp [intOf]; omega
            · have hse : s = n := by omega
              have HSE := Lib.hid hse
              clear hse hbel
              go_wp2_with fail
              go_roundw
              case rel => exact ⟨x + 1, by omega, by go_num, by rw [perT_succ, ← HSE.out], below_then HBL.out HBL1.out⟩
              case measure => simp [intOf]; omega
        · have hxe : x = m := by omega
          have HXE := Lib.hid hxe
          have HPI := Lib.hid (per_is (n := n) HFAR.out)
          clear hxe hbel
          go_wp2_with fail
          go_ret2
          exact ⟨two_ints' (by rw [HF.out, HPI.out, HXE.out, perT_L]), below_then B4.out HBL.out⟩

end Go.Proofs.Ytkhhemlfahdbnab
