/-
  Colourings: what IsColouring answers, and the contracts of l05Coloured and both IsColouring.
-/
import Derived.Test.YtkhhemlfahdbnabRoadsC
import Derived.Test.YtkhhemlfahdbnabSameR
namespace Go.Proofs.Ytkhhemlfahdbnab
open Go.RowKit Go.Deep Go.ChangeShapes Go.WideShapes

theorem sameA_comm (s s' : Int) (xss yss : List (List Int)) : sameA s s' xss yss = sameA s' s yss xss := by
  unfold sameA
  congr 1
  exact propext ⟨fun h => ⟨h.1.symm, h.2.symm⟩, fun h => ⟨h.1.symm, h.2.symm⟩⟩
/-- What IsColouring answers. -/
def colB (s : Int) (xss : List (List Int)) (s' : Int) (yss : List (List Int)) : Bool := sameA s s' xss (roadL yss yss.length s'.toNat)
def isColouring (s : Int) (xss : List (List Int)) (s' : Int) (yss : List (List Int)) : Bool × Int :=
  if okR s xss = true ∧ okA s' yss = true then (colB s xss s' yss, 0) else (false, 1)
theorem isColouring_1 {s s' : Int} {xss yss : List (List Int)} (h : ¬ (okR s xss = true ∧ okA s' yss = true)) : isColouring s xss s' yss = (false, 1) := by unfold isColouring; rw [if_neg h]
theorem isColouring_0 {s s' : Int} {xss yss : List (List Int)} (h : okR s xss = true) (h' : okA s' yss = true) : isColouring s xss s' yss = (colB s xss s' yss, 0) := by unfold isColouring; rw [if_pos ⟨h, h'⟩]
theorem colB_is {s : Int} {xss yss : List (List Int)} {n m : Nat} (hm : yss.length = m) : colB s xss (n : Int) yss = sameA s (n : Int) xss (roadL yss m n) := by unfold colB; rw [hm, Int.toNat_natCast]
theorem roadL_rows {yss : List (List Int)} {m n : Nat} (hm : m ≤ 3) : ∀ (r : Nat) (xs : List Int), (roadL yss m n)[r]? = some xs → xs.length ≤ 4611686018427387904 := by
  intro r xs hx
  unfold roadL at hx
  rw [List.getElem?_map, Option.map_eq_some_iff] at hx
  obtain ⟨k, _, rfl⟩ := hx
  rw [sortF_len, leadF_len]; omega
theorem two_mkc5 {r : Bool × Int} {b : Bool} {c : Int} (h : r = (b, c)) : Ending.returned (.tuple #[.bool b, .int .i64 c]) = .returned (.tuple #[.bool r.1, .int .i64 r.2]) := by rw [h]

set_option maxRecDepth 100000 in
set_option maxHeartbeats 2000000 in
theorem l05Coloured_any (p q : Nat) (s : Int) (n m cap : Nat) (A : Option Addr) (k cap2 : Nat) (A2 : Option Addr) (xss yss : List (List Int)) (w : World) (hg : Good n m yss) (c0 : w.cell? ⟨p, 0, none⟩ = some (.int .i64 s)) (c1 : w.cell? ⟨p, 1, none⟩ = some (.slice A k cap))
    (d0 : w.cell? ⟨q, 0, none⟩ = some (.int .i64 (n : Int))) (d1 : w.cell? ⟨q, 1, none⟩ = some (.slice A2 m cap2)) (h : RowsAt w A k xss) (h2 : RowsAt w A2 m yss) (hk : k ≤ 4611686018427387904) (hrows : ∀ (r : Nat) (xs : List Int), xss[r]? = some xs → xs.length ≤ 4611686018427387904) :
    Calls Try.prog 82 #[.pointer (some ⟨p, 0, none⟩), .pointer (some ⟨q, 0, none⟩)] w fun e w' => e = .returned (.bool (colB s xss (n : Int) yss)) ∧ Below w.heap.size w w' := by
  have HR := Lib.hid hrows
  have hn10 := hg.n10
  rw [colB_is hg.letters]
  obtain ⟨v, hv⟩ : ∃ v, v = sameA s (n : Int) xss (roadL yss m n) := ⟨_, rfl⟩
  have HV := Lib.hid hv
  rw [← hv]
  clear hv hrows
  go_enter Try.func82, Try.ntmps82
  go_wp2_with fail
  refine (l05Of_any q n m cap2 A2 yss w hg d0 d1 h2).mono ?_
  rintro e w1 ⟨u, rfl, t1, b1⟩
  obtain ⟨A3, c3, rfl⟩ := t1.form
  rw [roadL_len] at t1 ⊢
  obtain ⟨w2, hw2⟩ : ∃ w2, w2 = w1.alloc (.cells #[.int .i64 (n : Int), .slice A3 n c3] 28) := ⟨_, rfl⟩
  have b2 : Below w1.heap.size w1 w2 := by rw [hw2]; exact (Below.refl _ _).alloc (Nat.le_refl _) _
  have x0 : w2.cell? ⟨w1.heap.size, 0, none⟩ = some (.int .i64 (n : Int)) := by rw [hw2]; go_cell
  have x1 : w2.cell? ⟨w1.heap.size, 1, none⟩ = some (.slice A3 n c3) := by rw [hw2]; go_cell
  have hb := below_then b1 b2
  have HT := Lib.hid ((t1.below b2).rows (roadL_len _ _ _))
  have HH := Lib.hid (h.below hb)
  have HB := Lib.hid hb
  have X0 := Lib.hid x0
  have X1 := Lib.hid x1
  have Y0 := Lib.hid ((hb.cell (cell_lt c0)).trans c0)
  have Y1 := Lib.hid ((hb.cell (cell_lt c1)).trans c1)
  have HW := Lib.hid hw2
  have hm3 := hg.m3
  clear t1 b1 b2 x0 x1 hb c0 c1 d0 d1 h h2 hw2
  go_wp2_with fail
  rw [← HW.out]
  refine (l05Same_any p w1.heap.size s (n : Int) A A3 k n cap c3 xss (roadL yss m n) w2 Y0.out Y1.out X0.out X1.out HH.out HT.out hk (by omega) HR.out (roadL_rows hm3)).mono ?_
  rw [← HV.out]
  rintro e w3 ⟨rfl, d, rfl⟩
  go_wp2_with fail
  go_ret
  exact ⟨rfl, below_drewN' HB.out _⟩

set_option maxRecDepth 100000 in
set_option maxHeartbeats 4000000 in
theorem implIsColouring_any (s : Int) (A : Option Addr) (k cap : Nat) (xss : List (List Int)) (s' : Int) (A2 : Option Addr) (m cap2 : Nat) (yss : List (List Int)) (w : World) (h : RowsAt w A k xss) (hk : k ≤ 4611686018427387904) (hrows : ∀ (r : Nat) (xs : List Int), xss[r]? = some xs → xs.length ≤ 4611686018427387904)
    (h2 : RowsAt w A2 m yss) (hm : m ≤ 4611686018427387904) (hrows2 : ∀ (r : Nat) (xs : List Int), yss[r]? = some xs → xs.length ≤ 4611686018427387904) :
    Calls Try.prog 85 #[.agg #[.int .i64 s, .slice A k cap], .agg #[.int .i64 s', .slice A2 m cap2]] w fun e w' => e = .returned (.tuple #[.bool (isColouring s xss s' yss).1, .int .i64 (isColouring s xss s' yss).2]) ∧ Below w.heap.size w w' := by
  have HR := Lib.hid hrows
  have HR2 := Lib.hid hrows2
  have HM := Lib.hid h2.1
  obtain ⟨W0, hW0⟩ : ∃ W0, W0 = (w.alloc (.cells #[.int .i64 s, .slice A k cap] 28)).alloc (.cells #[.int .i64 s', .slice A2 m cap2] 33) := ⟨_, rfl⟩
  have b0 : Below w.heap.size w W0 := by rw [hW0]; go_grown
  have c0 : W0.cell? ⟨w.heap.size, 0, none⟩ = some (.int .i64 s) := by rw [hW0]; go_cell
  have c1 : W0.cell? ⟨w.heap.size, 1, none⟩ = some (.slice A k cap) := by rw [hW0]; go_cell
  have d0 : W0.cell? ⟨w.heap.size + 1, 0, none⟩ = some (.int .i64 s') := by rw [hW0]; go_cell
  have d1 : W0.cell? ⟨w.heap.size + 1, 1, none⟩ = some (.slice A2 m cap2) := by rw [hW0]; go_cell
  have H0 := Lib.hid (h.below b0)
  have H2 := Lib.hid (h2.below b0)
  have B0 := Lib.hid b0
  have HW0 := Lib.hid hW0
  clear hrows hrows2 b0 hW0 h h2
  go_enter Try.func85, Try.ntmps85
  go_wp2_with fail
  rw [← HW0.out]
  refine (implValidRoads_any s A k cap xss W0 H0.out hk HR.out).mono ?_
  rcases hok : okR s xss with _ | _
  · have HF := Lib.hid (isColouring_1 (s' := s') (yss := yss) (fun hh => by rw [hok] at hh; cases hh.1))
    rintro e w1 ⟨rfl, b1⟩
    have B1 := Lib.hid (below_then B0.out b1)
    clear b1
    go_wp2_with fail
    go_ret2
    exact ⟨two_mkc5 HF.out, B1.out⟩
  · rintro e w1 ⟨rfl, b1⟩
    have c0' := (b1.cell (cell_lt c0)).trans c0
    have c1' := (b1.cell (cell_lt c1)).trans c1
    have d0' := (b1.cell (cell_lt d0)).trans d0
    have d1' := (b1.cell (cell_lt d1)).trans d1
    have H0' := Lib.hid (H0.out.below b1)
    have H2' := Lib.hid (H2.out.below b1)
    have B1 := Lib.hid (below_then B0.out b1)
    clear b1 c0 c1 d0 d1
    go_wp2_with fail
    refine (implValid_any s' A2 m cap2 yss w1 H2'.out hm HR2.out).mono ?_
    rcases hok' : okA s' yss with _ | _
    · have HF := Lib.hid (isColouring_1 (s := s) (xss := xss) (s' := s') (yss := yss) (fun hh => by rw [hok'] at hh; cases hh.2))
      rintro e w2 ⟨rfl, b2⟩
      have B2 := Lib.hid (below_then B1.out b2)
      clear b2
      go_wp2_with fail
      go_ret2
      exact ⟨two_mkc5 HF.out, B2.out⟩
    · have HF := Lib.hid (isColouring_0 hok hok')
      obtain ⟨n, hsn, hg⟩ := good_of hok' HM.out
      subst hsn
      rintro e w2 ⟨rfl, b2⟩
      have c0 := (b2.cell (cell_lt c0')).trans c0'
      have c1 := (b2.cell (cell_lt c1')).trans c1'
      have d0 := (b2.cell (cell_lt d0')).trans d0'
      have d1 := (b2.cell (cell_lt d1')).trans d1'
      have H0'' := Lib.hid (H0'.out.below b2)
      have H2'' := Lib.hid (H2'.out.below b2)
      have B2 := Lib.hid (below_then B1.out b2)
      have hn10 := hg.n10
      have hm3 := hg.m3
      have HG := Lib.hid hg
      rw [colB_is hg.letters, sameA_comm] at HF
      obtain ⟨v, hv⟩ : ∃ v, v = sameA (n : Int) s (roadL yss m n) xss := ⟨_, rfl⟩
      rw [← hv] at HF
      have HV := Lib.hid hv
      have h9 : Below w2.heap.size w2 w2 := Below.refl _ _
      have qc0 : ∀ W', Below w2.heap.size w2 W' → W'.cell? ⟨w.heap.size, 0, none⟩ = some (.int .i64 s) := fun W' hb => (hb.cell (cell_lt c0)).trans c0
      have qc1 : ∀ W', Below w2.heap.size w2 W' → W'.cell? ⟨w.heap.size, 1, none⟩ = some (.slice A k cap) := fun W' hb => (hb.cell (cell_lt c1)).trans c1
      have Q0 := Lib.hid qc0
      have Q1 := Lib.hid qc1
      clear b2 c0' c1' d0' d1' hok hok' hg hv qc0 qc1
      go_wp2_with fail
      go_region_law
        (first
          | (go_simp; go_at_call 144; refine (roadsOf_any n m cap2 A2 yss _ HG.out (H2''.out.below (by first | exact h9 | exact h9.drew | exact below_drewN' h9 _))).mono ?_; rintro e' wA ⟨uA, rfl, tA, bA⟩; have hA : Below w2.heap.size w2 wA := below_then (by first | exact h9 | exact h9.drew | exact below_drewN' h9 _) bA; obtain ⟨AA, cA, rfl⟩ := tA.form; rw [roadL_len] at tA ⊢; have TA := Lib.hid (tA.rows (roadL_len _ _ _)); have qcA := Q0.out _ hA; have qcB := Q1.out _ hA; clear tA bA)
          | (go_simp; go_at_call 143; refine (implSameRoads_any (n : Int) s AA A n k cA cap (roadL yss m n) xss _ (TA.out.below (by first | exact Below.refl _ _ | exact (Below.refl _ _).drew | exact below_drewN' (Below.refl _ _) _)) (H0''.out.below (by first | exact hA | exact hA.drew | exact below_drewN' hA _)) (by omega) hk (roadL_rows hm3) HR.out).mono ?_; rw [← HV.out]; rintro e' wB ⟨rfl, bB⟩; have hB : Below w2.heap.size w2 wB := below_then (by first | exact hA | exact hA.drew | exact below_drewN' hA _) bB; clear bB)
          | fail)
      all_goals
        go_wp2_with fail
        go_ret2
        exact ⟨two_mkc5 HF.out, below_then B2.out hB⟩

end Go.Proofs.Ytkhhemlfahdbnab
