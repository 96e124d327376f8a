/-
  The automaton of the classes of a congruence: the contracts of both QuotientOf.
-/
import Derived.Test.YtfkmpabohebcfaaQuot
namespace Go.Proofs.Ytfkmpabohebcfaa
open Go.RowKit Go.Deep Go.ChangeShapes Go.WideShapes

/-- What QuotientOf answers. -/
noncomputable def quotientOf (s : Int) (xss : List (List Int)) (L : List Int) : Int × List (List Int) × Int :=
  if okA s xss = true then (if divB s L = true then (if congB s.toNat xss.length xss L = true then ((cntK L s.toNat : Int), rowsF (cntK L s.toNat) (quoF xss L s.toNat) xss.length, 0) else (0, [], 4)) else (0, [], 2)) else (0, [], 1)
theorem quotientOf_1 {s : Int} {xss : List (List Int)} {L : List Int} (h : okA s xss = false) : quotientOf s xss L = (0, [], 1) := by unfold quotientOf; rw [if_neg (by simp [h])]
theorem quotientOf_2 {s : Int} {xss : List (List Int)} {L : List Int} (h : okA s xss = true) (h' : divB s L = false) : quotientOf s xss L = (0, [], 2) := by unfold quotientOf; rw [if_pos h, if_neg (by simp [h'])]
theorem quotientOf_4 {n m : Nat} {xss : List (List Int)} {L : List Int} (h : okA (n : Int) xss = true) (h' : divB (n : Int) L = true) (hm : xss.length = m) (hc : congB n m xss L = false) : quotientOf (n : Int) xss L = (0, [], 4) := by
  unfold quotientOf; rw [if_pos h, if_pos h', hm, Int.toNat_natCast, if_neg (by simp [hc])]
theorem quotientOf_0 {n m : Nat} {xss : List (List Int)} {L : List Int} (h : okA (n : Int) xss = true) (h' : divB (n : Int) L = true) (hm : xss.length = m) (hc : congB n m xss L = true) : quotientOf (n : Int) xss L = ((cntK L n : Int), rowsF (cntK L n) (quoF xss L n) m, 0) := by
  unfold quotientOf; rw [if_pos h, if_pos h', hm, Int.toNat_natCast, if_pos hc]
theorem quotientOf_len (s : Int) (xss : List (List Int)) (L : List Int) : (quotientOf s xss L).2.1.length ≤ 10 := by
  unfold quotientOf
  split
  · rename_i h
    obtain ⟨_, h2, _⟩ := okA_parts h
    split
    · split
      · rw [rowsF_len]; omega
      · simp
    · simp
  · simp
theorem quotientOf_sum (s : Int) (xss : List (List Int)) (L : List Int) : sumLens (quotientOf s xss L).2.1 ≤ 100 := by
  unfold quotientOf
  split
  · rename_i h
    obtain ⟨h1, h2, _⟩ := okA_parts h
    split
    · split
      · show sumLens (rowsF _ _ _) ≤ 100
        rw [rowsF_sum]
        have h3 := cntK_le L s.toNat
        have : xss.length * cntK L s.toNat ≤ 3 * 10 := Nat.mul_le_mul (by omega) (by omega)
        omega
      · simp [sumLens]
    · simp [sumLens]
  · simp [sumLens]
theorem congB_is {n m : Nat} {xss : List (List Int)} {cls : List Int} (h : congB n m xss cls = true) : Cong n m xss cls := by
  unfold congB at h; exact @of_decide_eq_true _ (Classical.propDecidable _) h

set_option maxRecDepth 100000 in
set_option maxHeartbeats 3000000 in
theorem implQuotientOf_any (s : Int) (A : Option Addr) (m cap : Nat) (xss : List (List Int)) (AL : Option Addr) (nl cl : Nat) (L : List Int) (w : World) (h : RowsAt w A m xss) (hm : m ≤ 4611686018427387904)
    (hrows : ∀ (r : Nat) (xs : List Int), xss[r]? = some xs → xs.length ≤ 4611686018427387904) (hL : NumsAt w AL nl L) (hl : nl ≤ 1048576) :
    Calls Try.prog 32 #[.agg #[.int .i64 s, .slice A m cap], .slice AL nl cl] w (AutosTo (quotientOf s xss L) w) := by
  have HR := Lib.hid hrows
  have HM := Lib.hid h.1
  have HNLEN := Lib.hid hL.1
  obtain ⟨W2, hW2⟩ : ∃ W2, W2 = ((w.alloc (.cells #[.int .i64 s, .slice A m cap] 29)).alloc (.cells #[.slice AL nl cl] 26)).alloc (.cells #[.int .i64 0, .slice none 0 0] 29) := ⟨_, rfl⟩
  have b2 : Below w.heap.size w W2 := by rw [hW2]; go_grown
  have B2 := Lib.hid b2
  have x0 : W2.cell? ⟨w.heap.size, 0, none⟩ = some (.int .i64 s) := by rw [hW2]; go_cell
  have x1 : W2.cell? ⟨w.heap.size, 1, none⟩ = some (.slice A m cap) := by rw [hW2]; go_cell
  have xc : W2.cell? ⟨w.heap.size + 1, 0, none⟩ = some (.slice AL nl cl) := by rw [hW2]; go_cell
  have xr : W2.heap[w.heap.size + 2]? = some (.cells #[.int .i64 0, .slice none 0 0] 29 (0, 0)) := by
    have := heap_alloc_new ((w.alloc (.cells #[.int .i64 s, .slice A m cap] 29)).alloc (.cells #[.slice AL nl cl] 26)) (.cells #[.int .i64 0, .slice none 0 0] 29)
    rw [World.size_alloc, World.size_alloc, ← hW2] at this
    exact this
  have H2 := Lib.hid (h.below b2)
  have N2 := Lib.hid (hL.below b2)
  have X0 := Lib.hid x0
  have X1 := Lib.hid x1
  have XR := Lib.hid xr
  have XC := Lib.hid xc
  have HW2 := Lib.hid hW2
  clear hrows b2 x0 x1 xr xc hW2
  rcases hok : okA s xss with _ | _
  · have HF := Lib.hid (quotientOf_1 (L := L) hok)
    have x0 := X0.out
    have x1 := X1.out
    have xc := XC.out
    rw [HW2.out] at x0 x1 xc
    go_enter Try.func32, Try.ntmps32
    go_wp2_with fail
    rw [← HW2.out]
    refine (implValid_any s A m cap xss _ H2.out hm HR.out).mono ?_
    rw [hok]
    rintro e w1 ⟨rfl, b1⟩
    have d0 : w1.cell? ⟨w.heap.size, 0, none⟩ = some (.int .i64 s) := (b1.cell (cell_lt X0.out)).trans X0.out
    have d1 : w1.cell? ⟨w.heap.size, 1, none⟩ = some (.slice A m cap) := (b1.cell (cell_lt X1.out)).trans X1.out
    have xr := (b1.block _ (block_lt XR.out)).trans XR.out
    have dc : w1.cell? ⟨w.heap.size + 1, 0, none⟩ = some (.slice AL nl cl) := (b1.cell (cell_lt XC.out)).trans XC.out
    obtain ⟨e0, e1, e2, e3⟩ := box2_cells xr
    have H1 := Lib.hid (H2.out.below b1)
    have N1 := Lib.hid (N2.out.below b1)
    have B1 := Lib.hid (below_then B2.out b1)
    obtain ⟨g2, g3⟩ := box2_set xr (.int .i64 0) (.slice none 0 0)
    have XR1 := Lib.hid xr
    clear b1 xr
    clear x0 x1 xc
    go_wp2_with fail
    refine bodyPost_ret (v := .tuple #[.agg #[.int .i64 0, .slice none 0 0], .int .i64 1]) (by simp [results, Try.results32, go_sem, g2, g3]) rfl ?_
    exact autosTo_mk HF.out (tab_nil _ _ _) ((B1.out.setCell (by simp; try omega) _).setCell (by simp; try omega) _)
  · obtain ⟨n, hsn, hg⟩ := good_of hok HM.out
    subst hsn
    have HG := Lib.hid hg
    have hn10 : n ≤ 10 := hg.n10
    have hm3 : m ≤ 3 := hg.m3
    clear hg
    rcases hdv : divB (n : Int) L with _ | _
    · have HF := Lib.hid (quotientOf_2 hok hdv)
      have x0 := X0.out
      have x1 := X1.out
      have xc := XC.out
      rw [HW2.out] at x0 x1 xc
      go_enter Try.func32, Try.ntmps32
      go_wp2_with fail
      rw [← HW2.out]
      refine (implValid_any (n : Int) A m cap xss _ H2.out hm HR.out).mono ?_
      rw [hok]
      rintro e w1 ⟨rfl, b1⟩
      have d0 : w1.cell? ⟨w.heap.size, 0, none⟩ = some (.int .i64 (n : Int)) := (b1.cell (cell_lt X0.out)).trans X0.out
      have d1 : w1.cell? ⟨w.heap.size, 1, none⟩ = some (.slice A m cap) := (b1.cell (cell_lt X1.out)).trans X1.out
      have xr := (b1.block _ (block_lt XR.out)).trans XR.out
      have dc : w1.cell? ⟨w.heap.size + 1, 0, none⟩ = some (.slice AL nl cl) := (b1.cell (cell_lt XC.out)).trans XC.out
      obtain ⟨e0, e1, e2, e3⟩ := box2_cells xr
      have H1 := Lib.hid (H2.out.below b1)
      have N1 := Lib.hid (N2.out.below b1)
      have B1 := Lib.hid (below_then B2.out b1)
      obtain ⟨g2, g3⟩ := box2_set xr (.int .i64 0) (.slice none 0 0)
      have XR1 := Lib.hid xr
      clear b1 xr
      clear x0 x1 xc
      go_wp2_with fail
      refine (isDivision_any AL nl cl L (n : Int) _ N1.out hl).mono ?_
      rw [hdv]
      rintro e w' ⟨rfl, rfl⟩
      go_wp2_with fail
      refine bodyPost_ret (v := .tuple #[.agg #[.int .i64 0, .slice none 0 0], .int .i64 2]) (by simp [results, Try.results32, go_sem, g2, g3]) rfl ?_
      exact autosTo_mk HF.out (tab_nil _ _ _) ((B1.out.setCell (by simp; try omega) _).setCell (by simp; try omega) _)
    · have hd := divOk_of hdv
      have hnl : nl = n := HNLEN.out.symm.trans hd.len
      subst hnl
      have HD := Lib.hid hd
      clear hd
      rcases hcg : congB nl m xss L with _ | _
      · have HF := Lib.hid (quotientOf_4 hok hdv HM.out hcg)
        have x0 := X0.out
        have x1 := X1.out
        have xc := XC.out
        rw [HW2.out] at x0 x1 xc
        go_enter Try.func32, Try.ntmps32
        go_wp2_with fail
        rw [← HW2.out]
        refine (implValid_any (nl : Int) A m cap xss _ H2.out hm HR.out).mono ?_
        rw [hok]
        rintro e w1 ⟨rfl, b1⟩
        have d0 : w1.cell? ⟨w.heap.size, 0, none⟩ = some (.int .i64 (nl : Int)) := (b1.cell (cell_lt X0.out)).trans X0.out
        have d1 : w1.cell? ⟨w.heap.size, 1, none⟩ = some (.slice A m cap) := (b1.cell (cell_lt X1.out)).trans X1.out
        have xr := (b1.block _ (block_lt XR.out)).trans XR.out
        have dc : w1.cell? ⟨w.heap.size + 1, 0, none⟩ = some (.slice AL nl cl) := (b1.cell (cell_lt XC.out)).trans XC.out
        obtain ⟨e0, e1, e2, e3⟩ := box2_cells xr
        have H1 := Lib.hid (H2.out.below b1)
        have N1 := Lib.hid (N2.out.below b1)
        have B1 := Lib.hid (below_then B2.out b1)
        obtain ⟨g2, g3⟩ := box2_set xr (.int .i64 0) (.slice none 0 0)
        have XR1 := Lib.hid xr
        clear b1 xr
        clear x0 x1 xc e0 e1 e2 e3 g2 g3
        go_wp2_with fail
        refine (isDivision_any AL nl cl L (nl : Int) _ N1.out hl).mono ?_
        rw [hdv]
        rintro e w' ⟨rfl, rfl⟩
        go_wp2_with fail
        refine (keepsClasses_any A AL nl m cap cl xss L _ HG.out HD.out H1.out N1.out).mono ?_
        rw [hcg]
        rintro e w3 ⟨rfl, b3⟩
        have xr := (b3.block _ (block_lt XR1.out)).trans XR1.out
        obtain ⟨e0, e1, e2, e3⟩ := box2_cells xr
        obtain ⟨g2, g3⟩ := box2_set xr (.int .i64 0) (.slice none 0 0)
        have B3 := Lib.hid (below_then B1.out b3)
        clear b3 xr d0 d1 dc
        go_wp2_with fail
        refine bodyPost_ret (v := .tuple #[.agg #[.int .i64 0, .slice none 0 0], .int .i64 4]) (by simp [results, Try.results32, go_sem, g2, g3]) rfl ?_
        exact autosTo_mk HF.out (tab_nil _ _ _) ((B3.out.setCell (by simp; try omega) _).setCell (by simp; try omega) _)
      · have HF := Lib.hid (quotientOf_0 hok hdv HM.out hcg)
        have hmf : ∀ (fn : Fn) (first cap : Array Value) (w : World), (Instr.makeFunc fn first cap).run Try.prog w = .ok (.func fn first cap) w := fun _ _ _ _ => rfl
        have x0 := X0.out
        have x1 := X1.out
        have xc := XC.out
        rw [HW2.out] at x0 x1 xc
        go_enter Try.func32, Try.ntmps32
        go_wp2_with fail
        rw [← HW2.out]
        refine (implValid_any (nl : Int) A m cap xss _ H2.out hm HR.out).mono ?_
        rw [hok]
        rintro e w1 ⟨rfl, b1⟩
        have d0 : w1.cell? ⟨w.heap.size, 0, none⟩ = some (.int .i64 (nl : Int)) := (b1.cell (cell_lt X0.out)).trans X0.out
        have d1 : w1.cell? ⟨w.heap.size, 1, none⟩ = some (.slice A m cap) := (b1.cell (cell_lt X1.out)).trans X1.out
        have xr := (b1.block _ (block_lt XR.out)).trans XR.out
        have dc : w1.cell? ⟨w.heap.size + 1, 0, none⟩ = some (.slice AL nl cl) := (b1.cell (cell_lt XC.out)).trans XC.out
        obtain ⟨e0, e1, e2, e3⟩ := box2_cells xr
        have H1 := Lib.hid (H2.out.below b1)
        have N1 := Lib.hid (N2.out.below b1)
        have B1 := Lib.hid (below_then B2.out b1)
        obtain ⟨g2, g3⟩ := box2_set xr (.int .i64 0) (.slice none 0 0)
        have XR1 := Lib.hid xr
        clear b1 xr
        clear x0 x1 xc e0 e1 e2 e3 g2 g3
        go_wp2_with fail
        refine (isDivision_any AL nl cl L (nl : Int) _ N1.out hl).mono ?_
        rw [hdv]
        rintro e w' ⟨rfl, rfl⟩
        go_wp2_with fail
        refine (keepsClasses_any A AL nl m cap cl xss L _ HG.out HD.out H1.out N1.out).mono ?_
        rw [hcg]
        rintro e w3 ⟨rfl, b3⟩
        have d1 : w3.cell? ⟨w.heap.size, 1, none⟩ = some (.slice A m cap) := (b3.cell (cell_lt d1)).trans d1
        have dc : w3.cell? ⟨w.heap.size + 1, 0, none⟩ = some (.slice AL nl cl) := (b3.cell (cell_lt dc)).trans dc
        have H3 := Lib.hid (H1.out.below b3)
        have N3 := Lib.hid (N1.out.below b3)
        have XR3 := Lib.hid ((b3.block _ (block_lt XR1.out)).trans XR1.out)
        have B3 := Lib.hid (below_then B1.out b3)
        clear b3 d0
        go_wp2_with fail
        refine (leastStates_any AL nl cl L _ N3.out (by omega)).mono ?_
        rintro e w4 ⟨v, rfl, o4, b4⟩
        obtain ⟨V4, c4, rfl⟩ := own_form o4
        obtain ⟨W5, hW5⟩ : ∃ W5, W5 = w4.alloc (.cells #[.slice V4 (leastK L nl).length c4] 26) := ⟨_, rfl⟩
        have b5 : Below w4.heap.size w4 W5 := by rw [hW5]; exact (Below.refl _ _).alloc (Nat.le_refl _) _
        have b45 := below_then b4 b5
        have x1 : W5.cell? ⟨w.heap.size, 1, none⟩ = some (.slice A m cap) := (b45.cell (cell_lt d1)).trans d1
        have xc : W5.cell? ⟨w.heap.size + 1, 0, none⟩ = some (.slice AL nl cl) := (b45.cell (cell_lt dc)).trans dc
        have xl : W5.cell? ⟨w4.heap.size, 0, none⟩ = some (.slice V4 (leastK L nl).length c4) := by rw [hW5]; go_cell
        have hle : (leastK L nl).length ≤ nl := by rw [leastK_len]; exact cntK_le L nl
        have HLL := Lib.hid (leastK_len L nl)
        have H5 := Lib.hid (H3.out.below b45)
        have N5 := Lib.hid (N3.out.below b45)
        have L5 := Lib.hid (NumsAt.own (own_below o4 b5) (by simp) rfl)
        have XR5 := Lib.hid ((b45.block _ (block_lt XR3.out)).trans XR3.out)
        have B5 := Lib.hid (below_then B3.out b45)
        have Y1 := Lib.hid x1
        have YC := Lib.hid xc
        have YL := Lib.hid xl
        have HW5 := Lib.hid hW5
        rw [hW5] at x1 xc xl
        clear o4 b4 b5 b45 d1 dc hW5
        go_wp2_with fail
        rw [← HW5.out]
        clear x1 xc xl
        rw [HLL.out]
        rw [HLL.out] at hle
        refine (buildAutomaton_any 73 #[.pointer (some ⟨w.heap.size + 1, 0, none⟩), .pointer (some ⟨w.heap.size, 0, none⟩), .pointer (some ⟨w4.heap.size, 0, none⟩)] (cntK L nl) m (quoF xss L nl) W5 (by omega) hm3 (fun _ _ => rfl) (fun x q hx hq W' hb =>
          quoLead_any (w.heap.size + 1) w.heap.size w4.heap.size A AL V4 nl m cap cl (leastK L nl).length c4 x q xss L W' HG.out HD.out (H5.out.below hb) (N5.out.below hb) (L5.out.below hb) ((hb.cell (cell_lt YC.out)).trans YC.out) ((hb.cell (cell_lt Y1.out)).trans Y1.out) ((hb.cell (cell_lt YL.out)).trans YL.out) hx hq)).mono ?_
        rintro e w6 ⟨v, rfl, t6, b6⟩
        obtain ⟨V6, c6, rfl⟩ := t6.form
        have xr := (b6.block _ (block_lt XR5.out)).trans XR5.out
        obtain ⟨e0, e1, e2, e3⟩ := box2_cells xr
        obtain ⟨g2, g3⟩ := box2_set xr (.int .i64 (cntK L nl : Int)) (.slice V6 (rowsF (cntK L nl) (quoF xss L nl) m).length c6)
        have T6 := Lib.hid t6
        have B6 := Lib.hid (below_then B5.out b6)
        have hl3 := Lib.hid (block_lt XR5.out)
        have hl0 := Lib.hid B5.out.size
        clear t6 b6 xr
        go_wp2_with fail
        refine bodyPost_ret (v := .tuple #[.agg #[.int .i64 (cntK L nl : Int), .slice V6 (rowsF (cntK L nl) (quoF xss L nl) m).length c6], .int .i64 0]) (by simp [results, Try.results32, go_sem, g2, g3]) rfl ?_
        refine autosTo_mk HF.out ?_ ((B6.out.setCell (by simp; omega) _).setCell (by simp; omega) _)
        rw [set2_size]
        exact (T6.out.only (set2_only _ _ _ _) (.inr hl3.out)).wide hl0.out (Nat.le_refl _)

set_option maxRecDepth 100000 in
set_option maxHeartbeats 3000000 in
theorem specQuotientOf_any (s : Int) (A : Option Addr) (m cap : Nat) (xss : List (List Int)) (AL : Option Addr) (nl cl : Nat) (L : List Int) (w : World) (h : RowsAt w A m xss) (hm : m ≤ 4611686018427387904)
    (hrows : ∀ (r : Nat) (xs : List Int), xss[r]? = some xs → xs.length ≤ 4611686018427387904) (hL : NumsAt w AL nl L) (hl : nl ≤ 1048576) :
    Calls Try.prog 30 #[.agg #[.int .i64 s, .slice A m cap], .slice AL nl cl] w (AutosTo (quotientOf s xss L) w) := by
  have HR := Lib.hid hrows
  have HM := Lib.hid h.1
  have HNLEN := Lib.hid hL.1
  obtain ⟨W2, hW2⟩ : ∃ W2, W2 = (w.alloc (.cells #[.int .i64 s, .slice A m cap] 29)).alloc (.cells #[.int .i64 0, .slice none 0 0] 29) := ⟨_, rfl⟩
  have b2 : Below w.heap.size w W2 := by rw [hW2]; go_grown
  have B2 := Lib.hid b2
  have x0 : W2.cell? ⟨w.heap.size, 0, none⟩ = some (.int .i64 s) := by rw [hW2]; go_cell
  have x1 : W2.cell? ⟨w.heap.size, 1, none⟩ = some (.slice A m cap) := by rw [hW2]; go_cell
  have xr : W2.heap[w.heap.size + 1]? = some (.cells #[.int .i64 0, .slice none 0 0] 29 (0, 0)) := by
    have := heap_alloc_new (w.alloc (.cells #[.int .i64 s, .slice A m cap] 29)) (.cells #[.int .i64 0, .slice none 0 0] 29)
    rw [World.size_alloc, ← hW2] at this
    exact this
  have H2 := Lib.hid (h.below b2)
  have N2 := Lib.hid (hL.below b2)
  have X0 := Lib.hid x0
  have X1 := Lib.hid x1
  have XR := Lib.hid xr
  have HW2 := Lib.hid hW2
  clear hrows b2 x0 x1 xr hW2
  rcases hok : okA s xss with _ | _
  · have HF := Lib.hid (quotientOf_1 (L := L) hok)
    go_enter Try.func30, Try.ntmps30
    go_wp2_with fail
    rw [← HW2.out]
    refine (l01Ok_any w.heap.size s A m cap xss _ X0.out X1.out H2.out hm HR.out).mono ?_
    rw [hok]
    rintro e w1 ⟨rfl, d, rfl⟩
    have b1 : Below W2.heap.size W2 (W2.drewN d) := below_drewN' (Below.refl _ _) d
    obtain ⟨w1, hw1⟩ : ∃ w1, w1 = W2.drewN d := ⟨_, rfl⟩
    rw [← hw1] at b1 ⊢
    have d0 : w1.cell? ⟨w.heap.size, 0, none⟩ = some (.int .i64 s) := (b1.cell (cell_lt X0.out)).trans X0.out
    have d1 : w1.cell? ⟨w.heap.size, 1, none⟩ = some (.slice A m cap) := (b1.cell (cell_lt X1.out)).trans X1.out
    have xr := (b1.block _ (block_lt XR.out)).trans XR.out
    obtain ⟨e0, e1, e2, e3⟩ := box2_cells xr
    have H1 := Lib.hid (H2.out.below b1)
    have N1 := Lib.hid (N2.out.below b1)
    have B1 := Lib.hid (below_then B2.out b1)
    obtain ⟨g2, g3⟩ := box2_set xr (.int .i64 0) (.slice none 0 0)
    have XR1 := Lib.hid xr
    clear b1 xr hw1
    go_wp2_with fail
    refine bodyPost_ret (v := .tuple #[.agg #[.int .i64 0, .slice none 0 0], .int .i64 1]) (by simp [results, Try.results30, go_sem, g2, g3]) rfl ?_
    exact autosTo_mk HF.out (tab_nil _ _ _) ((B1.out.setCell (by simp; try omega) _).setCell (by simp; try omega) _)
  · obtain ⟨n, hsn, hg⟩ := good_of hok HM.out
    subst hsn
    have HG := Lib.hid hg
    have hn10 : n ≤ 10 := hg.n10
    clear hg
    rcases hdv : divB (n : Int) L with _ | _
    · have HF := Lib.hid (quotientOf_2 hok hdv)
      go_enter Try.func30, Try.ntmps30
      go_wp2_with fail
      rw [← HW2.out]
      refine (l01Ok_any w.heap.size (n : Int) A m cap xss _ X0.out X1.out H2.out hm HR.out).mono ?_
      rw [hok]
      rintro e w1 ⟨rfl, d, rfl⟩
      have b1 : Below W2.heap.size W2 (W2.drewN d) := below_drewN' (Below.refl _ _) d
      obtain ⟨w1, hw1⟩ : ∃ w1, w1 = W2.drewN d := ⟨_, rfl⟩
      rw [← hw1] at b1 ⊢
      have d0 : w1.cell? ⟨w.heap.size, 0, none⟩ = some (.int .i64 (n : Int)) := (b1.cell (cell_lt X0.out)).trans X0.out
      have d1 : w1.cell? ⟨w.heap.size, 1, none⟩ = some (.slice A m cap) := (b1.cell (cell_lt X1.out)).trans X1.out
      have xr := (b1.block _ (block_lt XR.out)).trans XR.out
      obtain ⟨e0, e1, e2, e3⟩ := box2_cells xr
      have H1 := Lib.hid (H2.out.below b1)
      have N1 := Lib.hid (N2.out.below b1)
      have B1 := Lib.hid (below_then B2.out b1)
      obtain ⟨g2, g3⟩ := box2_set xr (.int .i64 0) (.slice none 0 0)
      have XR1 := Lib.hid xr
      clear b1 xr hw1
      go_wp2_with fail
      refine (l01Division_any AL nl cl L (n : Int) _ N1.out hl).mono ?_
      rw [hdv]
      rintro e w' ⟨rfl, rfl⟩
      go_wp2_with fail
      refine bodyPost_ret (v := .tuple #[.agg #[.int .i64 0, .slice none 0 0], .int .i64 2]) (by simp [results, Try.results30, go_sem, g2, g3]) rfl ?_
      exact autosTo_mk HF.out (tab_nil _ _ _) ((B1.out.setCell (by simp; try omega) _).setCell (by simp; try omega) _)
    · have hd := divOk_of hdv
      have hnl : nl = n := HNLEN.out.symm.trans hd.len
      subst hnl
      have HD := Lib.hid hd
      clear hd
      rcases hcg : congB nl m xss L with _ | _
      · have HF := Lib.hid (quotientOf_4 hok hdv HM.out hcg)
        go_enter Try.func30, Try.ntmps30
        go_wp2_with fail
        rw [← HW2.out]
        refine (l01Ok_any w.heap.size (nl : Int) A m cap xss _ X0.out X1.out H2.out hm HR.out).mono ?_
        rw [hok]
        rintro e w1 ⟨rfl, d, rfl⟩
        have b1 : Below W2.heap.size W2 (W2.drewN d) := below_drewN' (Below.refl _ _) d
        obtain ⟨w1, hw1⟩ : ∃ w1, w1 = W2.drewN d := ⟨_, rfl⟩
        rw [← hw1] at b1 ⊢
        have d0 : w1.cell? ⟨w.heap.size, 0, none⟩ = some (.int .i64 (nl : Int)) := (b1.cell (cell_lt X0.out)).trans X0.out
        have d1 : w1.cell? ⟨w.heap.size, 1, none⟩ = some (.slice A m cap) := (b1.cell (cell_lt X1.out)).trans X1.out
        have xr := (b1.block _ (block_lt XR.out)).trans XR.out
        obtain ⟨e0, e1, e2, e3⟩ := box2_cells xr
        have H1 := Lib.hid (H2.out.below b1)
        have N1 := Lib.hid (N2.out.below b1)
        have B1 := Lib.hid (below_then B2.out b1)
        obtain ⟨g2, g3⟩ := box2_set xr (.int .i64 0) (.slice none 0 0)
        have XR1 := Lib.hid xr
        clear b1 xr hw1
        clear e0 e1 e2 e3 g2 g3
        go_wp2_with fail
        refine (l01Division_any AL nl cl L (nl : Int) _ N1.out hl).mono ?_
        rw [hdv]
        rintro e w' ⟨rfl, rfl⟩
        go_wp2_with fail
        refine (l01Congruent_any w.heap.size A AL nl m cap cl xss L _ HG.out HD.out d1 H1.out N1.out).mono ?_
        rw [hcg]
        rintro e w3 ⟨rfl, d3, rfl⟩
        have b3 : Below w1.heap.size w1 (w1.drewN d3) := below_drewN' (Below.refl _ _) d3
        obtain ⟨w3, hw3⟩ : ∃ w3, w3 = w1.drewN d3 := ⟨_, rfl⟩
        rw [← hw3] at b3 ⊢
        have xr := (b3.block _ (block_lt XR1.out)).trans XR1.out
        obtain ⟨e0, e1, e2, e3⟩ := box2_cells xr
        obtain ⟨g2, g3⟩ := box2_set xr (.int .i64 0) (.slice none 0 0)
        have B3 := Lib.hid (below_then B1.out b3)
        clear b3 xr d0 d1 hw3
        go_wp2_with fail
        refine bodyPost_ret (v := .tuple #[.agg #[.int .i64 0, .slice none 0 0], .int .i64 4]) (by simp [results, Try.results30, go_sem, g2, g3]) rfl ?_
        exact autosTo_mk HF.out (tab_nil _ _ _) ((B3.out.setCell (by simp; try omega) _).setCell (by simp; try omega) _)
      · have HF := Lib.hid (quotientOf_0 hok hdv HM.out hcg)
        go_enter Try.func30, Try.ntmps30
        go_wp2_with fail
        rw [← HW2.out]
        refine (l01Ok_any w.heap.size (nl : Int) A m cap xss _ X0.out X1.out H2.out hm HR.out).mono ?_
        rw [hok]
        rintro e w1 ⟨rfl, d, rfl⟩
        have b1 : Below W2.heap.size W2 (W2.drewN d) := below_drewN' (Below.refl _ _) d
        obtain ⟨w1, hw1⟩ : ∃ w1, w1 = W2.drewN d := ⟨_, rfl⟩
        rw [← hw1] at b1 ⊢
        have d0 : w1.cell? ⟨w.heap.size, 0, none⟩ = some (.int .i64 (nl : Int)) := (b1.cell (cell_lt X0.out)).trans X0.out
        have d1 : w1.cell? ⟨w.heap.size, 1, none⟩ = some (.slice A m cap) := (b1.cell (cell_lt X1.out)).trans X1.out
        have xr := (b1.block _ (block_lt XR.out)).trans XR.out
        obtain ⟨e0, e1, e2, e3⟩ := box2_cells xr
        have H1 := Lib.hid (H2.out.below b1)
        have N1 := Lib.hid (N2.out.below b1)
        have B1 := Lib.hid (below_then B2.out b1)
        obtain ⟨g2, g3⟩ := box2_set xr (.int .i64 0) (.slice none 0 0)
        have XR1 := Lib.hid xr
        clear b1 xr hw1
        clear e0 e1 e2 e3 g2 g3
        go_wp2_with fail
        refine (l01Division_any AL nl cl L (nl : Int) _ N1.out hl).mono ?_
        rw [hdv]
        rintro e w' ⟨rfl, rfl⟩
        go_wp2_with fail
        refine (l01Congruent_any w.heap.size A AL nl m cap cl xss L _ HG.out HD.out d1 H1.out N1.out).mono ?_
        rw [hcg]
        rintro e w3 ⟨rfl, d3, rfl⟩
        have b3 : Below w1.heap.size w1 (w1.drewN d3) := below_drewN' (Below.refl _ _) d3
        obtain ⟨w3, hw3⟩ : ∃ w3, w3 = w1.drewN d3 := ⟨_, rfl⟩
        rw [← hw3] at b3 ⊢
        have d0 : w3.cell? ⟨w.heap.size, 0, none⟩ = some (.int .i64 (nl : Int)) := (b3.cell (cell_lt d0)).trans d0
        have d1 : w3.cell? ⟨w.heap.size, 1, none⟩ = some (.slice A m cap) := (b3.cell (cell_lt d1)).trans d1
        have H3 := Lib.hid (H1.out.below b3)
        have N3 := Lib.hid (N1.out.below b3)
        have XR3 := Lib.hid ((b3.block _ (block_lt XR1.out)).trans XR1.out)
        have B3 := Lib.hid (below_then B1.out b3)
        clear b3 hw3
        go_wp2_with fail
        refine (l01Quotient_any w.heap.size A AL nl m cap cl xss L _ HG.out hdv HD.out (congB_is hcg) d1 H3.out N3.out).mono ?_
        rintro e w4 ⟨v, rfl, t4, b4⟩
        obtain ⟨V4, c4, rfl⟩ := t4.form
        have xr := (b4.block _ (block_lt XR3.out)).trans XR3.out
        obtain ⟨e0, e1, e2, e3⟩ := box2_cells xr
        obtain ⟨g2, g3⟩ := box2_set xr (.int .i64 (cntK L nl : Int)) (.slice V4 (rowsF (cntK L nl) (quoF xss L nl) m).length c4)
        have T4 := Lib.hid t4
        have B4 := Lib.hid (below_then B3.out b4)
        have hl3 := Lib.hid (block_lt XR3.out)
        have hl0 := Lib.hid B3.out.size
        clear t4 b4 xr d0 d1
        go_wp2_with fail
        refine bodyPost_ret (v := .tuple #[.agg #[.int .i64 (cntK L nl : Int), .slice V4 (rowsF (cntK L nl) (quoF xss L nl) m).length c4], .int .i64 0]) (by simp [results, Try.results30, go_sem, g2, g3]) rfl ?_
        refine autosTo_mk HF.out ?_ ((B4.out.setCell (by simp) _).setCell (by simp) _)
        rw [set2_size]
        exact (T4.out.only (set2_only _ _ _ _) (.inr hl3.out)).wide hl0.out (Nat.le_refl _)

end Go.Proofs.Ytfkmpabohebcfaa
