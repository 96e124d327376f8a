/-
  The product of two automata: the contract of the model's ProductOf.
-/
import Derived.Test.YtfkmpabohebcfaaProd
import Derived.Test.YtfkmpabohebcfaaRen
namespace Go.Proofs.Ytfkmpabohebcfaa
open Go.RowKit Go.Deep Go.ChangeShapes Go.WideShapes

theorem prodF_at (xss yss : List (List Int)) {k q : Nat} (x p : Nat) (hq : q < k) : prodF xss yss k x (p * k + q) = ((nx xss x p : Nat) : Int) * (k : Int) + ((nx yss x q : Nat) : Int) := by
  unfold prodF
  have h1 : (p * k + q) / k = p := by rw [Nat.add_comm, Nat.add_mul_div_right _ _ (by omega), Nat.div_eq_of_lt hq, Nat.zero_add]
  have h2 : (p * k + q) % k = q := by rw [Nat.add_comm, Nat.add_mul_mod_self_right, Nat.mod_eq_of_lt hq]
  rw [h1, h2]

set_option maxRecDepth 100000 in
set_option maxHeartbeats 8000000 in
theorem specProductOf_any (s : Int) (A : Option Addr) (m cap : Nat) (xss : List (List Int)) (s' : Int) (A' : Option Addr) (m' cap' : Nat) (yss : List (List Int)) (w : World) (h : RowsAt w A m xss) (hm : m ≤ 4611686018427387904)
    (hrows : ∀ (r : Nat) (xs : List Int), xss[r]? = some xs → xs.length ≤ 4611686018427387904) (h' : RowsAt w A' m' yss) (hm' : m' ≤ 4611686018427387904)
    (hrows' : ∀ (r : Nat) (xs : List Int), yss[r]? = some xs → xs.length ≤ 4611686018427387904) :
    Calls Try.prog 38 #[.agg #[.int .i64 s, .slice A m cap], .agg #[.int .i64 s', .slice A' m' cap']] w (AutosTo (productOf s xss s' yss) w) := by
  obtain ⟨i0, hi, hz0, hz1, hz2⟩ := info_parts info_int64
  obtain ⟨i1, hi1, hy0, hy1, hy2⟩ := info_parts info_ints
  have HR := Lib.hid hrows
  have HR' := Lib.hid hrows'
  have HM := Lib.hid h.1
  have HM' := Lib.hid h'.1
  obtain ⟨W2, hW2⟩ : ∃ W2, W2 = ((w.alloc (.cells #[.int .i64 s, .slice A m cap] 29)).alloc (.cells #[.int .i64 s', .slice A' m' cap'] 29)).alloc (.cells #[.int .i64 0, .slice none 0 0] 29) := ⟨_, rfl⟩
  have b2 : Below w.heap.size w W2 := by rw [hW2]; go_grown
  have x0 : W2.cell? ⟨w.heap.size, 0, none⟩ = some (.int .i64 s) := by rw [hW2]; go_cell
  have x1 : W2.cell? ⟨w.heap.size, 1, none⟩ = some (.slice A m cap) := by rw [hW2]; go_cell
  have y0 : W2.cell? ⟨w.heap.size + 1, 0, none⟩ = some (.int .i64 s') := by rw [hW2]; go_cell
  have y1 : W2.cell? ⟨w.heap.size + 1, 1, none⟩ = some (.slice A' m' cap') := by rw [hW2]; go_cell
  have xr : W2.heap[w.heap.size + 2]? = some (.cells #[.int .i64 0, .slice none 0 0] 29 (0, 0)) := by
    have := heap_alloc_new ((w.alloc (.cells #[.int .i64 s, .slice A m cap] 29)).alloc (.cells #[.int .i64 s', .slice A' m' cap'] 29)) (.cells #[.int .i64 0, .slice none 0 0] 29)
    rw [World.size_alloc, World.size_alloc, ← hW2] at this
    exact this
  have B2 := Lib.hid b2
  have H2 := Lib.hid (h.below b2)
  have H2' := Lib.hid (h'.below b2)
  have X0 := Lib.hid x0
  have X1 := Lib.hid x1
  have Y0 := Lib.hid y0
  have Y1 := Lib.hid y1
  have XR := Lib.hid xr
  have HW2 := Lib.hid hW2
  clear hrows hrows' b2 x0 x1 y0 y1 xr hW2
  rcases hok : okA s xss with _ | _
  · have HF := Lib.hid (productOf_1 (s' := s') (yss := yss) hok)
    go_enter Try.func38, Try.ntmps38
    go_wp2_with fail
    rw [← HW2.out]
    refine (l01Ok_any w.heap.size s A m cap xss _ X0.out X1.out H2.out hm HR.out).mono ?_
    rw [hok]
    rintro e w1 ⟨rfl, d, rfl⟩
    have b1 : Below W2.heap.size W2 (W2.drewN d) := below_drewN' (Below.refl _ _) d
    obtain ⟨w1, hw1⟩ : ∃ w1, w1 = W2.drewN d := ⟨_, rfl⟩
    rw [← hw1] at b1 ⊢
    clear hw1
    have d0 : w1.cell? ⟨w.heap.size, 0, none⟩ = some (.int .i64 s) := (b1.cell (cell_lt X0.out)).trans X0.out
    have d1 : w1.cell? ⟨w.heap.size, 1, none⟩ = some (.slice A m cap) := (b1.cell (cell_lt X1.out)).trans X1.out
    have f0 : w1.cell? ⟨w.heap.size + 1, 0, none⟩ = some (.int .i64 s') := (b1.cell (cell_lt Y0.out)).trans Y0.out
    have f1 : w1.cell? ⟨w.heap.size + 1, 1, none⟩ = some (.slice A' m' cap') := (b1.cell (cell_lt Y1.out)).trans Y1.out
    have xr := (b1.block _ (block_lt XR.out)).trans XR.out
    obtain ⟨e0, e1, e2, e3⟩ := box2_cells xr
    have BB := Lib.hid (below_then B2.out b1)
    obtain ⟨g2, g3⟩ := box2_set xr (.int .i64 0) (.slice none 0 0)
    clear xr
    go_wp2_with fail
    refine bodyPost_ret (v := .tuple #[.agg #[.int .i64 0, .slice none 0 0], .int .i64 1]) (by simp [results, Try.results38, go_sem, g2, g3]) rfl ?_
    exact autosTo_mk HF.out (tab_nil _ _ _) ((BB.out.setCell (by simp; try omega) _).setCell (by simp; try omega) _)
  · rcases hok' : okA s' yss with _ | _
    · have HF := Lib.hid (productOf_1' (s := s) (xss := xss) hok')
      go_enter Try.func38, Try.ntmps38
      go_wp2_with fail
      rw [← HW2.out]
      refine (l01Ok_any w.heap.size s A m cap xss _ X0.out X1.out H2.out hm HR.out).mono ?_
      rw [hok]
      rintro e w1 ⟨rfl, d, rfl⟩
      have b1 : Below W2.heap.size W2 (W2.drewN d) := below_drewN' (Below.refl _ _) d
      obtain ⟨w1, hw1⟩ : ∃ w1, w1 = W2.drewN d := ⟨_, rfl⟩
      rw [← hw1] at b1 ⊢
      clear hw1
      have d0 : w1.cell? ⟨w.heap.size, 0, none⟩ = some (.int .i64 s) := (b1.cell (cell_lt X0.out)).trans X0.out
      have d1 : w1.cell? ⟨w.heap.size, 1, none⟩ = some (.slice A m cap) := (b1.cell (cell_lt X1.out)).trans X1.out
      have f0 : w1.cell? ⟨w.heap.size + 1, 0, none⟩ = some (.int .i64 s') := (b1.cell (cell_lt Y0.out)).trans Y0.out
      have f1 : w1.cell? ⟨w.heap.size + 1, 1, none⟩ = some (.slice A' m' cap') := (b1.cell (cell_lt Y1.out)).trans Y1.out
      have xr := (b1.block _ (block_lt XR.out)).trans XR.out
      obtain ⟨e0, e1, e2, e3⟩ := box2_cells xr
      have BB := Lib.hid (below_then B2.out b1)
      clear xr
      have H1' := Lib.hid (H2'.out.below b1)
      go_wp2_with fail
      refine (l01Ok_any (w.heap.size + 1) s' A' m' cap' yss _ f0 f1 H1'.out hm' HR'.out).mono ?_
      rw [hok']
      rintro e w2 ⟨rfl, d', rfl⟩
      have b2 : Below w1.heap.size w1 (w1.drewN d') := below_drewN' (Below.refl _ _) d'
      obtain ⟨w2, hw2⟩ : ∃ w2, w2 = w1.drewN d' := ⟨_, rfl⟩
      rw [← hw2] at b2 ⊢
      have b12 := below_then b1 b2
      clear hw2 d0 d1 f0 f1 e0 e1 e2 e3 BB b1 b2
      have d0 : w2.cell? ⟨w.heap.size, 0, none⟩ = some (.int .i64 s) := (b12.cell (cell_lt X0.out)).trans X0.out
      have d1 : w2.cell? ⟨w.heap.size, 1, none⟩ = some (.slice A m cap) := (b12.cell (cell_lt X1.out)).trans X1.out
      have f0 : w2.cell? ⟨w.heap.size + 1, 0, none⟩ = some (.int .i64 s') := (b12.cell (cell_lt Y0.out)).trans Y0.out
      have f1 : w2.cell? ⟨w.heap.size + 1, 1, none⟩ = some (.slice A' m' cap') := (b12.cell (cell_lt Y1.out)).trans Y1.out
      have xr := (b12.block _ (block_lt XR.out)).trans XR.out
      obtain ⟨e0, e1, e2, e3⟩ := box2_cells xr
      have BB := Lib.hid (below_then B2.out b12)
      obtain ⟨g2, g3⟩ := box2_set xr (.int .i64 0) (.slice none 0 0)
      clear xr
      go_wp2_with fail
      refine bodyPost_ret (v := .tuple #[.agg #[.int .i64 0, .slice none 0 0], .int .i64 1]) (by simp [results, Try.results38, go_sem, g2, g3]) rfl ?_
      exact autosTo_mk HF.out (tab_nil _ _ _) ((BB.out.setCell (by simp; try omega) _).setCell (by simp; try omega) _)
    · obtain ⟨n, hsn, hg⟩ := good_of hok HM.out
      obtain ⟨k, hsk, hg'⟩ := good_of hok' HM'.out
      subst hsn
      subst hsk
      have hn10 : n ≤ 10 := hg.n10
      have hk10 : k ≤ 10 := hg'.n10
      have hm3 : m ≤ 3 := hg.m3
      have hm3' : m' ≤ 3 := hg'.m3
      have HG := Lib.hid hg
      have HG' := Lib.hid hg'
      clear hg hg'
      by_cases hmm : m = m'
      · subst hmm
        obtain ⟨P, hP⟩ : ∃ P, P = n * k := ⟨_, rfl⟩
        have hPi : (n : Int) * (k : Int) = (P : Int) := by rw [hP, Int.natCast_mul]
        have hP100 : P ≤ 100 := by rw [hP]; exact Nat.mul_le_mul hn10 hk10
        have hz : ((m : Int) != (m : Int)) = false := by rw [bne_eq_false_iff_eq]
        by_cases hp10 : P ≤ 10
        · have HF := Lib.hid (productOf_0 hok hok' HM.out HM'.out (by omega))
          rw [hPi, ← hP] at HF
          have HP := Lib.hid hP
          clear hP
          go_enter Try.func38, Try.ntmps38
          go_wp2_with fail
          rw [← HW2.out]
          refine (l01Ok_any w.heap.size (n : Int) A m cap xss _ X0.out X1.out H2.out hm HR.out).mono ?_
          rw [hok]
          rintro e w1 ⟨rfl, d, rfl⟩
          have b1 : Below W2.heap.size W2 (W2.drewN d) := below_drewN' (Below.refl _ _) d
          obtain ⟨w1, hw1⟩ : ∃ w1, w1 = W2.drewN d := ⟨_, rfl⟩
          rw [← hw1] at b1 ⊢
          clear hw1
          have d0 : w1.cell? ⟨w.heap.size, 0, none⟩ = some (.int .i64 (n : Int)) := (b1.cell (cell_lt X0.out)).trans X0.out
          have d1 : w1.cell? ⟨w.heap.size, 1, none⟩ = some (.slice A m cap) := (b1.cell (cell_lt X1.out)).trans X1.out
          have f0 : w1.cell? ⟨w.heap.size + 1, 0, none⟩ = some (.int .i64 (k : Int)) := (b1.cell (cell_lt Y0.out)).trans Y0.out
          have f1 : w1.cell? ⟨w.heap.size + 1, 1, none⟩ = some (.slice A' m cap') := (b1.cell (cell_lt Y1.out)).trans Y1.out
          have xr := (b1.block _ (block_lt XR.out)).trans XR.out
          obtain ⟨e0, e1, e2, e3⟩ := box2_cells xr
          have BB := Lib.hid (below_then B2.out b1)
          clear xr
          have H1' := Lib.hid (H2'.out.below b1)
          go_wp2_with fail
          refine (l01Ok_any (w.heap.size + 1) (k : Int) A' m cap' yss _ f0 f1 H1'.out hm HR'.out).mono ?_
          rw [hok']
          rintro e w2 ⟨rfl, d', rfl⟩
          have b2 : Below w1.heap.size w1 (w1.drewN d') := below_drewN' (Below.refl _ _) d'
          obtain ⟨w2, hw2⟩ : ∃ w2, w2 = w1.drewN d' := ⟨_, rfl⟩
          rw [← hw2] at b2 ⊢
          have b12 := below_then b1 b2
          clear hw2 d0 d1 f0 f1 e0 e1 e2 e3 BB b1 b2
          have d0 : w2.cell? ⟨w.heap.size, 0, none⟩ = some (.int .i64 (n : Int)) := (b12.cell (cell_lt X0.out)).trans X0.out
          have d1 : w2.cell? ⟨w.heap.size, 1, none⟩ = some (.slice A m cap) := (b12.cell (cell_lt X1.out)).trans X1.out
          have f0 : w2.cell? ⟨w.heap.size + 1, 0, none⟩ = some (.int .i64 (k : Int)) := (b12.cell (cell_lt Y0.out)).trans Y0.out
          have f1 : w2.cell? ⟨w.heap.size + 1, 1, none⟩ = some (.slice A' m cap') := (b12.cell (cell_lt Y1.out)).trans Y1.out
          have xr := (b12.block _ (block_lt XR.out)).trans XR.out
          obtain ⟨e0, e1, e2, e3⟩ := box2_cells xr
          have BB := Lib.hid (below_then B2.out b12)
          have hpi : (P : Int) ≤ 10 := by omega
          clear xr e0 e1 e2 e3 BB
          have b13 := below_then b12 (show Below w2.heap.size w2 (w2.alloc (.cells #[.int .i64 (P : Int), .slice none 0 0] 29)) from (Below.refl _ _).alloc (Nat.le_refl _) _)
          have q0 : (w2.alloc (.cells #[.int .i64 (P : Int), .slice none 0 0] 29)).cell? ⟨w.heap.size, 0, none⟩ = some (.int .i64 (n : Int)) := (b13.cell (cell_lt X0.out)).trans X0.out
          have q1 : (w2.alloc (.cells #[.int .i64 (P : Int), .slice none 0 0] 29)).cell? ⟨w.heap.size, 1, none⟩ = some (.slice A m cap) := (b13.cell (cell_lt X1.out)).trans X1.out
          have r0 : (w2.alloc (.cells #[.int .i64 (P : Int), .slice none 0 0] 29)).cell? ⟨w.heap.size + 1, 0, none⟩ = some (.int .i64 (k : Int)) := (b13.cell (cell_lt Y0.out)).trans Y0.out
          have r1 : (w2.alloc (.cells #[.int .i64 (P : Int), .slice none 0 0] 29)).cell? ⟨w.heap.size + 1, 1, none⟩ = some (.slice A' m cap') := (b13.cell (cell_lt Y1.out)).trans Y1.out
          have xr := (b13.block _ (block_lt XR.out)).trans XR.out
          obtain ⟨e0, e1, e2, e3⟩ := box2_cells xr
          have BB := Lib.hid (below_then B2.out b13)
          have QB := Lib.hid (show (w2.alloc (.cells #[.int .i64 (P : Int), .slice none 0 0] 29)).heap[w2.heap.size]? = some (.cells #[.int .i64 (P : Int), .slice none 0 0] 29 (0, 0)) from heap_alloc_new _ _)
          have Q0 := Lib.hid q0
          have Q1 := Lib.hid q1
          have R0 := Lib.hid r0
          have R1 := Lib.hid r1
          have XR3 := Lib.hid xr
          have H3 := Lib.hid (H2.out.below b13)
          have H3' := Lib.hid (H2'.out.below b13)
          have hlb := b12.size
          have hlc := block_lt XR.out
          have HLB := Lib.hid (show w.heap.size + 3 ≤ w2.heap.size by omega)
          have HSZ0 := Lib.hid (show w2.heap.size + 1 ≤ (w2.alloc (.cells #[.int .i64 (P : Int), .slice none 0 0] 29)).heap.size by simp)
          clear xr e0 e1 e2 e3 hlb hlc b12 b13
          go_wp2_with fail
          clear q0 q1 r0 r1 d0 d1 f0 f1
          obtain ⟨W4, hW4⟩ : ∃ W4, W4 = (w2.alloc (.cells #[.int .i64 (P : Int), .slice none 0 0] 29)) := ⟨_, rfl⟩
          obtain ⟨GB, hGB⟩ : ∃ GB, GB = w2.heap.size := ⟨_, rfl⟩
          rw [← hW4, ← hGB]
          rw [← hW4] at BB QB Q0 Q1 R0 R1 XR3 H3 H3' HSZ0
          rw [← hGB] at QB HLB HSZ0
          clear hW4 hGB
          go_loopw [7] (fun i wr => ∃ (x : Nat) (v : Value) (vs : List Value), x ≤ m ∧ i = .int .i64 x ∧ wr.heap[GB]? = some (.cells #[.int .i64 (P : Int), v] 29 (0, 0)) ∧
              TabV (GB + 1) wr.heap.size wr v vs (rowsF P (prodF xss yss k) x) ∧ Below GB W4 wr ∧ GB + 1 ≤ wr.heap.size) (fun i _ => m - (intOf i).toNat)
          case atStart => exact ⟨0, .slice none 0 0, [], Nat.zero_le _, rfl, QB.out, tabV_nil _ _ _ _ _, Below.refl _ _, HSZ0.out⟩
          case round =>
            obtain ⟨x, v, vs, hx, rfl, hx1, htab, hbel, hlo⟩ := hrel
            obtain ⟨A3, c3, rfl⟩ := own_form htab.out
            have HX1 := Lib.hid hx1
            have HT := Lib.hid htab
            have HB := Lib.hid hbel
            have HLO := Lib.hid hlo
            have z1 : wr.cell? ⟨w.heap.size, 1, none⟩ = some (.slice A m cap) := (hbel.cell (show w.heap.size < GB by have := HLB.out; omega)).trans Q1.out
            by_cases hlt : x < m
            · clear hx1 htab hbel hlo
              obtain ⟨G9, hG9⟩ : ∃ G9, G9 = wr.heap.size := ⟨_, rfl⟩
              have HG9 := Lib.hid hG9
              have hb1 : Below wr.heap.size wr (wr.alloc (.cells #[] 2)) := (Below.refl _ _).alloc (Nat.le_refl _) _
              have HN0 := Lib.hid (own_none' (w := wr) (base := G9) (g := G9) hG9 (Nat.le_of_eq hG9))
              have HT1 := Lib.hid (HT.out.below hb1)
              have HY1 := Lib.hid ((hb1.block _ (block_lt HX1.out)).trans HX1.out)
              have HB1 := Lib.hid (HB.out.trans (hb1.mono (Nat.le_of_succ_le HLO.out)))
              have HZ1 := Lib.hid (show wr.heap.size + 1 ≤ (wr.alloc (.cells #[] 2)).heap.size by simp)
              have HLO := Lib.hid (show GB + 1 ≤ G9 by rw [hG9]; exact HLO.out)
              rw [← hG9] at HT1 HZ1
              clear hG9 hb1
              go_wp2_with fail
              rw [← HG9.out]
              clear z1
              go_loopw [8, 9] (fun rv j wi => ∃ (p : Nat) (C : List Int), p ≤ n ∧ j = .int .i64 p ∧ C = (List.range (p * k)).map (prodF xss yss k x) ∧ wi.heap[GB]? = some (.cells #[.int .i64 (P : Int), .slice A3 (rowsF P (prodF xss yss k) x).length c3] 29 (0, 0)) ∧
                  TabV (GB + 1) G9 wi (.slice A3 (rowsF P (prodF xss yss k) x).length c3) vs (rowsF P (prodF xss yss k) x) ∧ wi.ownsRow G9 2 1 rv C.length (C.map (Value.int .i64)) ∧ Below GB W4 wi ∧ G9 + 1 ≤ wi.heap.size) (fun _ j _ => n - (intOf j).toNat)
              case atStart => exact ⟨0, [], Nat.zero_le _, rfl, by simp, HY1.out, HT1.out, HN0.out, HB1.out, HZ1.out⟩
              case round =>
                obtain ⟨p, C, hp, rfl, hC, hz1, htb, hown, hbl, hsz⟩ := hrel
                have hpk : p * k ≤ 10 * 10 := Nat.mul_le_mul (by omega) hk10
                have hclen : C.length ≤ 100 := by rw [hC]; simp; omega
                obtain ⟨A5, c5, rfl⟩ := own_form hown
                have HC := Lib.hid hC
                have HZ1 := Lib.hid hz1
                have HTB := Lib.hid htb
                have HOW := Lib.hid hown
                have HBL := Lib.hid hbl
                have HSZ := Lib.hid hsz
                have z0 : World.cell? ‹World› ⟨w.heap.size, 0, none⟩ = some (.int .i64 (n : Int)) := (hbl.cell (show w.heap.size < GB by have := HLB.out; omega)).trans Q0.out
                clear hC hz1 htb hown hbl hsz HT1 HY1 HB1 HN0
                by_cases hpn : p < n
                · go_wp2_with fail
                  clear z0
                  go_loopw [8, 10] (fun rv j wi => ∃ (q : Nat) (C : List Int), q ≤ k ∧ j = .int .i64 q ∧ C = (List.range (p * k + q)).map (prodF xss yss k x) ∧ wi.heap[GB]? = some (.cells #[.int .i64 (P : Int), .slice A3 (rowsF P (prodF xss yss k) x).length c3] 29 (0, 0)) ∧
                      TabV (GB + 1) G9 wi (.slice A3 (rowsF P (prodF xss yss k) x).length c3) vs (rowsF P (prodF xss yss k) x) ∧ wi.ownsRow G9 2 1 rv C.length (C.map (Value.int .i64)) ∧ Below GB W4 wi ∧ G9 + 1 ≤ wi.heap.size) (fun _ j _ => k - (intOf j).toNat)
                  case atStart => exact ⟨0, C, Nat.zero_le _, rfl, HC.out, HZ1.out, HTB.out, HOW.out, HBL.out, HSZ.out⟩
                  case round =>
                    clear HC HZ1 HTB HOW HBL HSZ hclen
                    obtain ⟨q, C, hq, rfl, hC, hz1, htb, hown, hbl, hsz⟩ := hrel
                    have hclen : C.length ≤ 110 := by rw [hC]; simp; omega
                    obtain ⟨A5, c5, rfl⟩ := own_form hown
                    have HC := Lib.hid hC
                    have HZ1 := Lib.hid hz1
                    have HTB := Lib.hid htb
                    have HOW := Lib.hid hown
                    have HBL := Lib.hid hbl
                    have HSZ := Lib.hid hsz
                    have z0 : World.cell? ‹World› ⟨w.heap.size + 1, 0, none⟩ = some (.int .i64 (k : Int)) := (hbl.cell (show w.heap.size + 1 < GB by have := HLB.out; omega)).trans R0.out
                    clear hC hz1 htb hown hbl hsz
                    by_cases hqk : q < k
                    · obtain ⟨b, off1, b2, off2, cr, hA, hcr, hcells⟩ := row_base HG.out h hlt
                      obtain ⟨b', off1', b2', off2', cr', hA', hcr', hcells'⟩ := row_base HG'.out h' hlt
                      have hct := hcells p hpn
                      have hct' := hcells' q hqk
                      have hv := nx_lt' HG.out hlt hpn
                      have hv' := nx_lt' HG'.out hlt hqk
                      have he := prodF_at xss yss x p hqk
                      obtain ⟨V, hV⟩ : ∃ V, V = nx xss x p := ⟨_, rfl⟩
                      obtain ⟨V', hV'⟩ : ∃ V', V' = nx yss x q := ⟨_, rfl⟩
                      obtain ⟨U, hU⟩ : ∃ U, U = V * k := ⟨_, rfl⟩
                      rw [← hV] at hct hv he
                      rw [← hV'] at hct' hv' he
                      have hUi : (V : Int) * (k : Int) = (U : Int) := by rw [hU, Int.natCast_mul]
                      rw [hUi] at he
                      have hU100 : U ≤ 10 * 10 := by rw [hU]; exact Nat.mul_le_mul (by omega) hk10
                      obtain ⟨S, hS⟩ : ∃ S, S = U + V' := ⟨_, rfl⟩
                      have hSi : (U : Int) + (V' : Int) = (S : Int) := by rw [hS, Int.natCast_add]
                      rw [hSi] at he
                      have HE := Lib.hid he
                      have hwU : IntKind.i64.wrap (U : Int) = (U : Int) := IntWalk.i64_in _ (by omega)
                      have hwS : IntKind.i64.wrap (S : Int) = (S : Int) := IntWalk.i64_in _ (by omega)
                      have i1 : (0 : Int) ≤ (x : Int) := by omega
                      have i2 : (x : Int) < (m : Int) := by omega
                      have i3 : (0 : Int) ≤ (p : Int) := by omega
                      have i4 : (p : Int) < (n : Int) := by omega
                      have i5 : (0 : Int) ≤ (q : Int) := by omega
                      have i6 : (q : Int) < (k : Int) := by omega
                      subst hA
                      subst hA'
                      have hwg : GB ≤ G9 := Nat.le_of_succ_le HLO.out
                      have hwb : w.heap.size ≤ GB := by have := HLB.out; omega
                      have hq : ∀ W', Below G9 wr W' → Below GB W4 W' := fun W' hb => HBL.out.trans (hb.mono hwg)
                      have hqw : ∀ W', Below G9 wr W' → Below w.heap.size w W' := fun W' hb => BB.out.trans ((hq W' hb).mono hwb)
                      have HQ := Lib.hid hq
                      have r1 : ∀ W', Below G9 wr W' → W'.cell? ⟨w.heap.size, 1, none⟩ = some (.slice (some ⟨b, off1, none⟩) m cap) := fun W' hb => ((hq W' hb).cell (show w.heap.size < GB by have := HLB.out; omega)).trans Q1.out
                      have r2 : ∀ W', Below G9 wr W' → W'.cell? ⟨b, off1 + x, none⟩ = some (.slice (some ⟨b2, off2, none⟩) n cr) := fun W' hb => ((hqw W' hb).cell (cell_lt hcr)).trans hcr
                      have r3 : ∀ W', Below G9 wr W' → W'.cell? ⟨b2, off2 + p, none⟩ = some (.int .i64 (V : Int)) := fun W' hb => ((hqw W' hb).cell (cell_lt hct)).trans hct
                      have r4 : ∀ W', Below G9 wr W' → W'.cell? ⟨w.heap.size + 1, 0, none⟩ = some (.int .i64 (k : Int)) := fun W' hb => ((hq W' hb).cell (show w.heap.size + 1 < GB by have := HLB.out; omega)).trans R0.out
                      have r5 : ∀ W', Below G9 wr W' → W'.cell? ⟨w.heap.size + 1, 1, none⟩ = some (.slice (some ⟨b', off1', none⟩) m cap') := fun W' hb => ((hq W' hb).cell (show w.heap.size + 1 < GB by have := HLB.out; omega)).trans R1.out
                      have r6 : ∀ W', Below G9 wr W' → W'.cell? ⟨b', off1' + x, none⟩ = some (.slice (some ⟨b2', off2', none⟩) k cr') := fun W' hb => ((hqw W' hb).cell (cell_lt hcr')).trans hcr'
                      have r7 : ∀ W', Below G9 wr W' → W'.cell? ⟨b2', off2' + q, none⟩ = some (.int .i64 (V' : Int)) := fun W' hb => ((hqw W' hb).cell (cell_lt hct')).trans hct'
                      have h9 : Below G9 wr wr := Below.refl _ _
                      have HGZ := Lib.hid (show G9 ≤ wr.heap.size by have := HSZ.out; omega)
                      have HROW := Lib.hid (fun g (hg : (Value.slice A5 C.length c5).ownBlock = some g) => (HOW.out.lt g hg).1)
                      clear hcells hcells' hct hct' hcr hcr' he hV hV' hU hS hU100 hq hqw hwg hwb z0
                      go_wp2_with fail
                      go_region_held3 (fun w' => Below G9 wr w') (first | assumption | exact below_drewN' (by assumption) _ | exact ((Below.refl _ _).alloc HGZ.out _).drew | exact (Below.refl _ _).alloc HGZ.out _ | exact (below_drewN' (Below.refl _ _) _).alloc HGZ.out _ | exact HB5.out)
                        (first
                          | (refine step_append_lies _ rfl _ _ 26 rfl G9 2 i0 (.int .i64 0) 1 8 Try.underlying26 hi hz0 hz1 hz2 rfl (by decide) _ _ _ rfl (own_below HOW.out (by first | exact ((Below.refl _ _).alloc (Nat.le_refl _) _).drew | exact (Below.refl _ _).alloc (Nat.le_refl _) _ | exact (below_drewN' (Below.refl _ _) _).alloc (Nat.le_refl _) _)) ⟨_, 0, none⟩ 1 1 [.int .i64 (S : Int)] rfl rfl (by intro j u hu; exact cell_one_new _ _ _ j u hu) (ones_i64 [(S : Int)]) (by decide) (by unfold maxLen; omega) (by omega) (by have := HGZ.out; first | (simp; omega) | (show G9 ≤ (World.alloc _ _).heap.size; simp; omega)) _ rfl ?_; intro g5 cap5 w5 hown5 hgrow5 hat5 hlt5; have HO5 := Lib.hid hown5; have HG5 := Lib.hid hgrow5; have HB5 : Hid (Below G9 wr w5) := Lib.hid (Below.grown (by first | exact ((Below.refl _ _).alloc HGZ.out _).drew | exact (Below.refl _ _).alloc HGZ.out _ | exact (below_drewN' (Below.refl _ _) _).alloc HGZ.out _) hgrow5 (by have := HGZ.out; first | (simp; omega) | (show G9 ≤ (World.alloc _ _).heap.size; simp; omega)) (fun g hg => HROW.out g hg)); clear hown5 hgrow5 hat5 hlt5))
                      have HLT5 := Lib.hid (show G9 + 1 ≤ w5.heap.size by have h1 := HB5.out.size; have h2 := HSZ.out; omega)
                      go_wp2_with fail
                      go_roundw
                      case rel =>
                        have hlo := HLO.out
                        have hon := only_of_below' HB5.out
                        refine ⟨q + 1, C ++ [(S : Int)], by omega, by go_num, by rw [← Nat.add_assoc, List.range_succ, List.map_append, ← HC.out]; simp only [List.map_cons, List.map_nil]; rw [HE.out], (HB5.out.block _ (by omega)).trans HZ1.out, HTB.out.only hon (.inl (Nat.le_refl _)), by rw [List.length_append, List.map_append]; exact HO5.out, HQ.out _ HB5.out, HLT5.out⟩
                      case measure => simp [intOf]; omega
                    · have hqe : q = k := by omega
                      have HQE := Lib.hid hqe
                      clear hqe
                      go_wp2_with fail
                      go_roundw
                      case rel =>
                        refine ⟨p + 1, C, by omega, by go_num, by rw [HC.out, HQE.out, Nat.add_mul, Nat.one_mul], HZ1.out, HTB.out, HOW.out, HBL.out, HSZ.out⟩
                      case measure => simp [intOf]; omega
                · have hpe : p = n := by omega
                  have HPE := Lib.hid hpe
                  have hx1 := HZ1.out
                  have e1 : World.cell? ‹World› ⟨GB, 1, none⟩ = some (.slice A3 (rowsF P (prodF xss yss k) x).length c3) := cell_of_row _ GB 1 _ _ _ hx1
                  have hrl : (rowsF P (prodF xss yss k) x).length ≤ 3 := by rw [rowsF_len]; omega
                  have HLE := Lib.hid (show GB + 1 ≤ wr.heap.size by have h1 := HSZ.out; have h2 := HLO.out; omega)
                  clear hx1 hpe hpk
                  go_wp2_with (at_builtin; refine wpList_append_own_at _ rfl _ _ 22 rfl (GB + 1) 26 i1 (.slice none 0 0) 1 24 Try.underlying22 hi1 hy0 hy1 hy2 rfl (by decide) _ _ _ rfl (World.ownsRow.alloc (HTB.out.out) _) ⟨(wr).heap.size, 0, none⟩ 1 1 [.slice A5 C.length c5] rfl rfl (cell_one_new _ _ _) (by simp [Value.oneCell']) (by unfold maxLen; omega) (by omega) (by rw [World.size_alloc]; exact Nat.le_succ_of_le HLE.out) ?_)
                  intro v' w5 hown' hgrow _ hat
                  obtain ⟨A6, c6, rfl⟩ := own_form hown'
                  have hrow : IntsIn G9 wr.heap.size wr (.slice A5 C.length c5) C := IntsIn.of HOW.out
                  have hC := HC.out
                  rw [HPE.out, ← HP.out] at hC
                  have ba : Below wr.heap.size wr (wr.alloc (.cells #[.slice A5 C.length c5] 26)) := (Below.refl _ _).alloc (Nat.le_refl _) _
                  have htab2 := TabV.snoc (HTB.out.below ba) (hrow.below ba) hown' hgrow (by rw [World.size_alloc]; exact hat) HLO.out (Nat.le_refl _) ba.size
                  rw [hC, ← rowsF_succ] at htab2
                  rw [← hC] at htab2
                  have HT2 := Lib.hid htab2
                  have hvn : ∀ g, (Value.slice A3 (rowsF P (prodF xss yss k) x).length c3).ownBlock = some g → GB + 1 ≤ g := fun g hg => (HTB.out.out.lt g hg).1
                  have hu1 : w5.heap[GB]? = some (.cells #[.int .i64 (P : Int), .slice A3 (rowsF P (prodF xss yss k) x).length c3] 29 (0, 0)) := (hgrow.block _ (Nat.lt_of_lt_of_le (block_lt HZ1.out) ba.size) (fun e => by have := hvn _ e.symm; omega)).trans ((ba.block _ (block_lt HZ1.out)).trans HZ1.out)
                  have HU1 := Lib.hid hu1
                  have hc1 : w5.cell? ⟨GB, 1, none⟩ = some (.slice A3 (rowsF P (prodF xss yss k) x).length c3) := cell_of_row _ GB 1 _ _ _ hu1
                  have hf1 : w5.frozen? ⟨GB, 1, none⟩ = false := frozen_of_row _ GB 1 _ _ hu1
                  have HB5 := Lib.hid ((HBL.out.trans (ba.mono (by have := HLE.out; omega))).grown hgrow (by have := HLE.out; have := ba.size; omega) (fun g hg => by have := hvn g hg; omega))
                  have HLE2 := Lib.hid (show GB + 1 ≤ w5.heap.size by have h1 := HLE.out; have := hgrow.size; have := ba.size; omega)
                  have HL1 := Lib.hid (show (rowsF P (prodF xss yss k) (x + 1)).length = (rowsF P (prodF xss yss k) x).length + 1 by rw [rowsF_len, rowsF_len])
                  clear hown' hgrow hat ba hvn hu1 e1 hrow htab2 hC
                  go_wp2_with fail
                  go_roundw
                  case rel =>
                    have hon := only_setCell w5 GB 1 (.slice A6 ((rowsF P (prodF xss yss k) x).length + 1) c6)
                    refine ⟨x + 1, .slice A6 ((rowsF P (prodF xss yss k) x).length + 1) c6, vs ++ [.slice A5 C.length c5], by omega, by go_num, ?_, ?_, HB5.out.setCell (by simp) _, by rw [World.size_setCell]; exact HLE2.out⟩
                    · rw [heap_setCell_same w5 GB 1 _ _ _ HU1.out]; rfl
                    · rw [World.size_setCell]
                      exact HT2.out.only hon (.inr (by omega))
                  case measure => simp [intOf]; omega
            · have hxm : x = m := by omega
              have HXM := Lib.hid hxm
              have xr := (hbel.block _ (show w.heap.size + 2 < GB by have := HLB.out; omega)).trans XR3.out
              obtain ⟨e0, e1, e2, e3⟩ := box2_cells xr
              obtain ⟨e4, e5, e6, e7⟩ := box2_cells hx1
              obtain ⟨g2, g3⟩ := box2_set xr (.int .i64 (P : Int)) (.slice A3 (rowsF P (prodF xss yss k) x).length c3)
              have HLB2 := Lib.hid (show w.heap.size + 2 < GB by have := HLB.out; omega)
              clear hx1 htab hbel hxm xr hlo
              go_wp2_with fail
              refine bodyPost_ret (v := .tuple #[.agg #[.int .i64 (P : Int), .slice A3 (rowsF P (prodF xss yss k) x).length c3], .int .i64 0]) (by simp [results, Try.results38, go_sem, g2, g3]) rfl ?_
              have hwb : w.heap.size ≤ GB := by have := HLB.out; omega
              refine autosTo_mk HF.out ?_ (((BB.out.trans (HB.out.mono hwb)).setCell (by simp; try omega) _).setCell (by simp; try omega) _)
              rw [set2_size, ← HXM.out]
              exact (TabIn.only ⟨vs, HT.out⟩ (set2_only _ _ _ _) (.inr (by have := HLB2.out; omega))).wide (by omega) (Nat.le_refl _)
        · have HF := Lib.hid (productOf_3 hok hok' (HM.out.trans HM'.out.symm) (by rw [hPi]; omega))
          have hpi : (10 : Int) < (P : Int) := by omega
          clear hP hp10
          go_enter Try.func38, Try.ntmps38
          go_wp2_with fail
          rw [← HW2.out]
          refine (l01Ok_any w.heap.size (n : Int) A m cap xss _ X0.out X1.out H2.out hm HR.out).mono ?_
          rw [hok]
          rintro e w1 ⟨rfl, d, rfl⟩
          have b1 : Below W2.heap.size W2 (W2.drewN d) := below_drewN' (Below.refl _ _) d
          obtain ⟨w1, hw1⟩ : ∃ w1, w1 = W2.drewN d := ⟨_, rfl⟩
          rw [← hw1] at b1 ⊢
          clear hw1
          have d0 : w1.cell? ⟨w.heap.size, 0, none⟩ = some (.int .i64 (n : Int)) := (b1.cell (cell_lt X0.out)).trans X0.out
          have d1 : w1.cell? ⟨w.heap.size, 1, none⟩ = some (.slice A m cap) := (b1.cell (cell_lt X1.out)).trans X1.out
          have f0 : w1.cell? ⟨w.heap.size + 1, 0, none⟩ = some (.int .i64 (k : Int)) := (b1.cell (cell_lt Y0.out)).trans Y0.out
          have f1 : w1.cell? ⟨w.heap.size + 1, 1, none⟩ = some (.slice A' m cap') := (b1.cell (cell_lt Y1.out)).trans Y1.out
          have xr := (b1.block _ (block_lt XR.out)).trans XR.out
          obtain ⟨e0, e1, e2, e3⟩ := box2_cells xr
          have BB := Lib.hid (below_then B2.out b1)
          clear xr
          have H1' := Lib.hid (H2'.out.below b1)
          go_wp2_with fail
          refine (l01Ok_any (w.heap.size + 1) (k : Int) A' m cap' yss _ f0 f1 H1'.out hm HR'.out).mono ?_
          rw [hok']
          rintro e w2 ⟨rfl, d', rfl⟩
          have b2 : Below w1.heap.size w1 (w1.drewN d') := below_drewN' (Below.refl _ _) d'
          obtain ⟨w2, hw2⟩ : ∃ w2, w2 = w1.drewN d' := ⟨_, rfl⟩
          rw [← hw2] at b2 ⊢
          have b12 := below_then b1 b2
          clear hw2 d0 d1 f0 f1 e0 e1 e2 e3 BB b1 b2
          have d0 : w2.cell? ⟨w.heap.size, 0, none⟩ = some (.int .i64 (n : Int)) := (b12.cell (cell_lt X0.out)).trans X0.out
          have d1 : w2.cell? ⟨w.heap.size, 1, none⟩ = some (.slice A m cap) := (b12.cell (cell_lt X1.out)).trans X1.out
          have f0 : w2.cell? ⟨w.heap.size + 1, 0, none⟩ = some (.int .i64 (k : Int)) := (b12.cell (cell_lt Y0.out)).trans Y0.out
          have f1 : w2.cell? ⟨w.heap.size + 1, 1, none⟩ = some (.slice A' m cap') := (b12.cell (cell_lt Y1.out)).trans Y1.out
          have xr := (b12.block _ (block_lt XR.out)).trans XR.out
          obtain ⟨e0, e1, e2, e3⟩ := box2_cells xr
          have BB := Lib.hid (below_then B2.out b12)
          obtain ⟨g2, g3⟩ := box2_set xr (.int .i64 0) (.slice none 0 0)
          clear xr
          go_wp2_with fail
          refine bodyPost_ret (v := .tuple #[.agg #[.int .i64 0, .slice none 0 0], .int .i64 3]) (by simp [results, Try.results38, go_sem, g2, g3]) rfl ?_
          exact autosTo_mk HF.out (tab_nil _ _ _) ((BB.out.setCell (by simp; try omega) _).setCell (by simp; try omega) _)
      · have HF := Lib.hid (productOf_2 hok hok' (by rw [HM.out, HM'.out]; exact hmm))
        have hz : ((m : Int) != (m' : Int)) = true := by rw [bne_iff_ne]; omega
        clear hmm
        go_enter Try.func38, Try.ntmps38
        go_wp2_with fail
        rw [← HW2.out]
        refine (l01Ok_any w.heap.size (n : Int) A m cap xss _ X0.out X1.out H2.out hm HR.out).mono ?_
        rw [hok]
        rintro e w1 ⟨rfl, d, rfl⟩
        have b1 : Below W2.heap.size W2 (W2.drewN d) := below_drewN' (Below.refl _ _) d
        obtain ⟨w1, hw1⟩ : ∃ w1, w1 = W2.drewN d := ⟨_, rfl⟩
        rw [← hw1] at b1 ⊢
        clear hw1
        have d0 : w1.cell? ⟨w.heap.size, 0, none⟩ = some (.int .i64 (n : Int)) := (b1.cell (cell_lt X0.out)).trans X0.out
        have d1 : w1.cell? ⟨w.heap.size, 1, none⟩ = some (.slice A m cap) := (b1.cell (cell_lt X1.out)).trans X1.out
        have f0 : w1.cell? ⟨w.heap.size + 1, 0, none⟩ = some (.int .i64 (k : Int)) := (b1.cell (cell_lt Y0.out)).trans Y0.out
        have f1 : w1.cell? ⟨w.heap.size + 1, 1, none⟩ = some (.slice A' m' cap') := (b1.cell (cell_lt Y1.out)).trans Y1.out
        have xr := (b1.block _ (block_lt XR.out)).trans XR.out
        obtain ⟨e0, e1, e2, e3⟩ := box2_cells xr
        have BB := Lib.hid (below_then B2.out b1)
        clear xr
        have H1' := Lib.hid (H2'.out.below b1)
        go_wp2_with fail
        refine (l01Ok_any (w.heap.size + 1) (k : Int) A' m' cap' yss _ f0 f1 H1'.out hm' HR'.out).mono ?_
        rw [hok']
        rintro e w2 ⟨rfl, d', rfl⟩
        have b2 : Below w1.heap.size w1 (w1.drewN d') := below_drewN' (Below.refl _ _) d'
        obtain ⟨w2, hw2⟩ : ∃ w2, w2 = w1.drewN d' := ⟨_, rfl⟩
        rw [← hw2] at b2 ⊢
        have b12 := below_then b1 b2
        clear hw2 d0 d1 f0 f1 e0 e1 e2 e3 BB b1 b2
        have d0 : w2.cell? ⟨w.heap.size, 0, none⟩ = some (.int .i64 (n : Int)) := (b12.cell (cell_lt X0.out)).trans X0.out
        have d1 : w2.cell? ⟨w.heap.size, 1, none⟩ = some (.slice A m cap) := (b12.cell (cell_lt X1.out)).trans X1.out
        have f0 : w2.cell? ⟨w.heap.size + 1, 0, none⟩ = some (.int .i64 (k : Int)) := (b12.cell (cell_lt Y0.out)).trans Y0.out
        have f1 : w2.cell? ⟨w.heap.size + 1, 1, none⟩ = some (.slice A' m' cap') := (b12.cell (cell_lt Y1.out)).trans Y1.out
        have xr := (b12.block _ (block_lt XR.out)).trans XR.out
        obtain ⟨e0, e1, e2, e3⟩ := box2_cells xr
        have BB := Lib.hid (below_then B2.out b12)
        obtain ⟨g2, g3⟩ := box2_set xr (.int .i64 0) (.slice none 0 0)
        clear xr
        go_wp2_with fail
        refine bodyPost_ret (v := .tuple #[.agg #[.int .i64 0, .slice none 0 0], .int .i64 2]) (by simp [results, Try.results38, go_sem, g2, g3]) rfl ?_
        exact autosTo_mk HF.out (tab_nil _ _ _) ((BB.out.setCell (by simp; try omega) _).setCell (by simp; try omega) _)

end Go.Proofs.Ytfkmpabohebcfaa
