/-
  What a machine outputs for a word: the contracts of l06Run, outputsOf and of both OutputsOf.
-/
import Derived.Test.YtdhmciendlihoaaDoorMachV
import Derived.Deep.AppendLies
import Derived.Deep.RegionLaw
namespace Go.Proofs.YtdhmciendlihoaaDoor
open Go.RowKit Go.Deep Go.ChangeShapes Go.WideShapes

/-- What a letter outputs and where it leads, as the walks read it. -/
theorem GoodM.cells {n m k : Nat} {xss yss : List (List Int)} (h : GoodM n m k xss yss) {w : World} {A B : Option Addr} (hx : RowsAt w A m xss) (hy : RowsAt w B m yss) {x q : Nat} (hxm : x < m) (hq : q < n) :
    ∃ b off c1 b1 off1 b2 off2 c2 b3 off3, A = some ⟨b, off, none⟩ ∧ w.cell? ⟨b, off + x, none⟩ = some (.slice (some ⟨b1, off1, none⟩) n c1) ∧ w.cell? ⟨b1, off1 + q, none⟩ = some (.int .i64 ((nx xss x q : Nat) : Int)) ∧
      B = some ⟨b2, off2, none⟩ ∧ w.cell? ⟨b2, off2 + x, none⟩ = some (.slice (some ⟨b3, off3, none⟩) n c2) ∧ w.cell? ⟨b3, off3 + q, none⟩ = some (.int .i64 ((nx yss x q : Nat) : Int)) := by
  obtain ⟨row, b, off, A1, c1, hrow, rfl, hc, hnum⟩ := hx.at_ hxm
  obtain ⟨e, b1, off1, he, rfl, hc1⟩ := hnum.at_ (show q < row.length by rw [(h.good.rows x row hrow).1]; exact hq)
  obtain ⟨row', b2, off2, B1, c2, hrow', rfl, hc2, hnum'⟩ := hy.at_ hxm
  obtain ⟨e', b3, off3, he', rfl, hc3⟩ := hnum'.at_ (show q < row'.length by rw [(h.rows x row' hrow').1]; exact hq)
  rw [(h.good.next hrow hq).1] at he
  rw [(h.out hrow' hq).1] at he'
  obtain rfl := Option.some.inj he
  obtain rfl := Option.some.inj he'
  rw [(h.good.rows x row hrow).1] at hc
  rw [(h.rows x row' hrow').1] at hc2
  exact ⟨b, off, c1, b1, off1, b2, off2, c2, b3, off3, rfl, hc, hc1, rfl, hc2, hc3⟩

/-- A function that answers a list and a number. -/
def ListNum (L : List Int) (x : Int) (w : World) (e : Ending) (w' : World) : Prop :=
  ∃ v, e = .returned (.tuple #[v, .int .i64 x]) ∧ w'.ownsRow w.heap.size 2 1 v L.length (L.map (Value.int .i64)) ∧ Below w.heap.size w w'
theorem listNum_mk {w w' : World} {xs ys : List Int} {v : Value} {n : Nat} {x y : Int} (ho : w'.ownsRow w.heap.size 2 1 v n (xs.map (Value.int .i64))) (hb : Below w.heap.size w w') (h1 : xs = ys) (h2 : x = y) (hn : n = ys.length) :
    ListNum ys y w (.returned (.tuple #[v, .int .i64 x])) w' := by subst h1 h2 hn; exact ⟨v, rfl, ho, hb⟩

set_option maxRecDepth 100000 in
set_option maxHeartbeats 2000000 in
theorem l06Run_any (p : Nat) (A : Option Addr) (n m k c : Nat) (xss : List (List Int)) (B : Option Addr) (d : Nat) (yss : List (List Int)) (q : Nat) (A' : Option Addr) (l cap' : Nat) (ws : List Int) (w : World) (hg : GoodM n m k xss yss) (hb : MBox w p (n : Int) (k : Int) A m c B m d) (h : RowsAt w A m xss) (g : RowsAt w B m yss) (h' : NumsAt w A' l ws)
    (hw : ∀ x ∈ ws, 0 ≤ x ∧ x < (m : Int)) (hq : q < n) (hl : l ≤ 400) :
    Calls Tryd.prog 83 #[.pointer (some ⟨p, 0, none⟩), .int .i64 (q : Int), .slice A' l cap'] w (ListNum (outS xss yss ws q) ((toS xss ws q : Nat) : Int) w) := by
  obtain ⟨i0, hi, hz0, hz1, hz2⟩ := info_parts info_int64
  have HG := Lib.hid hg
  have HWS := Lib.hid hw
  have HL := Lib.hid h'.1
  have HB := Lib.hid hb
  have HX := Lib.hid h
  have HY := Lib.hid g
  have HN := Lib.hid h'
  clear hg hw hb h g h'
  go_enter Tryd.func83, Tryd.ntmps83
  go_wp2_with fail
  go_loopw [1, 8, 9] (fun sv v i wr => ∃ j r : Nat, j ≤ l ∧ i = .int .i64 j ∧ sv = .int .i64 (r : Int) ∧ r < n ∧ r = toS xss (ws.take j) q ∧ wr.ownsRow w.heap.size 2 1 v j ((outS xss yss (ws.take j) q).map (Value.int .i64)) ∧ Below w.heap.size w wr) (fun _ _ i _ => l - (intOf i).toNat)
  case atStart => exact ⟨0, q, Nat.zero_le _, rfl, rfl, hq, rfl, own_none w _ (Nat.le_refl _), (Below.refl _ _).alloc (Nat.le_refl _) _⟩
  case round =>
    obtain ⟨j, r, hj, rfl, rfl, hr, hrr, hown, hbel⟩ := hrel
    obtain ⟨A3, c3, rfl⟩ := own_form hown
    have HRR := Lib.hid hrr
    have HO := Lib.hid hown
    have HBL := Lib.hid hbel
    clear hrr hown hbel
    by_cases hlt : j < l
    · obtain ⟨x, b, off, hx, hA', hc⟩ := HN.out.at_ hlt
      have hxm := HWS.out x (List.mem_of_getElem? hx)
      obtain ⟨xn, rfl⟩ : ∃ xn : Nat, x = (xn : Int) := ⟨x.toNat, by omega⟩
      have hxn : xn < m := by omega
      obtain ⟨b4, off4, c1, b1, off1, b2, off2, c2, b3, off3, hA, hcA, hcx, hB, hcB, hcy⟩ := HG.out.cells HX.out HY.out hxn hr
      subst hA' hA hB
      have hm2 := HB.out 2 _ rfl
      have hm3 := HB.out 3 _ rfl
      have r2 : ∀ W', Below w.heap.size w W' → W'.cell? ⟨p, 2, none⟩ = some (.slice (some ⟨b4, off4, none⟩) m c) := fun W' hb => (hb.cell (cell_lt hm2)).trans hm2
      have r3 : ∀ W', Below w.heap.size w W' → W'.cell? ⟨p, 3, none⟩ = some (.slice (some ⟨b2, off2, none⟩) m d) := fun W' hb => (hb.cell (cell_lt hm3)).trans hm3
      have r4 : ∀ W', Below w.heap.size w W' → W'.cell? ⟨b, off + j, none⟩ = some (.int .i64 (xn : Int)) := fun W' hb => (hb.cell (cell_lt hc)).trans hc
      have r5 : ∀ W', Below w.heap.size w W' → W'.cell? ⟨b4, off4 + xn, none⟩ = some (.slice (some ⟨b1, off1, none⟩) n c1) := fun W' hb => (hb.cell (cell_lt hcA)).trans hcA
      have r6 : ∀ W', Below w.heap.size w W' → W'.cell? ⟨b1, off1 + r, none⟩ = some (.int .i64 ((nx xss xn r : Nat) : Int)) := fun W' hb => (hb.cell (cell_lt hcx)).trans hcx
      have r7 : ∀ W', Below w.heap.size w W' → W'.cell? ⟨b2, off2 + xn, none⟩ = some (.slice (some ⟨b3, off3, none⟩) n c2) := fun W' hb => (hb.cell (cell_lt hcB)).trans hcB
      have r8 : ∀ W', Below w.heap.size w W' → W'.cell? ⟨b3, off3 + r, none⟩ = some (.int .i64 ((nx yss xn r : Nat) : Int)) := fun W' hb => (hb.cell (cell_lt hcy)).trans hcy
      have hnn := HG.out.good.nextD hxn hr
      have HNX := Lib.hid hnn
      have HXJ := Lib.hid hx
      have i1 : (0 : Int) ≤ (j : Int) := by omega
      have i2 : (j : Int) < (l : Int) := by omega
      have i3 : (0 : Int) ≤ (xn : Int) := by omega
      have i4 : (xn : Int) < (m : Int) := by omega
      have i5 : (0 : Int) ≤ (r : Int) := by omega
      have i6 : (r : Int) < (n : Int) := by omega
      obtain ⟨V, hV⟩ : ∃ V, V = ((nx yss xn r : Nat) : Int) := ⟨_, rfl⟩
      rw [← hV] at r8
      have HV := Lib.hid hV
      have h9 : Below w.heap.size w wr := HBL.out
      have HSZ := Lib.hid HBL.out.size
      have HROW := Lib.hid (fun g (hg : (Value.slice A3 j c3).ownBlock = some g) => (HO.out.lt g hg).1)
      clear hx hxm hc hcA hcx hcB hcy hm2 hm3 hnn hV
      go_wp2_with fail
      go_region_law (first
        | (refine step_append_lies _ rfl _ _ 47 rfl w.heap.size 2 i0 (.int .i64 0) 1 8 Tryd.underlying47 hi hz0 hz1 hz2 rfl (by decide) _ _ _ rfl (own_below HO.out (by first | exact (Below.refl _ _).alloc (Nat.le_refl _) _ | exact ((Below.refl _ _).alloc (Nat.le_refl _) _).drew | exact (Below.refl _ _).drew.alloc (Nat.le_refl _) _)) ⟨_, 0, none⟩ 1 1 [.int .i64 V] rfl rfl (cell_one_new _ _ _) (ones_i64 [V]) (by decide) (by unfold maxLen; omega) (by omega) (by have := HSZ.out; simp; omega) _ rfl ?_; intro g5 cap5 w5 hown5 hgrow5 hat5 hlt5; have HO5 := Lib.hid hown5; have HB5 : Hid (Below w.heap.size w w5) := Lib.hid (Below.grown ((below_drewN' HBL.out _).alloc HSZ.out _) hgrow5 (by have := HSZ.out; simp; omega) (fun g hg => HROW.out g hg)); clear hown5 hgrow5 hat5 hlt5)
        | fail)
      all_goals
        have k2 := r2 w5 HB5.out
        have k4 := r4 w5 HB5.out
        have k5 := r5 w5 HB5.out
        have k6 := r6 w5 HB5.out
        go_wp2_with fail
        go_quiet (fail)
        go_wp2_with fail
        go_roundw
        case rel =>
          refine ⟨j + 1, nx xss xn r, by omega, by go_num, rfl, HNX.out, by rw [toS_snoc HXJ.out, ← HRR.out]; rfl, ?_, below_drewN' HB5.out _⟩
          rw [outS_snoc HXJ.out, ← HRR.out, List.map_append]
          have e := HO5.out
          rw [HV.out] at e
          exact e
        case measure => simp [intOf]; omega
    · go_wp2_with fail
      go_ret2
      have hjl : j = l := by omega
      subst hjl
      have ho := HO.out
      rw [List.take_of_length_le (Nat.le_of_eq HL.out)] at ho
      exact listNum_mk ho HBL.out rfl (by rw [HRR.out, List.take_of_length_le (Nat.le_of_eq HL.out)]) (by rw [outS_len, HL.out])

set_option maxRecDepth 100000 in
set_option maxHeartbeats 2000000 in
theorem outputsOf_any (A : Option Addr) (n m k c : Nat) (xss : List (List Int)) (B : Option Addr) (d : Nat) (yss : List (List Int)) (q : Nat) (A' : Option Addr) (l cap' : Nat) (ws : List Int) (w : World) (hg : GoodM n m k xss yss) (h : RowsAt w A m xss) (g : RowsAt w B m yss) (h' : NumsAt w A' l ws)
    (hw : ∀ x ∈ ws, 0 ≤ x ∧ x < (m : Int)) (hq : q < n) (hl : l ≤ 400) :
    Calls Tryd.prog 67 #[.agg #[.int .i64 (n : Int), .int .i64 (k : Int), .slice A m c, .slice B m d], .int .i64 (q : Int), .slice A' l cap'] w (ListNum (outS xss yss ws q) ((toS xss ws q : Nat) : Int) w) := by
  obtain ⟨i0, hi, hz0, hz1, hz2⟩ := info_parts info_int64
  have HG := Lib.hid hg
  have HWS := Lib.hid hw
  have HL := Lib.hid h'.1
  obtain ⟨w1, hw1⟩ : ∃ w1, w1 = w.alloc (.cells #[.int .i64 (n : Int), .int .i64 (k : Int), .slice A m c, .slice B m d] 28) := ⟨_, rfl⟩
  have b1 : Below w.heap.size w w1 := by rw [hw1]; exact (Below.refl _ _).alloc (Nat.le_refl _) _
  have HB := Lib.hid (show MBox w1 w.heap.size (n : Int) (k : Int) A m c B m d by rw [hw1]; exact Box.new _ _ _)
  have HX := Lib.hid (h.below b1)
  have HY := Lib.hid (g.below b1)
  have HN := Lib.hid (h'.below b1)
  have W1 := Lib.hid b1
  have HW := Lib.hid hw1
  clear hg hw h g h' b1 hw1
  go_enter Tryd.func67, Tryd.ntmps67
  go_wp2_with fail
  rw [← HW.out]
  go_loopw [1, 8, 13] (fun sv v i wr => ∃ j r : Nat, j ≤ l ∧ i = .int .i64 j ∧ sv = .int .i64 (r : Int) ∧ r < n ∧ r = toS xss (ws.take j) q ∧ wr.ownsRow w1.heap.size 2 1 v j ((outS xss yss (ws.take j) q).map (Value.int .i64)) ∧ Below w1.heap.size w1 wr) (fun _ _ i _ => l - (intOf i).toNat)
  case atStart => exact ⟨0, q, Nat.zero_le _, rfl, rfl, hq, rfl, World.ownsRow_nil _ _ _ _, Below.refl _ _⟩
  case round =>
    obtain ⟨j, r, hj, rfl, rfl, hr, hrr, hown, hbel⟩ := hrel
    obtain ⟨A3, c3, rfl⟩ := own_form hown
    have HRR := Lib.hid hrr
    have HO := Lib.hid hown
    have HBL := Lib.hid hbel
    clear hrr hown hbel
    by_cases hlt : j < l
    · obtain ⟨x, b, off, hx, hA', hc⟩ := (HN.out.below HBL.out).at_ hlt
      have hxm := HWS.out x (List.mem_of_getElem? hx)
      obtain ⟨xn, rfl⟩ : ∃ xn : Nat, x = (xn : Int) := ⟨x.toNat, by omega⟩
      have hxn : xn < m := by omega
      obtain ⟨b4, off4, c1, b1, off1, b2, off2, c2, b3, off3, hA, hcA, hcx, hB, hcB, hcy⟩ := HG.out.cells HX.out HY.out hxn hr
      subst hA' hA hB
      have HM := Lib.hid (HB.out.below HBL.out)
      have hm2 := HM.out 2 _ rfl
      have hm3 := HM.out 3 _ rfl
      have g5 := (HBL.out.cell (cell_lt hcA)).trans hcA
      have g6 := (HBL.out.cell (cell_lt hcx)).trans hcx
      have g7 := (HBL.out.cell (cell_lt hcB)).trans hcB
      have g8 := (HBL.out.cell (cell_lt hcy)).trans hcy
      have hnn := HG.out.good.nextD hxn hr
      have HNX := Lib.hid hnn
      have HXJ := Lib.hid hx
      have i1 : (0 : Int) ≤ (j : Int) := by omega
      have i2 : (j : Int) < (l : Int) := by omega
      have i3 : (0 : Int) ≤ (xn : Int) := by omega
      have i4 : (xn : Int) < (m : Int) := by omega
      have i5 : (0 : Int) ≤ (r : Int) := by omega
      have i6 : (r : Int) < (n : Int) := by omega
      obtain ⟨V, hV⟩ : ∃ V, V = ((nx yss xn r : Nat) : Int) := ⟨_, rfl⟩
      rw [← hV] at g8
      have HV := Lib.hid hV
      have HC := Lib.hid hc
      have G0 := Lib.hid hcA
      have G1 := Lib.hid hcx
      clear hx hxm hcA hcx hcB hcy hnn hV
      go_wp2_with (at_builtin; refine wpList_append_own _ rfl _ _ 47 rfl (w1.heap.size) 2 i0 (.int .i64 0) 1 8 Tryd.underlying47 hi hz0 hz1 hz2 rfl (by decide) _ _ _ rfl (World.ownsRow.alloc (HO.out) _) ⟨(wr).heap.size, 0, none⟩ 1 1 [.int .i64 V] rfl rfl (cell_one_new _ _ _) (ones_i64 [V]) (by unfold maxLen; omega) (by omega) (by rw [World.size_alloc]; exact Nat.le_succ_of_le (HBL.out.size)) ?_)
      intro v' w2 hown' hgrow _
      have hbb : Below w1.heap.size w1 (wr.alloc (.cells #[.int .i64 V] 2)) := HBL.out.alloc HBL.out.size _
      have HB2 := Lib.hid (hbb.grown hgrow hbb.size (fun g hg => (HO.out.lt g hg).1))
      have HO2 := Lib.hid hown'
      have hm2 := (HB.out.below HB2.out) 2 _ rfl
      have g5 := (HB2.out.cell (cell_lt G0.out)).trans G0.out
      have g6 := (HB2.out.cell (cell_lt G1.out)).trans G1.out
      clear hown' hgrow hbb g7 g8 hm3
      go_wp2_with fail
      go_roundw
      case rel =>
        refine ⟨j + 1, nx xss xn r, by omega, by go_num, rfl, HNX.out, by rw [toS_snoc HXJ.out, ← HRR.out]; rfl, ?_, HB2.out⟩
        rw [outS_snoc HXJ.out, ← HRR.out, List.map_append]
        have e := HO2.out
        rw [HV.out] at e
        exact e
      case measure => simp [intOf]; omega
    · go_wp2_with fail
      go_ret2
      have hjl : j = l := by omega
      subst hjl
      have ho := HO.out
      rw [List.take_of_length_le (Nat.le_of_eq HL.out)] at ho
      exact listNum_mk (own_base ho W1.out.size) (below_then W1.out HBL.out) rfl (by rw [HRR.out, List.take_of_length_le (Nat.le_of_eq HL.out)]) (by rw [outS_len, HL.out])

set_option maxRecDepth 100000 in
theorem l06Word_any (p : Nat) (s q : Int) (A : Option Addr) (n c : Nat) (B : Option Addr) (m d : Nat) (A' : Option Addr) (l cap' : Nat) (ws : List Int) (w : World) (hb : MBox w p s q A n c B m d) (h : NumsAt w A' l ws) (hn1 : 1 ≤ n) (hn3 : n ≤ 3) (hl : l ≤ 4611686018427387904) :
    Calls Tryd.prog 55 #[.pointer (some ⟨p, 0, none⟩), .slice A' l cap'] w fun e w' => e = .returned (.bool (isWordB (n : Int) ws)) ∧ Below w.heap.size w w' := by
  have HN := Lib.hid h
  clear h
  go_enter Tryd.func55, Tryd.ntmps55
  go_wp2_with fail
  refine (l06Plain_any p s q A n c B m d w hb).mono ?_
  rintro e w1 ⟨rfl, b1⟩
  have HB1 := Lib.hid b1
  clear b1 hb
  go_wp2_with fail
  obtain ⟨w2, hw2⟩ : ∃ w2, w2 = w1.alloc (.cells #[.int .i64 s, .slice A n c] 78) := ⟨_, rfl⟩
  rw [← hw2]
  have b2 : Below w1.heap.size w1 w2 := by rw [hw2]; exact (Below.refl _ _).alloc (Nat.le_refl _) _
  have x1 : w2.cell? ⟨w1.heap.size, 1, none⟩ = some (.slice A n c) := by rw [hw2]; go_cell
  have HB2 := Lib.hid (below_then HB1.out b2)
  have HN2 := Lib.hid (HN.out.below HB2.out)
  clear b2 hw2
  refine (l01Word_any w1.heap.size A A' n c l cap' ws _ x1 HN2.out hn1 hn3 hl).mono ?_
  rintro e w3 ⟨rfl, k, rfl⟩
  go_wp2_with fail
  go_ret
  exact ⟨rfl, below_drewN' HB2.out _⟩

end Go.Proofs.YtdhmciendlihoaaDoor
