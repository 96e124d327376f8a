/-
  Closed sets: the contracts of isClosed and l01Closed.
-/
import Derived.Test.YtfkmpabohebcfaaSel
import Derived.Test.YtfkmpabohebcfaaPre
namespace Go.Proofs.Ytfkmpabohebcfaa
open Go.RowKit Go.Deep Go.ChangeShapes Go.WideShapes

def Closed (m : Nat) (xss : List (List Int)) (set : List Int) : Prop := ∀ x, x < m → ∀ (k : Nat) (y : Int), set[k]? = some y → hasB set ((nx xss x y.toNat : Nat) : Int) = true
noncomputable def closedB (m : Nat) (xss : List (List Int)) (set : List Int) : Bool := @decide (Closed m xss set) (Classical.propDecidable _)
theorem closedB_t {m : Nat} {xss : List (List Int)} {set : List Int} (h : Closed m xss set) : closedB m xss set = true := by
  unfold closedB; exact @decide_eq_true _ (Classical.propDecidable _) h
theorem closedB_f {m : Nat} {xss : List (List Int)} {set : List Int} (h : ¬ Closed m xss set) : closedB m xss set = false := by
  unfold closedB; exact @decide_eq_false _ (Classical.propDecidable _) h
theorem closedB_is {m : Nat} {xss : List (List Int)} {set : List Int} (h : closedB m xss set = true) : Closed m xss set := by
  unfold closedB at h; exact @of_decide_eq_true _ (Classical.propDecidable _) h

set_option maxRecDepth 100000 in
set_option maxHeartbeats 1500000 in
theorem isClosed_any (A AL : Option Addr) (n m cap nl cl : Nat) (xss : List (List Int)) (set : List Int) (w : World) (hg : Good n m xss) (hR : RowsAt w A m xss) (hL : NumsAt w AL nl set) (hin : ∀ y ∈ set, 0 ≤ y ∧ y < (n : Int)) (hnl : nl ≤ 4611686018427387904) :
    Calls Try.prog 79 #[.agg #[.int .i64 (n : Int), .slice A m cap], .slice AL nl cl] w fun e w' => e = .returned (.bool (closedB m xss set)) ∧ Below w.heap.size w w' := by
  have hn10 : n ≤ 10 := hg.n10
  have hm3 : m ≤ 3 := hg.m3
  have HG := Lib.hid hg
  have HIN := Lib.hid hin
  have b0 : Below w.heap.size w (w.alloc (.cells #[.int .i64 (n : Int), .slice A m cap] 29)) := (Below.refl _ _).alloc (Nat.le_refl _) _
  have HN0 := Lib.hid (hL.below b0)
  have hin10 : ∀ y ∈ set, 0 ≤ y ∧ y < 10 := fun y hy => by have := hin y hy; omega
  have HIN10 := Lib.hid hin10
  have HB0 := Lib.hid b0
  have X1 := Lib.hid (show (w.alloc (.cells #[.int .i64 (n : Int), .slice A m cap] 29)).cell? ⟨w.heap.size, 1, none⟩ = some (.slice A m cap) by go_cell)
  clear hg hin b0 hin10
  go_enter Try.func79, Try.ntmps79
  go_wp2_with fail
  refine (markSet_any AL nl cl set _ HN0.out hnl HIN10.out).mono ?_
  obtain ⟨F, hF⟩ : ∃ F : Nat → Bool, F = fun q : Nat => hasB set (q : Int) := ⟨_, rfl⟩
  have HF := Lib.hid hF
  rw [← hF, show marr F = #[.bool (F 0), .bool (F 1), .bool (F 2), .bool (F 3), .bool (F 4), .bool (F 5), .bool (F 6), .bool (F 7), .bool (F 8), .bool (F 9)] from rfl]
  rintro e w1 ⟨rfl, b1⟩
  obtain ⟨W2, hW2⟩ : ∃ W2, W2 = w1.alloc (.cells #[.bool (F 0), .bool (F 1), .bool (F 2), .bool (F 3), .bool (F 4), .bool (F 5), .bool (F 6), .bool (F 7), .bool (F 8), .bool (F 9)] 58) := ⟨_, rfl⟩
  have b2 : Below w1.heap.size w1 W2 := by rw [hW2]; exact (Below.refl _ _).alloc (Nat.le_refl _) _
  have x1 : W2.cell? ⟨w.heap.size, 1, none⟩ = some (.slice A m cap) := (b2.cell (cell_lt ((b1.cell (cell_lt X1.out)).trans X1.out))).trans ((b1.cell (cell_lt X1.out)).trans X1.out)
  have xm : W2.heap[w1.heap.size]? = some (.cells (marr F) 58 (0, 0)) := by rw [hW2]; exact heap_alloc_new _ _
  have HX1 := Lib.hid x1
  have HXM := Lib.hid xm
  have HB2 := Lib.hid (below_then (below_then HB0.out b1) b2)
  have HW2 := Lib.hid hW2
  rw [hW2] at x1
  clear hF b1 b2 xm hW2
  go_wp2_with fail
  rw [← HW2.out]
  clear x1
  have y1 := HX1.out
  go_loop [15] (fun i => ∃ x : Nat, x ≤ m ∧ i = .int .i64 x ∧ ∀ x', x' < x → ∀ (k : Nat) (y : Int), set[k]? = some y → hasB set ((nx xss x' y.toNat : Nat) : Int) = true) (fun i => m - (intOf i).toNat)
  case atStart => exact ⟨0, Nat.zero_le _, rfl, fun x' hx' => by omega⟩
  case round =>
    obtain ⟨x, hx, rfl, hall⟩ := hrel
    have HA := Lib.hid hall
    clear hall
    by_cases hlt : x < m
    · obtain ⟨b, off1, b2, off2, cr, hA, hcr, hcells⟩ := row_base HG.out (hR.below HB2.out) hlt
      have HC := Lib.hid hcells
      subst hA
      have i1 : (0 : Int) ≤ (x : Int) := by omega
      have i2 : (x : Int) < (m : Int) := by omega
      clear hcells
      go_wp2_with fail
      go_loop [21] (fun i => ∃ k : Nat, k ≤ nl ∧ i = .int .i64 k ∧ ∀ (j : Nat) (y : Int), j < k → set[j]? = some y → hasB set ((nx xss x y.toNat : Nat) : Int) = true) (fun i => nl - (intOf i).toNat)
      case atStart => exact ⟨0, Nat.zero_le _, rfl, fun j y hj => by omega⟩
      case round =>
        obtain ⟨k, hk, rfl, hrow⟩ := hrel
        have HRW := Lib.hid hrow
        clear hrow
        by_cases hkl : k < nl
        · obtain ⟨y, b3, off3, hy, hAL, hcy⟩ := (hL.below HB2.out).at_ hkl
          subst hAL
          have hyn := HIN.out y (List.mem_of_getElem? hy)
          obtain ⟨t, rfl⟩ : ∃ t : Nat, y = (t : Int) := ⟨y.toNat, by omega⟩
          have htn : t < n := by omega
          have f1 := HC.out t htn
          have hto := HG.out.nextD hlt htn
          have f2 : W2.cell? ⟨w1.heap.size, nx xss x t, none⟩ = some (.bool (F (nx xss x t))) := by
            rw [cell_of_row _ w1.heap.size _ _ _ _ HXM.out, marr_at _ (by omega)]
          have i3 : (0 : Int) ≤ (k : Int) := by omega
          have i4 : (k : Int) < (nl : Int) := by omega
          have i5 : (0 : Int) ≤ (t : Int) := by omega
          have i6 : (t : Int) < (n : Int) := by omega
          have i7 : (0 : Int) ≤ ((nx xss x t : Nat) : Int) := by omega
          have i8 : ((nx xss x t : Nat) : Int) < 10 := by omega
          have HY := Lib.hid hy
          have HFX := Lib.hid (show F (nx xss x t) = hasB set ((nx xss x t : Nat) : Int) by rw [HF.out])
          clear hy hyn
          rcases hfx : F (nx xss x t) with _ | _
          · rw [hfx] at f2
            have HV := Lib.hid (HFX.out.symm.trans hfx)
            clear hfx
            go_wp2_with fail
            go_ret
            exact ⟨ret_bool (closedB_f (fun hc => by have := hc x hlt k _ HY.out; rw [show ((t : Int)).toNat = t from Int.toNat_natCast t, HV.out] at this; cases this)).symm, HB2.out⟩
          · rw [hfx] at f2
            have HV := Lib.hid (HFX.out.symm.trans hfx)
            clear hfx
            go_wp2_with fail
            go_round
            case rel =>
              refine ⟨k + 1, by omega, by go_num, fun j y hj hy => ?_⟩
              rcases Nat.lt_or_ge j k with a | a
              · exact HRW.out j y a hy
              · obtain rfl : j = k := by omega
                rw [HY.out] at hy
                obtain rfl := Option.some.inj hy
                exact HV.out
            case measure => simp [intOf]; omega
        · go_wp2_with fail
          go_round
          case rel =>
            refine ⟨x + 1, by omega, by go_num, fun x' hx' j y hy => ?_⟩
            rcases Nat.lt_or_ge x' x with a | a
            · exact HA.out x' a j y hy
            · obtain rfl : x' = x := by omega
              refine HRW.out j y ?_ hy
              have h1 := hL.1
              rcases Nat.lt_or_ge j set.length with c | c
              · omega
              · rw [List.getElem?_eq_none c] at hy; cases hy
          case measure => simp [intOf]; omega
    · go_wp2_with fail
      go_ret
      exact ⟨ret_bool (closedB_t (fun x' hx' j y hy => HA.out x' (by omega) j y hy)).symm, HB2.out⟩

theorem l00Has_q (A : Option Addr) (n cap : Nat) (xs : List Int) (v : Int) (w : World) (h : NumsAt w A n xs) (hn : n ≤ 4611686018427387904) {b : Bool} (hb : hasB xs v = b) :
    Calls Try.prog 110 #[.slice A n cap, .int .i64 v] w fun e w' => e = .returned (.bool b) ∧ ∃ k, w' = w.drewN k :=
  (l00Has_any A n cap xs v w h hn).mono fun _ _ hh => ⟨by rw [hh.1, hb], 0, hh.2.symm⟩

set_option maxRecDepth 100000 in
set_option maxHeartbeats 1500000 in
theorem l01Closed_any (p : Nat) (A AL : Option Addr) (n m cap nl cl : Nat) (xss : List (List Int)) (set : List Int) (w : World) (hg : Good n m xss) (c1 : w.cell? ⟨p, 1, none⟩ = some (.slice A m cap)) (hR : RowsAt w A m xss) (hL : NumsAt w AL nl set) (hin : ∀ y ∈ set, 0 ≤ y ∧ y < (n : Int)) (hnl : nl ≤ 4611686018427387904) :
    Calls Try.prog 76 #[.pointer (some ⟨p, 0, none⟩), .slice AL nl cl] w fun e w' => e = .returned (.bool (closedB m xss set)) ∧ Below w.heap.size w w' := by
  have hn10 : n ≤ 10 := hg.n10
  have hm3 : m ≤ 3 := hg.m3
  have HG := Lib.hid hg
  have HIN := Lib.hid hin
  clear hg hin
  go_enter Try.func76, Try.ntmps76
  go_wp2_with fail
  go_loopw [5] (fun i wr => ∃ (k : Nat), k ≤ nl ∧ i = .int .i64 k ∧ Below w.heap.size w wr ∧ ∀ (j : Nat) (y : Int), j < k → set[j]? = some y → ∀ x, x < m → hasB set ((nx xss x y.toNat : Nat) : Int) = true) (fun i _ => nl - (intOf i).toNat)
  case atStart => exact ⟨0, Nat.zero_le _, rfl, Below.refl _ _, fun j y hj => by omega⟩
  case round =>
    obtain ⟨k, hk, rfl, hbel, hall⟩ := hrel
    have HA := Lib.hid hall
    have HB := Lib.hid hbel
    have d1 : wr.cell? ⟨p, 1, none⟩ = some (.slice A m cap) := (hbel.cell (cell_lt c1)).trans c1
    clear hall hbel
    by_cases hkl : k < nl
    · obtain ⟨y, b3, off3, hy, hAL, hcy⟩ := hL.at_ hkl
      have hyn := HIN.out y (List.mem_of_getElem? hy)
      obtain ⟨t, rfl⟩ : ∃ t : Nat, y = (t : Int) := ⟨y.toNat, by omega⟩
      have htn : t < n := by omega
      have HY := Lib.hid hy
      have i3 : (0 : Int) ≤ (k : Int) := by omega
      have i4 : (k : Int) < (nl : Int) := by omega
      have HNL := Lib.hid hL
      have HAL := Lib.hid hAL
      clear hy hyn
      go_wp2_with fail
      go_loopw [6] (fun i wr => ∃ (x : Nat), x ≤ m ∧ i = .int .i64 x ∧ Below w.heap.size w wr ∧ ∀ x', x' < x → hasB set ((nx xss x' t : Nat) : Int) = true) (fun i _ => m - (intOf i).toNat)
      case atStart => exact ⟨0, Nat.zero_le _, rfl, HB.out, fun x' hx' => by omega⟩
      case round =>
        obtain ⟨x, hx, rfl, hbl, hrow⟩ := hrel
        have HRW := Lib.hid hrow
        have HBL := Lib.hid hbl
        have d1 : World.cell? ‹World› ⟨p, 1, none⟩ = some (.slice A m cap) := (hbl.cell (cell_lt c1)).trans c1
        clear hrow hbl
        by_cases hlt : x < m
        · obtain ⟨b, off1, b2, off2, cr, hA, hcr, hcells⟩ := row_base HG.out (hR.below HBL.out) hlt
          have f1 := hcells t htn
          have hcy1 := (HBL.out.cell (cell_lt hcy)).trans hcy
          have HNL1 := Lib.hid (HNL.out.below HBL.out)
          subst hA
          obtain rfl := HAL.out
          have i1 : (0 : Int) ≤ (x : Int) := by omega
          have i2 : (x : Int) < (m : Int) := by omega
          have i5 : (0 : Int) ≤ (t : Int) := by omega
          have i6 : (t : Int) < (n : Int) := by omega
          clear hcells
          rcases hhas : hasB set ((nx xss x t : Nat) : Int) with _ | _
          · have HV := Lib.hid hhas
            go_wp2_with fail
            go_quiet ((go_at_call 110; exact Calls.quiet_of (l00Has_q _ _ _ _ _ _ (HNL1.out.drewN _) (by omega) hhas)))
            go_wp2_with fail
            go_ret
            exact ⟨ret_bool (closedB_f (fun hc => by have := hc x hlt k _ HY.out; rw [show ((t : Int)).toNat = t from Int.toNat_natCast t, HV.out] at this; cases this)).symm, below_drewN' HBL.out _⟩
          · have HV := Lib.hid hhas
            go_wp2_with fail
            go_quiet ((go_at_call 110; exact Calls.quiet_of (l00Has_q _ _ _ _ _ _ (HNL1.out.drewN _) (by omega) hhas)))
            go_wp2_with fail
            go_roundw
            case rel =>
              refine ⟨x + 1, by omega, by go_num, below_drewN' HBL.out _, fun x' hx' => ?_⟩
              rcases Nat.lt_or_ge x' x with a | a
              · exact HRW.out x' a
              · obtain rfl : x' = x := by omega
                exact HV.out
            case measure => simp [intOf]; omega
        · go_wp2_with fail
          go_roundw
          case rel =>
            refine ⟨k + 1, by omega, by go_num, HBL.out, fun j y hj hy x hx => ?_⟩
            rcases Nat.lt_or_ge j k with a | a
            · exact HA.out j y a hy x hx
            · obtain rfl : j = k := by omega
              rw [HY.out] at hy
              obtain rfl := Option.some.inj hy
              exact HRW.out x (by omega)
          case measure => simp [intOf]; omega
    · have hlen := hL.1
      go_wp2_with fail
      go_ret
      refine ⟨ret_bool (closedB_t (fun x hx j y hy => HA.out j y ?_ hy x hx)).symm, HB.out⟩
      rcases Nat.lt_or_ge j set.length with c | c
      · omega
      · rw [List.getElem?_eq_none c] at hy; cases hy

end Go.Proofs.Ytfkmpabohebcfaa
