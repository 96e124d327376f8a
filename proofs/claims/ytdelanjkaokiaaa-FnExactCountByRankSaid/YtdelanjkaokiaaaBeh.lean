/-
  Depths of sets, the program's: the contracts of slices.Min and behindLetters.
-/
import Derived.Test.YtdelanjkaokiaaaDepF
import Derived.Test.YtdelanjkaokiaaaLamp
import Derived.Deep.RegionLaw
namespace Go.Proofs.Ytdelanjkaokiaaa
open Go.RowKit Go.Deep Go.ChangeShapes Go.WideShapes

/-- The least of the numbers e 0 .. e k. -/
def minN (e : Nat → Int) : Nat → Int
  | 0 => e 0
  | k + 1 => if e (k + 1) < minN e k then e (k + 1) else minN e k
theorem minN_lt {e : Nat → Int} {v : Int} : ∀ k, minN e k < v ↔ ∃ x, x ≤ k ∧ e x < v
  | 0 => by
    constructor
    · intro h
      exact ⟨0, Nat.le_refl _, h⟩
    · rintro ⟨x, hx, h⟩
      have hx0 : x = 0 := by omega
      subst hx0
      exact h
  | k + 1 => by
    have ih := minN_lt (e := e) (v := v) k
    unfold minN
    constructor
    · intro h
      split at h
      · exact ⟨k + 1, Nat.le_refl _, h⟩
      · obtain ⟨x, hx, h'⟩ := ih.1 h
        exact ⟨x, by omega, h'⟩
    · rintro ⟨x, hx, h⟩
      by_cases e1 : x = k + 1
      · subst e1; split <;> omega
      · have := ih.2 ⟨x, by omega, h⟩
        split <;> omega

set_option maxRecDepth 100000 in
set_option maxHeartbeats 2000000 in
theorem min_any (A : Option Addr) (n c : Nat) (e : Nat → Int) (w : World) (h : NumsAt w A n (rowF n e)) (hn0 : 0 < n) (hn : n ≤ 1048576) :
    Calls Try.prog 128 #[.slice A n c] w fun r w' => r = .returned (.int .i64 (minN e (n - 1))) ∧ w = w' := by
  obtain ⟨y, b, off, hy, rfl, hc⟩ := h.at_ hn0
  rw [rowF_at _ hn0] at hy
  obtain rfl := Option.some.inj hy
  have hlt1 : decide ((n : Int) < 1) = false := by simp; omega
  have hlt1' : ¬ (n : Int) < 1 := by omega
  have hn0i : (0 : Int) < (n : Int) := by omega
  rw [Nat.add_zero] at hc
  have HH := Lib.hid h
  clear h hy
  go_enter Try.func128, Try.ntmps128
  go_wp2_with fail
  go_loop [3, 4] (fun mv iv => ∃ (k : Nat) (V : Int), k + 1 ≤ n ∧ iv = .int .i64 ((k : Int) + 1) ∧ mv = .int .i64 V ∧ V = minN e k) (fun _ iv => n - (intOf iv).toNat)
  case atStart => exact ⟨0, _, by omega, rfl, rfl, rfl⟩
  case round =>
    obtain ⟨k, V, hk, rfl, rfl, hV⟩ := hrel
    have HV := Lib.hid hV
    have hk0 : (0 : Int) ≤ (k : Int) + 1 := by omega
    clear hV
    by_cases hlt : k + 1 < n
    · have hkn : (k : Int) + 1 < (n : Int) := by omega
      obtain ⟨y, b', off', hy, hA, hc2⟩ := HH.out.at_ hlt
      obtain ⟨rfl, rfl⟩ : b = b' ∧ off = off' := by simpa using hA
      rw [rowF_at _ hlt] at hy
      obtain rfl := Option.some.inj hy
      have hc3 : w.cell? ⟨b, off + ((k : Int) + 1).toNat, none⟩ = some (.int .i64 (e (k + 1))) := by
        rw [show ((k : Int) + 1).toNat = k + 1 from by omega]; exact hc2
      obtain ⟨Y, hY⟩ : ∃ Y, Y = e (k + 1) := ⟨_, rfl⟩
      rw [← hY] at hc2 hc3
      have HY := Lib.hid hY
      clear hY hA hy
      by_cases hyv : Y < V
      · have HST := Lib.hid (show Y = minN e (k + 1) by rw [minN, if_pos (by rw [← HY.out, ← HV.out]; exact hyv), HY.out])
        go_wp2_with fail
        exact ⟨⟨k + 1, Y, by omega, by go_num, rfl, HST.out⟩, by simp [intOf]; omega⟩
      · have HST := Lib.hid (show V = minN e (k + 1) by rw [minN, if_neg (by rw [← HY.out, ← HV.out]; exact hyv), HV.out])
        go_wp2_with fail
        exact ⟨⟨k + 1, V, by omega, by go_num, rfl, HST.out⟩, by simp [intOf]; omega⟩
    · have hkn : ¬ (k : Int) + 1 < (n : Int) := by omega
      have HK := Lib.hid (show n - 1 = k by omega)
      go_wp2_with fail
      go_ret
      exact ⟨ret_int (by rw [HV.out, HK.out]), rfl⟩

/-- The block of an array of 1024 numbers: it reads as f. -/
def DepAt (w : World) (base G : Nat) (f : Nat → Int) : Prop := w.ownsRow base 76 1 (.slice (some ⟨G, 0, none⟩) 1024 1024) 1024 ((rowF 1024 f).map (Value.int .i64))
theorem DepAt.cell {w : World} {base G : Nat} {f : Nat → Int} (h : DepAt w base G f) {b : Nat} (hb : b < 1024) : w.cell? ⟨G, b, none⟩ = some (.int .i64 (f b)) := by
  rw [World.ownsRow.cellAt h b (by omega), List.getElem?_map, rowF_at _ hb]; rfl

/-- The numbers so far: the letters below x, and those of the lamps below k for x itself. -/
def greF (e : Nat → Int) (bl : Nat → Nat → Nat) (x k : Nat) : Nat → Int := fun y => if y < x then worstN e (bl y) 4 else if y = x then worstN e (bl y) k else 0
theorem greF_next (e : Nat → Int) (bl : Nat → Nat → Nat) (x : Nat) : greF e bl x 4 = greF e bl (x + 1) 0 := by
  funext y
  unfold greF
  by_cases h1 : y < x
  · simp [h1, show y < x + 1 from by omega]
  · by_cases h2 : y = x
    · subst h2; simp
    · simp only [h1, h2, if_false, show ¬ y < x + 1 from by omega]
      split <;> rfl
theorem greF_step {e : Nat → Int} {bl : Nat → Nat → Nat} {x k : Nat} : (fun y => if y = x then worstN e (bl x) (k + 1) else greF e bl x k y) = greF e bl x (k + 1) := by
  funext y
  unfold greF
  by_cases h2 : y = x
  · subst h2; simp
  · simp [h2]

theorem run_index_lampB (M : Array Value) (k P : Nat) (w : World) (hk : k < 4) (hM : M[k]? = some (.int .u16 (P : Int))) :
    Sem.run Try.prog (Instr.index 87 (.agg M) (.int .i64 (k : Int))) w = .ok (.int .u16 (P : Int)) w := by
  have hu : Try.prog.underlying 87 = some (.array 4 80) := Try.underlying87
  have h1 : (0 : Int) ≤ (k : Int) := by omega
  simp [Instr.index, run_underlying hu, asIntOf, h1, hk, hM, go_sem]

set_option maxRecDepth 100000 in
set_option maxHeartbeats 8000000 in
theorem behindLetters_any (baseA ALL : Nat) (e : Nat → Int) (A : Option Addr) (n mm c : Nat) (xss : List (List Int)) (B : Option Addr) (d : Nat) (ls : List Int) (b : Nat) (w : World) (hg : GoodL n mm xss ls) (h : RowsAt w A mm xss) (g : NumsAt w B n ls) (hA : DepAt w baseA ALL e) (hb : b < 1024) :
    Calls Try.prog 99 #[.pointer (some ⟨ALL, 0, none⟩), .agg #[.int .i64 (n : Int), .slice A mm c, .slice B n d], .int .u16 (b : Int)] w fun r w' => ∃ G : Nat, r = .returned (.slice (some ⟨G, 0, none⟩) mm mm) ∧ w'.ownsRow w.heap.size 2 1 (.slice (some ⟨G, 0, none⟩) mm mm) mm ((rowF mm (fun x => worstN e (belB n xss ls b x) 4)).map (Value.int .i64)) ∧ Below w.heap.size w w' := by
  have HG := Lib.hid hg
  have HX := Lib.hid h
  have HY := Lib.hid g
  have HAA := Lib.hid hA
  have HAL := Lib.hid (World.ownsRow.lt hA ALL rfl).2
  have hm3 : mm ≤ 3 := hg.good.m3
  have hm1 : 1 ≤ mm := hg.good.m1
  have hn10 : n ≤ 10 := hg.good.n10
  have hmk := run_make_row' (P := Try.prog) 25 2 (.int .i64 0) 8 Try.underlying25 info_int64 rfl .i64 .i64 mm (by omega) (by omega)
  obtain ⟨bl, hbl⟩ : ∃ bl, bl = belB n xss ls b := ⟨_, rfl⟩
  rw [← hbl]
  have HBL := Lib.hid hbl
  clear hg h g hA hbl
  go_enter Try.func99, Try.ntmps99
  go_wp2_with fail
  clear hmk
  obtain ⟨w1, hw1⟩ : ∃ w1, w1 = (w.alloc (.cells #[.int .i64 (n : Int), .slice A mm c, .slice B n d] 33)) := ⟨_, rfl⟩
  have hz1 : w1.heap.size = w.heap.size + 1 := by rw [hw1, World.size_alloc]
  have b1 : Below w.heap.size w w1 := by rw [hw1]; exact (Below.refl _ _).alloc (Nat.le_refl _) _
  have x1 : LBox w1 w.heap.size (n : Int) A mm c B n d := by rw [hw1]; exact Box.new _ _ _
  obtain ⟨w2, hw2⟩ : ∃ w2, w2 = w1.alloc (.cells (madeCells #[.int .i64 0] mm) 2) := ⟨_, rfl⟩
  have o2 : w2.ownsRow w.heap.size 2 1 (.slice (some ⟨w.heap.size + 1, 0, none⟩) mm mm) mm ((rowF mm (fun _ => 0)).map (Value.int .i64)) := by
    rw [← rowF_zero, hw2, Nat.mul_one, ← hz1]
    exact World.ownsRow_lit w1 _ mm (by omega) (by unfold maxLen; omega) (by rw [size_madeCells, Nat.mul_one])
  have b2 : Below w1.heap.size w1 w2 := by rw [hw2]; exact (Below.refl _ _).alloc (Nat.le_refl _) _
  rw [← hw1, ← hw2]
  have X2 := Lib.hid (show LBox w2 w.heap.size (n : Int) A mm c B n d from Box.below x1 b2)
  have O2 := Lib.hid o2
  have B2 := Lib.hid (below_then b1 b2)
  clear hw1 hw2 hz1 b1 x1 o2 b2
  go_loopw [21] (fun xv wr => ∃ x : Nat, x ≤ mm ∧ xv = .int .i64 x ∧ wr.ownsRow w.heap.size 2 1 (.slice (some ⟨w.heap.size + 1, 0, none⟩) mm mm) mm ((rowF mm (greF e bl x 0)).map (Value.int .i64)) ∧ LBox wr w.heap.size (n : Int) A mm c B n d ∧ Below w.heap.size w wr) (fun xv _ => mm - (intOf xv).toNat)
  case atStart =>
    refine ⟨0, Nat.zero_le _, rfl, ?_, X2.out, B2.out⟩
    rw [rowF_congr (g := fun _ => 0)]
    · exact O2.out
    · intro y hy
      unfold greF
      rw [if_neg (by omega)]
      split <;> rfl
  case round =>
    obtain ⟨x, hx, rfl, hown, hbox, hbel⟩ := hrel
    obtain ⟨wo, hwo⟩ : ∃ wo, wo = wr := ⟨_, rfl⟩
    rw [← hwo] at hown hbox hbel ⊢
    clear hwo
    have HO := Lib.hid hown
    have HBX := Lib.hid hbox
    have HB := Lib.hid hbel
    have hx0 : (0 : Int) ≤ (x : Int) := by omega
    clear hown hbox hbel
    by_cases hxm : x < mm
    · have hxi : (x : Int) < (mm : Int) := by omega
      obtain ⟨row, Bx, ox, Ar, cr, hr1, hAe, hcr0, hnr⟩ := (HX.out.below HB.out).at_ hxm
      have hgr := HG.out.good.rows x row hr1
      have hr10 : ∀ y ∈ row, 0 ≤ y ∧ y < 10 := fun y hy => by have := hgr.2 y hy; omega
      rw [hgr.1] at hcr0 hnr
      subst hAe
      have HR10 := Lib.hid hr10
      have HNR := Lib.hid hnr
      obtain ⟨T, hT⟩ : ∃ T, T = aftB b row n := ⟨_, rfl⟩
      have hTl : T < 1024 := by
        rw [hT]
        refine aftB_lt n (fun j _ => ?_)
        rcases Nat.lt_or_ge j row.length with a | a
        · have := hr10 row[j] (List.getElem_mem a)
          rw [List.getD_eq_getElem?_getD, List.getElem?_eq_getElem a]
          show (row[j]).toNat < 10
          omega
        · rw [List.getD_eq_getElem?_getD, List.getElem?_eq_none a]; simp
      have HBT := Lib.hid (show ∀ v, lampB T ls v n = bl x v from fun v => by
        rw [HBL.out, hT]; unfold belB
        rw [List.getD_eq_getElem?_getD, hr1]; rfl)
      have HTT := Lib.hid hT
      have HLA := Lib.hid HG.out.lamp
      have q0 := HBX.out 0 _ rfl
      have q1 := HBX.out 1 _ rfl
      have q2 := HBX.out 2 _ rfl
      clear hr1 hgr hr10 hnr hT
      go_wp2_with fail
      go_region_law
        (first
          | (go_simp; go_at_call 59; refine (after_any Ar n cr b row _ hb (by first | exact HNR.out | exact HNR.out.drew | exact HNR.out.drewN _) hn10 HR10.out).mono ?_; rw [← HTT.out]; rintro e' w' ⟨rfl, rfl⟩)
          | (go_simp; go_at_call 60; refine (byLamp_any T (n : Int) _ mm c B n d ls _ hTl (by first | exact (HY.out.below HB.out) | exact (HY.out.below HB.out).drew) hn10 HLA.out).mono ?_; rintro e' w5 ⟨rfl, b5⟩; have B5 : Hid (Below wo.heap.size wo w5) := Lib.hid (by first | exact b5 | exact below_then (below_drewN' (Below.refl _ _) 1) b5); clear b5)
          | fail)
      all_goals
        clear q0 q1 q2 hcr0
        have HB5 := Lib.hid (below_then HB.out B5.out)
        have HO5 := Lib.hid (own_below HO.out B5.out)
        have HBX5 := Lib.hid (show LBox w5 w.heap.size (n : Int) (some ⟨Bx, ox, none⟩) mm c B n d from Box.below HBX.out B5.out)
        go_wp2_with fail
        go_loopw [31] (fun vv wi => ∃ v : Nat, v ≤ 4 ∧ vv = .int .i64 v ∧ wi.ownsRow w.heap.size 2 1 (.slice (some ⟨w.heap.size + 1, 0, none⟩) mm mm) mm ((rowF mm (greF e bl x v)).map (Value.int .i64)) ∧ LBox wi w.heap.size (n : Int) (some ⟨Bx, ox, none⟩) mm c B n d ∧ Below w.heap.size w wi) (fun vv _ => 4 - (intOf vv).toNat)
        case atStart => exact ⟨0, Nat.zero_le _, rfl, HO5.out, HBX5.out, HB5.out⟩
        case round =>
          obtain ⟨v, hv, rfl, hown, hbox, hbel⟩ := hrel
          obtain ⟨wi, hwi⟩ : ∃ wi, wi = wr := ⟨_, rfl⟩
          rw [← hwi] at hown hbox hbel ⊢
          clear hwi
          have HO6 := Lib.hid hown
          have HBX6 := Lib.hid hbox
          have HB6 := Lib.hid hbel
          have hv0 : (0 : Int) ≤ (v : Int) := by omega
          by_cases hv4 : v < 4
          · have hvi : (v : Int) < 4 := by omega
            obtain ⟨C, hC⟩ : ∃ C, C = lampB T ls v n := ⟨_, rfl⟩
            have hCl : C < 1024 := by rw [hC]; exact lampB_lt hTl _ _ _
            have hix := fun (w : World) => run_index_lampB (lampV T ls n) v C w hv4 (by rw [hC]; rcases v with _ | _ | _ | _ | v <;> first | rfl | omega)
            have hcd : wi.cell? ⟨ALL, C, none⟩ = some (.int .i64 (e C)) := (DepAt.cell (b := C) (show DepAt wi baseA ALL e from own_below HAA.out hbel) hCl)
            have hcg : wi.cell? ⟨w.heap.size + 1, x, none⟩ = some (.int .i64 (greF e bl x v x)) := by
              rw [hown.cellAt x (by omega), List.getElem?_map, rowF_at _ hxm]; rfl
            have hfg : wi.frozen? ⟨w.heap.size + 1, x, none⟩ = false := hown.frozenAt x
            have hgv : greF e bl x v x = worstN e (bl x) v := by unfold greF; simp
            obtain ⟨V, hV⟩ : ∃ V, V = worstN e (bl x) v := ⟨_, rfl⟩
            rw [hgv, ← hV] at hcg
            obtain ⟨Y, hY⟩ : ∃ Y, Y = e C := ⟨_, rfl⟩
            rw [← hY] at hcd
            have hW : worstN e (bl x) (v + 1) = if Y < V then V else Y := by rw [worstN, ← hV, ← HBT.out v, ← hC, ← hY]
            have HW := Lib.hid hW
            have hC0 : (0 : Int) ≤ (C : Int) := by omega
            have hC1 : (C : Int) < 1024 := by omega
            have hst : ∀ Z, Z = worstN e (bl x) (v + 1) → (wi.setCell ⟨w.heap.size + 1, x, none⟩ (.int .i64 Z)).ownsRow w.heap.size 2 1 (.slice (some ⟨w.heap.size + 1, 0, none⟩) mm mm) mm ((rowF mm (greF e bl x (v + 1))).map (Value.int .i64)) := by
              intro Z hZ
              have h9 := own_storeF hown x Z
              rw [hZ, greF_step] at h9
              rw [hZ]; exact h9
            have HST := Lib.hid hst
            have hbx : ∀ Z, LBox (wi.setCell ⟨w.heap.size + 1, x, none⟩ (.int .i64 Z)) w.heap.size (n : Int) (some ⟨Bx, ox, none⟩) mm c B n d := fun Z => Box.only hbox (only_setCellL wi (w.heap.size + 1) x _) (.inl (Nat.lt_succ_self _))
            have HBZ := Lib.hid hbx
            have hbl2 : ∀ Z, Below w.heap.size w (wi.setCell ⟨w.heap.size + 1, x, none⟩ (.int .i64 Z)) := fun Z => hbel.setCell (by simp) _
            have HBL2 := Lib.hid hbl2
            clear hC hgv hV hY hW hst hbx hbl2 hown hbox hbel
            obtain ⟨Z, hZ⟩ : ∃ Z, Z = if V < Y then Y else V := ⟨_, rfl⟩
            have HZ := Lib.hid hZ
            have HZW := Lib.hid (show Z = worstN e (bl x) (v + 1) by
              rw [hZ, HW.out]
              rcases Int.lt_trichotomy V Y with h1 | h1 | h1
              · rw [if_pos h1, if_neg (by omega)]
              · subst h1; simp
              · rw [if_neg (by omega), if_pos h1])
            clear hZ
            go_wp2_with fail
            go_region_law (fail)
            all_goals
              rw [← HZ.out]
              obtain ⟨w7, hw7⟩ : ∃ w7, w7 = (wi.setCell ⟨w.heap.size + 1, x, none⟩ (.int .i64 Z)).drew := ⟨_, rfl⟩
              have R1 := Lib.hid (show w7.ownsRow w.heap.size 2 1 (.slice (some ⟨w.heap.size + 1, 0, none⟩) mm mm) mm ((rowF mm (greF e bl x (v + 1))).map (Value.int .i64)) by rw [hw7]; exact HST.out Z HZW.out)
              have R2 := Lib.hid (show LBox w7 w.heap.size (n : Int) (some ⟨Bx, ox, none⟩) mm c B n d by rw [hw7]; exact HBZ.out Z)
              have R3 := Lib.hid (show Below w.heap.size w w7 by rw [hw7]; exact below_drewN' (HBL2.out Z) 1)
              rw [← hw7]
              clear hw7 hcd hcg hfg hix
              go_wp2_with fail
              go_roundw
              case rel => exact ⟨v + 1, by omega, by go_num, R1.out, R2.out, R3.out⟩
              case measure => simp [intOf]; omega
          · have hv4e : v = 4 := by omega
            have R1 := Lib.hid (show wi.ownsRow w.heap.size 2 1 (.slice (some ⟨w.heap.size + 1, 0, none⟩) mm mm) mm ((rowF mm (greF e bl (x + 1) 0)).map (Value.int .i64)) by rw [← greF_next, ← hv4e]; exact hown)
            clear hv4e hown hbox hbel
            go_wp2_with fail
            go_roundw
            case rel => exact ⟨x + 1, by omega, by go_num, R1.out, HBX6.out, HB6.out⟩
            case measure => simp [intOf]; omega
    · have hxe : x = mm := by omega
      have R1 := Lib.hid (show wo.ownsRow w.heap.size 2 1 (.slice (some ⟨w.heap.size + 1, 0, none⟩) mm mm) mm ((rowF mm (fun y => worstN e (bl y) 4)).map (Value.int .i64)) by
        have h9 := HO.out
        rw [rowF_congr (g := fun y => worstN e (bl y) 4)] at h9
        · exact h9
        · intro y hy; unfold greF; rw [if_pos (by omega)])
      clear hxe
      go_wp2_with fail
      go_ret
      exact ⟨_, rfl, R1.out, HB.out⟩

end Go.Proofs.Ytdelanjkaokiaaa
