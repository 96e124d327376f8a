/-
  The sets of the states with each lamp: listsOf, and the program's LampClasses.
-/
import Derived.Test.YtkfajimhooidcaaCls
import Derived.Deep.DeepCutAuto
namespace Go.Proofs.Ytkfajimhooidcaa
open Go.RowKit Go.Deep Go.ChangeShapes Go.WideShapes

/-- The slice with the address A and the length n reads as the sets bs. -/
def SetsAt (w : World) (A : Option Addr) (n : Nat) (bs : List Nat) : Prop :=
  bs.length = n ∧ ∀ (k b : Nat), bs[k]? = some b → ∃ B off, A = some ⟨B, off, none⟩ ∧ w.cell? ⟨B, off + k, none⟩ = some (.int .u16 (b : Int))
theorem SetsAt.at_ {w : World} {A : Option Addr} {n : Nat} {bs : List Nat} (h : SetsAt w A n bs) {k : Nat} (hk : k < n) : ∃ b B off, bs[k]? = some b ∧ A = some ⟨B, off, none⟩ ∧ w.cell? ⟨B, off + k, none⟩ = some (.int .u16 (b : Int)) := by
  have hl : k < bs.length := by rw [h.1]; exact hk
  obtain ⟨B, off, e, hc⟩ := h.2 k bs[k] (List.getElem?_eq_getElem hl)
  exact ⟨_, B, off, List.getElem?_eq_getElem hl, e, hc⟩
theorem SetsAt.below {w w' : World} {A : Option Addr} {n : Nat} {bs : List Nat} (h : SetsAt w A n bs) (hb : Below w.heap.size w w') : SetsAt w' A n bs :=
  ⟨h.1, fun k b hx => by
    obtain ⟨B, off, e, hc⟩ := h.2 k b hx
    exact ⟨B, off, e, (hb.cell (cell_lt hc)).trans hc⟩⟩
theorem SetsAt.own {w : World} {base : Nat} {e : TypeId} {g n c : Nat} {bs : List Nat} (h : w.ownsRow base e 1 (.slice (some ⟨g, 0, none⟩) n c) n (bs.map bitU)) (hn : bs.length = n) : SetsAt w (some ⟨g, 0, none⟩) n bs :=
  ⟨hn, fun k b hb => ⟨g, 0, rfl, by
    have hk : k < n := by
      rcases Nat.lt_or_ge k bs.length with hlt | hge
      · omega
      · rw [List.getElem?_eq_none hge] at hb; cases hb
    rw [Nat.zero_add, h.cellAt k (by omega), List.getElem?_map, hb]; rfl⟩⟩

theorem tabV_none (lo hi : Nat) (w : World) : TabV lo hi w (.slice none 0 0) [] [] := by
  refine ⟨rfl, World.ownsRow_nil _ _ _ _, fun g hg => ?_, fun r u xs hu => ?_, fun r r' u u' g hu => ?_, fun r u g hu => ?_⟩
  · simp [Value.ownBlock] at hg
  · simp at hu
  · simp at hu
  · simp at hu

set_option maxRecDepth 100000 in
set_option maxHeartbeats 4000000 in
theorem listsOf_any (A : Option Addr) (n c : Nat) (bs : List Nat) (w : World) (h : SetsAt w A n bs) (hn : n ≤ 1048576) (hb : ∀ b ∈ bs, b < 1024) :
    Calls Try.prog 44 #[.slice A n c] w fun e w' => ∃ u, e = .returned u ∧ TabIn w.heap.size w'.heap.size w' u (bs.map fun b => listK b 10) ∧ Below w.heap.size w w' := by
  obtain ⟨i1, hi1, hy0, hy1, hy2⟩ := info_parts info_ints
  have HBS := Lib.hid hb
  have HL := Lib.hid h.1
  have HH := Lib.hid h
  clear hb h
  go_enter Try.func44, Try.ntmps44
  go_wp2_with fail
  go_loopw [3, 8] (fun ov iv wr => ∃ (k : Nat) (vs : List Value) (Y : List (List Int)), k ≤ n ∧ iv = .int .i64 k ∧ Y = (bs.take k).map (fun b => listK b 10) ∧ Y.length = k ∧ TabV w.heap.size wr.heap.size wr ov vs Y ∧ Below w.heap.size w wr) (fun _ iv _ => n - (intOf iv).toNat)
  case atStart => exact ⟨0, [], [], Nat.zero_le _, rfl, rfl, rfl, tabV_none _ _ _, Below.refl _ _⟩
  case round =>
    obtain ⟨k, vs, Y, hk, rfl, hY, hYl, htab, hbel⟩ := hrel
    obtain ⟨A3, C3, rfl⟩ := own_form htab.out
    have HT := Lib.hid htab
    have HB := Lib.hid hbel
    have HYY := Lib.hid hY
    have HYL := Lib.hid hYl
    have h1 := HH.out.below hbel
    have hk0 : (0 : Int) ≤ (k : Int) := by omega
    clear htab hbel hY
    by_cases hlt : k < n
    · have hkn : (k : Int) < (n : Int) := by omega
      obtain ⟨b, b0, off, hbk, rfl, hc⟩ := h1.at_ hlt
      have hb10 := HBS.out b (List.mem_of_getElem? hbk)
      have HBK := Lib.hid hbk
      have hym : Y.length < 1048576 := by omega
      clear hbk h1 hYl
      go_wp2_with fail
      refine (setList_any b wr hb10).mono ?_
      rintro e w4 ⟨u, rfl, o4, b4⟩
      obtain ⟨Z, hZ⟩ : ∃ Z, Z = listK b 10 := ⟨_, rfl⟩
      rw [← hZ] at o4
      obtain ⟨A5, C5, rfl⟩ := own_form o4
      have HT4 := Lib.hid (HT.out.below b4)
      have HI4 := Lib.hid (IntsIn.of o4)
      have HW4 := Lib.hid (below_then HB.out b4)
      have HLE := Lib.hid (show w.heap.size ≤ w4.heap.size from HW4.out.size)
      have HN := Lib.hid (show (bs.take (k + 1)).map (fun b => listK b 10) = Y ++ [Z] by rw [take_snoc HBK.out, List.map_append, ← HYY.out, hZ]; rfl)
      clear o4 b4 hZ hc
      go_wp2_with (at_builtin; refine wpList_append_own_at _ rfl _ _ 22 rfl (w.heap.size) 25 i1 (.slice none 0 0) 1 24 Try.underlying22 hi1 hy0 hy1 hy2 rfl (by decide) _ _ _ rfl (World.ownsRow.alloc (HT4.out.out) _) ⟨(w4).heap.size, 0, none⟩ 1 1 [.slice A5 Z.length C5] rfl rfl (cell_one_new _ _ _) (by simp [Value.oneCell']) (by unfold maxLen; omega) (by omega) (by rw [World.size_alloc]; exact Nat.le_succ_of_le HLE.out) ?_)
      intro v' w5 hown' hgrow _ hat
      have ba : Below w4.heap.size w4 (w4.alloc (.cells #[.slice A5 Z.length C5] 25)) := (Below.refl _ _).alloc (Nat.le_refl _) _
      have htab2 := TabV.snoc (HT4.out.below ba) (HI4.out.below ba) hown' hgrow (by rw [World.size_alloc]; exact hat) HB.out.size (Nat.le_refl _) (by have := ba.size; omega)
      rw [← HN.out] at htab2
      have HT5 := Lib.hid htab2
      have HB5 := Lib.hid (below_grown (below_then HW4.out ba) hgrow (fun g hg => (HT4.out.out.lt g hg).1))
      have HN2 := Lib.hid (show ((bs.take (k + 1)).map (fun b => listK b 10)).length = k + 1 by rw [HN.out, List.length_append, HYL.out]; rfl)
      clear hown' hgrow hat ba htab2
      go_wp2_with fail
      go_roundw
      case rel => exact ⟨k + 1, _, _, by omega, by go_num, rfl, HN2.out, HT5.out, HB5.out⟩
      case measure => simp [intOf]; omega
    · have hkn : k = n := by omega
      have HKN := Lib.hid hkn
      clear h1 hkn hYl
      go_wp2_with fail
      go_ret
      refine ⟨_, rfl, ⟨vs, ?_⟩, HB.out⟩
      have e : bs.map (fun b => listK b 10) = Y := by rw [HYY.out, HKN.out, List.take_of_length_le (by rw [HL.out]; exact Nat.le_refl _)]
      rw [e]
      exact HT.out

def posOk (b : Nat) : Bool := decide (b = 0) || decide (0 < Lib.onesCount b)
theorem pos_all : (List.range 1024).all posOk = true := by decide +kernel
theorem listK_pos {b : Nat} (hb : b < 1024) : 0 < (listK b 10).length ↔ ¬ b = 0 := by
  rw [listK_len hb]
  constructor
  · rintro h rfl
    revert h; decide
  · intro h
    have h2 := List.all_eq_true.1 pos_all b (List.mem_range.2 hb)
    simp only [posOk, Bool.or_eq_true, decide_eq_true_eq] at h2
    omega


theorem filter_listK : ∀ (bs : List Nat), (∀ b ∈ bs, b < 1024) → (bs.filter fun b => !decide (b = 0)).map (fun b => listK b 10) = (bs.map fun b => listK b 10).filter fun l => decide (0 < l.length)
  | [], _ => rfl
  | b :: bs, h => by
    have ih := filter_listK bs (fun x hx => h x (List.mem_cons_of_mem _ hx))
    have hb := h b List.mem_cons_self
    have hp := listK_pos hb
    rw [List.map_cons]
    by_cases h0 : b = 0
    · rw [List.filter_cons_of_neg (by simp [h0]), List.filter_cons_of_neg (by simp only [decide_eq_true_eq]; exact fun k => (hp.1 k) h0), ih]
    · rw [List.filter_cons_of_pos (by simp [h0]), List.filter_cons_of_pos (by simp only [decide_eq_true_eq]; exact hp.2 h0), List.map_cons, ih]
theorem full_bit {n q : Nat} : (2 ^ n - 1).testBit q = decide (q < n) := Nat.testBit_two_pow_sub_one n q
theorem cls_list {n m : Nat} {xss : List (List Int)} {ls : List Int} (hg : GoodL n m xss ls) (v : Nat) : listK (lampB (2 ^ n - 1) ls v n) 10 = withL ls (v : Int) (allL n) := by
  rw [allL_setL, withL_setL]
  have hn10 := hg.good.n10
  have h1 : listK (lampB (2 ^ n - 1) ls v n) 10 = listK (lampB (2 ^ n - 1) ls v n) n := listK_stop (lampB_le (by have := Nat.two_pow_pos n; omega) ls v n) 10 hn10
  rw [h1]
  show setL (bitF _) n = _
  refine setL_congr n (fun q hq => ?_)
  show (lampB (2 ^ n - 1) ls v n).testBit q = _
  rw [lampB_bit, full_bit]
  simp [hq]
theorem full_lt {n : Nat} (hn : n ≤ 10) : 2 ^ n - 1 < 1024 := by have := pow_le hn; omega

theorem box4_cells {w : World} {B : Nat} {x0 x1 x2 x3 : Value} {T : TypeId} (h : w.heap[B]? = some (.cells #[x0, x1, x2, x3] T (0, 0))) :
    w.cell? ⟨B, 0, none⟩ = some x0 ∧ w.cell? ⟨B, 1, none⟩ = some x1 ∧ w.cell? ⟨B, 2, none⟩ = some x2 ∧ w.cell? ⟨B, 3, none⟩ = some x3 ∧ w.frozen? ⟨B, 0, none⟩ = false ∧ w.frozen? ⟨B, 1, none⟩ = false ∧ w.frozen? ⟨B, 2, none⟩ = false ∧ w.frozen? ⟨B, 3, none⟩ = false :=
  ⟨cell_of_row _ B 0 _ _ _ h, cell_of_row _ B 1 _ _ _ h, cell_of_row _ B 2 _ _ _ h, cell_of_row _ B 3 _ _ _ h, frozen_of_row _ B 0 _ _ h, frozen_of_row _ B 1 _ _ h, frozen_of_row _ B 2 _ _ h, frozen_of_row _ B 3 _ _ h⟩

theorem heap_drewU (w : World) (g : Nat) : w.drew.heap[g]? = w.heap[g]? := rfl
theorem set4_heap {w : World} {B : Nat} {x0 x1 x2 x3 y0 y1 y2 y3 : Value} {T : TypeId} (h : w.heap[B]? = some (.cells #[x0, x1, x2, x3] T (0, 0))) :
    ((((w.setCell ⟨B, 0, none⟩ y0).setCell ⟨B, 1, none⟩ y1).setCell ⟨B, 2, none⟩ y2).setCell ⟨B, 3, none⟩ y3).heap[B]? = some (.cells #[y0, y1, y2, y3] T (0, 0)) := by
  have h1 := heap_setCell_same w B 0 _ _ y0 h
  have h2 := heap_setCell_same _ B 1 _ _ y1 h1
  have h3 := heap_setCell_same _ B 2 _ _ y2 h2
  exact heap_setCell_same _ B 3 _ _ y3 h3
theorem set4_below {a w : World} {b B : Nat} {y0 y1 y2 y3 : Value} (h : Below b a w) (hB : b ≤ B) : Below b a ((((w.setCell ⟨B, 0, none⟩ y0).setCell ⟨B, 1, none⟩ y1).setCell ⟨B, 2, none⟩ y2).setCell ⟨B, 3, none⟩ y3) :=
  (((h.setCell hB _).setCell hB _).setCell hB _).setCell hB _

set_option maxRecDepth 100000 in
theorem isEmpty_any (b : Nat) (W : World) :
    Calls Try.prog 43 #[.int .u16 (b : Int)] W fun e w' => e = .returned (.bool (decide (b = 0))) ∧ W = w' := by
  have h1 : ((b : Int) == 0) = decide (b = 0) := by
    by_cases h : b = 0
    · subst h; rfl
    · rw [decide_eq_false h, beq_eq_false_iff_ne]; omega
  go_enter Try.func43, Try.ntmps43
  go_wp2_with fail
  go_ret
  exact ⟨rfl, rfl⟩

set_option maxRecDepth 100000 in
set_option maxHeartbeats 1500000 in
theorem implLampClasses_any (s : Int) (A : Option Addr) (n c : Nat) (xss : List (List Int)) (B : Option Addr) (m d : Nat) (ls : List Int) (w : World) (h : RowsAt w A n xss) (hn : n ≤ 4611686018427387904)
    (hrows : ∀ (r : Nat) (xs : List Int), xss[r]? = some xs → xs.length ≤ 4611686018427387904) (g : NumsAt w B m ls) (hm : m ≤ 4611686018427387904) :
    Calls Try.prog 15 #[.agg #[.int .i64 s, .slice A n c, .slice B m d]] w (TabsTo2 (lampClasses s xss ls) w) := by
  have HR := Lib.hid hrows
  have HL := Lib.hid h.1
  clear hrows
  obtain ⟨w1, hw1⟩ : ∃ w1, w1 = w.alloc (.cells #[.int .i64 s, .slice A n c, .slice B m d] 32) := ⟨_, rfl⟩
  have b1 : Below w.heap.size w w1 := by rw [hw1]; exact (Below.refl _ _).alloc (Nat.le_refl _) _
  have HB1 := Lib.hid (show LBox w1 w.heap.size s A n c B m d by rw [hw1]; exact Box.new _ _ _)
  have HX1 := Lib.hid (h.below b1)
  have HY1 := Lib.hid (g.below b1)
  have W1 := Lib.hid b1
  have HW := Lib.hid hw1
  have n0 := HB1.out 0 _ rfl
  have n1 := HB1.out 1 _ rfl
  have n2 := HB1.out 2 _ rfl
  rw [hw1] at n0 n1 n2
  clear h g b1 hw1
  go_enter Try.func15, Try.ntmps15
  go_wp2_with fail
  rw [← HW.out]
  clear n0 n1 n2
  refine (implValidLit_any s A n c xss B m d ls w1 HX1.out hn HR.out HY1.out hm).mono ?_
  rintro e w2 ⟨rfl, b2⟩
  have HB2 := Lib.hid (show LBox w2 w.heap.size s A n c B m d from Box.below HB1.out b2)
  have HY2 := Lib.hid (HY1.out.below b2)
  have W2 := Lib.hid (below_then W1.out b2)
  clear b2 HB1 HX1 HY1 W1 HW
  rcases hok : okL s xss ls with _ | _
  · go_wp2_with fail
    go_ret2
    exact tabsTo2_mk (lampClasses_1 hok) ⟨[], tabV_none _ _ _⟩ W2.out
  · obtain ⟨N, hsN, hg⟩ := goodL_of hok HL.out
    subst hsN
    have HF := Lib.hid (lampClasses_0 hok)
    have hN10 : N ≤ 10 := hg.good.n10
    have hmN : m = N := by rw [← HY2.out.1]; exact hg.len
    subst hmN
    have hfl := full_lt hN10
    have HLA := Lib.hid hg.lamp
    have HG := Lib.hid hg
    have R0 := Lib.hid (HB2.out.rule (j := 0) rfl)
    have R1 := Lib.hid (HB2.out.rule (j := 1) rfl)
    have R2 := Lib.hid (HB2.out.rule (j := 2) rfl)
    have q0 := HB2.out 0 _ rfl
    have q1 := HB2.out 1 _ rfl
    have q2 := HB2.out 2 _ rfl
    have s0 := fun o => R0.out _ ((Below.refl _ w2).alloc (Nat.le_refl _) o)
    have s1 := fun o => R1.out _ ((Below.refl _ w2).alloc (Nat.le_refl _) o)
    have s2 := fun o => R2.out _ ((Below.refl _ w2).alloc (Nat.le_refl _) o)
    obtain ⟨T, hT⟩ : ∃ T, T = 2 ^ m - 1 := ⟨_, rfl⟩
    rw [← hT] at hfl
    have HTT := Lib.hid hT
    obtain ⟨C0, hC0⟩ : ∃ C0, C0 = lampB T ls 0 m := ⟨_, rfl⟩
    obtain ⟨C1, hC1⟩ : ∃ C1, C1 = lampB T ls 1 m := ⟨_, rfl⟩
    obtain ⟨C2, hC2⟩ : ∃ C2, C2 = lampB T ls 2 m := ⟨_, rfl⟩
    obtain ⟨C3, hC3⟩ : ∃ C3, C3 = lampB T ls 3 m := ⟨_, rfl⟩
    have HMM := Lib.hid (show lampV T ls m = #[.int .u16 (C0 : Int), .int .u16 (C1 : Int), .int .u16 (C2 : Int), .int .u16 (C3 : Int)] by rw [hC0, hC1, hC2, hC3]; rfl)
    have HC := Lib.hid (show [C0, C1, C2, C3] = (List.range 4).map fun v => lampB T ls v m by rw [hC0, hC1, hC2, hC3]; rfl)
    clear hg hok hT hC0 hC1 hC2 hC3
    go_upto_region 3 with fail
    go_cut [4] (fun sp wx => ∃ G : Nat, sp = .pointer (some ⟨G, 0, none⟩) ∧ wx.heap[G]? = some (.cells #[.int .u16 (C0 : Int), .int .u16 (C1 : Int), .int .u16 (C2 : Int), .int .u16 (C3 : Int)] 64 (0, 0)) ∧ w2.heap.size ≤ G ∧ Below w2.heap.size w2 wx)
    case first =>
     go_region_law
      (first
        | (go_simp; go_at_call 41; refine (allStates_any A m n c _ hN10).mono ?_; rw [← HTT.out]; rintro e' w3 ⟨rfl, b3⟩; have zq : w3.heap[w2.heap.size]? = some (.cells #[.int .u16 0, .int .u16 0, .int .u16 0, .int .u16 0] 64 (0, 0)) := (b3.block _ (by first | (rw [World.size_alloc]; exact Nat.lt_succ_self _) | (show _ < (World.alloc _ _).heap.size; rw [World.size_alloc]; exact Nat.lt_succ_self _))).trans (by first | exact heap_alloc_new _ _ | (show (World.alloc _ _).heap[_]? = _; exact heap_alloc_new _ _)); have ZQ := Lib.hid zq; clear zq; have B3 : Hid (Below w2.heap.size w2 w3) := Lib.hid (by first | exact b3 | exact below_then (below_drewN' (Below.refl _ _) 1) b3 | exact below_then ((Below.refl _ _).alloc (Nat.le_refl _) _) b3 | exact below_then (below_drewN' ((Below.refl _ _).alloc (Nat.le_refl _) _) 1) b3 | exact below_then ((below_drewN' (Below.refl _ _) 1).alloc (Nat.le_refl _) _) b3); have q0 := R0.out _ B3.out; have q1 := R1.out _ B3.out; have q2 := R2.out _ B3.out; have t0 := fun o => R0.out _ (B3.out.alloc B3.out.size o); have t1 := fun o => R1.out _ (B3.out.alloc B3.out.size o); have t2 := fun o => R2.out _ (B3.out.alloc B3.out.size o); clear b3)
        | (go_simp; go_at_call 41; refine (allStates_any A m n c _ hN10).mono ?_; rw [← HTT.out]; rintro e' w3 ⟨rfl, b3⟩; have B3 : Hid (Below w2.heap.size w2 w3) := Lib.hid (by first | exact b3 | exact below_then (below_drewN' (Below.refl _ _) 1) b3 | exact below_then ((Below.refl _ _).alloc (Nat.le_refl _) _) b3 | exact below_then (below_drewN' ((Below.refl _ _).alloc (Nat.le_refl _) _) 1) b3 | exact below_then ((below_drewN' (Below.refl _ _) 1).alloc (Nat.le_refl _) _) b3); have q0 := R0.out _ B3.out; have q1 := R1.out _ B3.out; have q2 := R2.out _ B3.out; have t0 := fun o => R0.out _ (B3.out.alloc B3.out.size o); have t1 := fun o => R1.out _ (B3.out.alloc B3.out.size o); have t2 := fun o => R2.out _ (B3.out.alloc B3.out.size o); clear b3)
        | (go_simp; go_at_call 42; refine (byLamp_any T (m : Int) A n c B m d ls _ hfl (HY2.out.below (by first | exact B3.out | exact B3.out.alloc B3.out.size _ | exact below_drewN' B3.out 1 | exact below_drewN' (B3.out.alloc B3.out.size _) 1 | exact (below_drewN' B3.out 1).alloc B3.out.size _)) hN10 HLA.out).mono ?_; rw [HMM.out]; rintro e' w4 ⟨rfl, b4⟩; have zq : w4.heap[w2.heap.size]? = some (.cells #[.int .u16 0, .int .u16 0, .int .u16 0, .int .u16 0] 64 (0, 0)) := (b4.block _ (block_ltL ZQ.out)).trans ZQ.out; have B4 : Hid (Below w2.heap.size w2 w4) := Lib.hid (by first | exact below_then B3.out b4 | exact below_then (B3.out.alloc B3.out.size _) b4 | exact below_then (below_drewN' B3.out 1) b4 | exact below_then (below_drewN' (B3.out.alloc B3.out.size _) 1) b4 | exact below_then ((below_drewN' B3.out 1).alloc B3.out.size _) b4); clear b4; obtain ⟨x0, x1, x2, x3, y0, y1, y2, y3⟩ := box4_cells zq; have ZQ4 := Lib.hid zq; clear zq)
        | (go_simp; go_at_call 42; refine (byLamp_any T (m : Int) A n c B m d ls _ hfl (HY2.out.below (by first | exact B3.out | exact B3.out.alloc B3.out.size _ | exact below_drewN' B3.out 1 | exact below_drewN' (B3.out.alloc B3.out.size _) 1 | exact (below_drewN' B3.out 1).alloc B3.out.size _)) hN10 HLA.out).mono ?_; rw [HMM.out]; rintro e' w4 ⟨rfl, b4⟩; have zq : w4.heap[w3.heap.size]? = some (.cells #[.int .u16 0, .int .u16 0, .int .u16 0, .int .u16 0] 64 (0, 0)) := (b4.block _ (by first | (rw [World.size_alloc]; exact Nat.lt_succ_self _) | (show _ < (World.alloc _ _).heap.size; rw [World.size_alloc]; exact Nat.lt_succ_self _))).trans (by first | exact heap_alloc_new _ _ | (show (World.alloc _ _).heap[_]? = _; exact heap_alloc_new _ _)); have B4 : Hid (Below w2.heap.size w2 w4) := Lib.hid (by first | exact below_then B3.out b4 | exact below_then (B3.out.alloc B3.out.size _) b4 | exact below_then (below_drewN' B3.out 1) b4 | exact below_then (below_drewN' (B3.out.alloc B3.out.size _) 1) b4 | exact below_then ((below_drewN' B3.out 1).alloc B3.out.size _) b4); clear b4; obtain ⟨x0, x1, x2, x3, y0, y1, y2, y3⟩ := box4_cells zq; have ZQ4 := Lib.hid zq; clear zq)
        | (go_simp; go_at_call 42; refine (byLamp_any T (m : Int) A n c B m d ls _ hfl (HY2.out.below (by first | exact B3.out | exact B3.out.alloc B3.out.size _ | exact below_drewN' B3.out 1 | exact below_drewN' (B3.out.alloc B3.out.size _) 1 | exact (below_drewN' B3.out 1).alloc B3.out.size _)) hN10 HLA.out).mono ?_; rw [HMM.out]; rintro e' w4 ⟨rfl, b4⟩; have B4 : Hid (Below w2.heap.size w2 w4) := Lib.hid (by first | exact below_then B3.out b4 | exact below_then (B3.out.alloc B3.out.size _) b4 | exact below_then (below_drewN' B3.out 1) b4 | exact below_then (below_drewN' (B3.out.alloc B3.out.size _) 1) b4 | exact below_then ((below_drewN' B3.out 1).alloc B3.out.size _) b4); clear b4)
        | fail)
     all_goals
      go_wp2_with fail
      go_meet
      refine ⟨_, rfl, ?_, ?_, ?_⟩
      · (try rw [heap_drewU]); first | rw [heap_alloc_new] | rw [set4_heap ZQ4.out]
      · first | exact B4.out.size | exact B3.out.size | exact Nat.le_refl _
      · (try refine below_drewN' ?_ 1); first | refine set4_below B4.out ?_ | refine B4.out.alloc B4.out.size _
        all_goals first | exact B3.out.size | exact Nat.le_refl _
    case rest =>
      obtain ⟨G, rfl, hheap, hGl, hbel⟩ := hcut
      have hown : wc.ownsRow w2.heap.size 64 1 (.slice (some ⟨G, 0, none⟩) 4 4) 4 ([C0, C1, C2, C3].map bitU) :=
        ⟨rfl, .inr ⟨G, 4, _, rfl, hGl, hheap, Nat.le_refl _, by decide, rfl, rfl⟩⟩
      have HOW := Lib.hid hown
      have HGL := Lib.hid hGl
      have HBC := Lib.hid (below_then W2.out hbel)
      have HOK := Lib.hid (show DelOk 43 #[] (fun b => decide (b = 0)) (fun _ _ => True) G [C0, C1, C2, C3] (G + 1) (G + 1) from
        ⟨fun _ _ => rfl, .inl (Nat.lt_succ_self _), fun k b W _ _ => (isEmpty_any b W).mono fun e w' ⟨he, hw⟩ => ⟨he, trivial, by subst hw; exact Only.refl _ _ _⟩, fun _ _ _ _ _ => trivial⟩)
      have HC1 := Lib.hid (show ∀ b ∈ [C0, C1, C2, C3], b < 1024 by
        rw [HC.out]
        intro b hb
        obtain ⟨v, _, rfl⟩ := List.mem_map.1 hb
        exact lampB_lt hfl _ _ _)
      have hcs : [C0, C1, C2, C3].length = 4 := rfl
      obtain ⟨CS, hCS⟩ : ∃ CS, CS = [C0, C1, C2, C3] := ⟨_, rfl⟩
      rw [← hCS] at HOW HOK HC1 HC hcs
      have HCL := Lib.hid hcs
      clear hown hGl hheap hbel hCS hcs
      go_wp2_with fail
      refine (deleteFuncU_any 43 #[] (fun b => decide (b = 0)) (fun _ _ => True) 64 G (G + 1) (G + 1) w2.heap.size 4 4 CS wc HOK.out (by decide) HCL.out HOW.out trivial).mono ?_
      rintro e w5 ⟨m5, hm5, rfl, o5, _, on5⟩
      obtain ⟨KS, hKS⟩ : ∃ KS, KS = CS.filter fun b => !decide (b = 0) := ⟨_, rfl⟩
      rw [← hKS] at hm5 o5
      have hK4 : m5 ≤ 4 := by rw [hm5, hKS]; exact Nat.le_trans (List.length_filter_le _ _) (Nat.le_of_eq HCL.out)
      have HKS := Lib.hid hKS
      have HK1 := Lib.hid (show ∀ b ∈ KS, b < 1024 by rw [hKS]; exact fun b hb => HC1.out b (List.mem_filter.1 hb).1)
      have HS5 := Lib.hid (SetsAt.own o5 hm5.symm)
      have HB5 := Lib.hid (Only.below HBC.out (on5 G (G + 1) (Nat.le_succ _) (Nat.le_refl _) (Nat.le_refl _) (Nat.lt_succ_self _)) (Nat.le_trans W2.out.size HGL.out) HBC.out.size)
      clear hm5 o5 on5 hKS
      go_wp2_with fail
      refine (listsOf_any _ m5 4 KS w5 HS5.out (by omega) HK1.out).mono ?_
      rintro e w6 ⟨u, rfl, t6, b6⟩
      have HT6 := Lib.hid (t6.wide (lo' := w.heap.size) (hi' := w6.heap.size) HB5.out.size (Nat.le_refl _))
      have HB6 := Lib.hid (below_then HB5.out b6)
      clear t6 b6
      go_wp2_with fail
      go_ret2
      refine tabsTo2_mk (xss := KS.map fun b => listK b 10) ?_ HT6.out HB6.out
      rw [HF.out, HKS.out, filter_listK CS HC1.out, HC.out, HTT.out]
      unfold clsL
      rw [List.map_map]
      congr 2
      refine List.map_congr_left (fun v _ => ?_)
      exact (cls_list HG.out v).symm

end Go.Proofs.Ytkfajimhooidcaa
