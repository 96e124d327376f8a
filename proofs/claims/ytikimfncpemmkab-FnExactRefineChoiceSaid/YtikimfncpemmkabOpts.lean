/-
  Sets of next states as bits: what a table of them reads as, and the contract of optionsOf.
-/
import Derived.Test.YtikimfncpemmkabChoV
import Derived.Test.YtikimfncpemmkabLst
import Derived.Test.YtikimfncpemmkabTrip
import Derived.Deep.DeepCutAuto
import Derived.Deep.RegionLaw
import Derived.Deep.AppendLies
namespace Go.Proofs.Ytikimfncpemmkab
open Go.RowKit Go.Deep Go.ChangeShapes Go.WideShapes
open Hunt Moved

/-- A slice of sets as bits reads as the numbers bs. -/
def BitsAt (w : World) (A : Option Addr) (n : Nat) (bs : List Nat) : Prop :=
  bs.length = n ∧ ∀ (k : Nat) (b : Nat), bs[k]? = some b → ∃ B off, A = some ⟨B, off, none⟩ ∧ w.cell? ⟨B, off + k, none⟩ = some (.int .u16 (b : Int))
theorem BitsAt.at_ {w : World} {A : Option Addr} {n : Nat} {bs : List Nat} (h : BitsAt w A n bs) {k : Nat} (hk : k < n) : ∃ b B off, bs[k]? = some b ∧ A = some ⟨B, off, none⟩ ∧ w.cell? ⟨B, off + k, none⟩ = some (.int .u16 (b : Int)) := by
  have hl : k < bs.length := by rw [h.1]; exact hk
  obtain ⟨B, off, e, hc⟩ := h.2 k bs[k] (List.getElem?_eq_getElem hl)
  exact ⟨_, B, off, List.getElem?_eq_getElem hl, e, hc⟩
theorem BitsAt.below {w w' : World} {A : Option Addr} {n : Nat} {bs : List Nat} (h : BitsAt w A n bs) (hb : Below w.heap.size w w') : BitsAt w' A n bs :=
  ⟨h.1, fun k b hk => by
    obtain ⟨B, off, e, hc⟩ := h.2 k b hk
    exact ⟨B, off, e, (hb.cell (cell_lt hc)).trans hc⟩⟩
def bitV (b : Nat) : Value := .int .u16 (b : Int)
theorem BitsAt.own {w : World} {base : Nat} {e : TypeId} {A : Option Addr} {n c : Nat} {bs : List Nat} (h : w.ownsRow base e 1 (.slice A n c) n (bs.map bitV)) (hn : bs.length = n) : BitsAt w A n bs := by
  refine ⟨hn, fun k b hk => ?_⟩
  have hl := lt_of_at3 hk
  obtain ⟨g, rfl⟩ := own_addr h (by omega)
  exact ⟨g, 0, rfl, by rw [Nat.zero_add, h.cellAt k (by omega), List.getElem?_map, hk]; rfl⟩
/-- A table of sets as bits reads as the lists bss. -/
def OptsAt (w : World) (A : Option Addr) (n : Nat) (bss : List (List Nat)) : Prop :=
  bss.length = n ∧ ∀ (r : Nat) (bs : List Nat), bss[r]? = some bs → ∃ B off A' c', A = some ⟨B, off, none⟩ ∧ w.cell? ⟨B, off + r, none⟩ = some (.slice A' bs.length c') ∧ BitsAt w A' bs.length bs
theorem OptsAt.at_ {w : World} {A : Option Addr} {n : Nat} {bss : List (List Nat)} (h : OptsAt w A n bss) {r : Nat} (hr : r < n) :
    ∃ bs B off A' c', bss[r]? = some bs ∧ A = some ⟨B, off, none⟩ ∧ w.cell? ⟨B, off + r, none⟩ = some (.slice A' bs.length c') ∧ BitsAt w A' bs.length bs := by
  have hl : r < bss.length := by rw [h.1]; exact hr
  obtain ⟨b, off, A', c', e, hc, hx⟩ := h.2 r bss[r] (List.getElem?_eq_getElem hl)
  exact ⟨_, b, off, A', c', List.getElem?_eq_getElem hl, e, hc, hx⟩
theorem OptsAt.below {w w' : World} {A : Option Addr} {n : Nat} {bss : List (List Nat)} (h : OptsAt w A n bss) (hb : Below w.heap.size w w') : OptsAt w' A n bss :=
  ⟨h.1, fun r xs hx => by
    obtain ⟨b, off, A', c', e, hc, hn⟩ := h.2 r xs hx
    exact ⟨b, off, A', c', e, (hb.cell (cell_lt hc)).trans hc, hn.below hb⟩⟩
/-- The sets of next states as bits. -/
def optsOf (xsss : List (List (List Int))) : List (List Nat) := xsss.map fun xss => xss.map setN
theorem optsOf_at {xsss : List (List (List Int))} {r : Nat} {xss : List (List Int)} (h : xsss[r]? = some xss) : (optsOf xsss)[r]? = some (xss.map setN) := by unfold optsOf; rw [List.getElem?_map, h]; rfl

/-! ### A table in the making -/
/-- The rows vs, in blocks behind OB and below G, hold the lists bss. -/
def RowsU (w : World) (OB G : Nat) (vs : List Value) (bss : List (List Nat)) : Prop :=
  ∀ (r : Nat) (u : Value) (bs : List Nat), vs[r]? = some u → bss[r]? = some bs → w.ownsRow (OB + 1) 100 1 u bs.length (bs.map bitV) ∧ ∀ g, u.ownBlock = some g → g < G
theorem RowsU.only {w w' : World} {OB G lo hi : Nat} {vs : List Value} {bss : List (List Nat)} (h : RowsU w OB G vs bss) (ho : Only lo hi w w') (hd : hi ≤ OB + 1 ∨ G ≤ lo) : RowsU w' OB G vs bss :=
  fun r u bs hu hb => ⟨ho.own (h r u bs hu hb).1 (fun g hg => by have h1 := (h r u bs hu hb).2 g hg; have h2 := ((h r u bs hu hb).1.lt g hg).1; omega), (h r u bs hu hb).2⟩
theorem RowsU.below {w w' : World} {OB G : Nat} {vs : List Value} {bss : List (List Nat)} (h : RowsU w OB G vs bss) (hb : Below w.heap.size w w') : RowsU w' OB G vs bss :=
  fun r u bs hu hx => ⟨own_below (h r u bs hu hx).1 hb, (h r u bs hu hx).2⟩
theorem only_of_belowG {B : Nat} {w w' : World} (h : Below B w w') : Only B w.heap.size w w' := ⟨h.os, h.tape, h.output, h.size, fun k hk hb => h.block k (by omega)⟩
theorem opts_step {w w5 : World} {OB G m k n : Nat} {vs : List Value} {v V : Value} {cs : List Value} {bss : List (List Nat)} (ho : w.ownsRow OB 98 1 (.slice (some ⟨OB, 0, none⟩) m m) m (vs ++ v :: List.replicate (m - (k + 1)) (.slice none 0 0)))
    (hl : vs.length = k) (hr : RowsU w OB G vs bss) (hb : Below G w w5) (h5 : w5.ownsRow G 100 1 V n cs) (hOB : OB < G) :
    (w5.setCell ⟨OB, k, none⟩ V).ownsRow OB 98 1 (.slice (some ⟨OB, 0, none⟩) m m) m (vs ++ V :: List.replicate (m - (k + 1)) (.slice none 0 0)) ∧ (w5.setCell ⟨OB, k, none⟩ V).ownsRow G 100 1 V n cs ∧ RowsU (w5.setCell ⟨OB, k, none⟩ V) OB G vs bss := by
  have hon := only_of_belowG hb
  have ho5 := hon.own ho (fun g hg => by simp [Value.ownBlock] at hg; omega)
  have hr5 := hr.only hon (.inr (Nat.le_refl _))
  have hs := only_setCell w5 OB k V
  refine ⟨?_, hs.own h5 (fun g hg => by have := (h5.lt g hg).1; omega), hr5.only hs (.inl (Nat.le_refl _))⟩
  have e : (vs ++ v :: List.replicate (m - (k + 1)) (Value.slice none 0 0)).set k V = vs ++ V :: List.replicate (m - (k + 1)) (.slice none 0 0) := by
    rw [List.set_append_right _ _ (by omega), hl, Nat.sub_self, List.set_cons_zero]
  rw [← e]
  exact (ho5.stored k V).1
theorem info_bits : (Try.prog.info? 100).map (fun i => (i.zero, i.size, i.bytes)) = some (some (.int .u16 0), 1, 2) := by kernel_rfl
theorem info_bitss : (Try.prog.info? 98).map (fun i => (i.zero, i.size, i.bytes)) = some (some (.slice none 0 0), 1, 24) := by kernel_rfl
theorem ones_u16 (bs : List Nat) : ∀ u ∈ bs.map bitV, u.oneCell' = true := by
  intro u hu
  obtain ⟨b, _, rfl⟩ := List.mem_map.1 hu
  rfl

set_option maxRecDepth 100000 in
set_option maxHeartbeats 4000000 in
theorem optionsOf_any (s : Int) (A : Option Addr) (m cap : Nat) (xsss : List (List (List Int))) (w : World) (h : TabsAt w A m xsss) (hm : m ≤ 3) (hw : ∀ (r : Nat) (xss : List (List Int)), xsss[r]? = some xss → xss.length ≤ 10 ∧ ∀ (k : Nat) (xs : List Int), xss[k]? = some xs → xs.length ≤ 4611686018427387904 ∧ ∀ x ∈ xs, 0 ≤ x ∧ x < 10) :
    Calls Try.prog 77 #[.agg #[.int .i64 s, .slice A m cap]] w fun e w' => ∃ X, e = .returned (.slice X m m) ∧ OptsAt w' X m (optsOf xsss) ∧ Below w.heap.size w w' := by
  have HWD := Lib.hid hw
  have HL := Lib.hid h.1
  obtain ⟨i0, hi, hz0, hz1, hz2⟩ := info_parts info_bits
  have hmk := run_make_row' (P := Try.prog) 96 98 (.slice none 0 0) 24 Try.underlying96 info_bitss rfl .i64 .i64 m (by omega) (by omega)
  clear hw
  go_enter Try.func77, Try.ntmps77
  go_wp2_with fail
  clear hmk
  obtain ⟨w1, hw1⟩ : ∃ w1, w1 = w.alloc (.cells #[.int .i64 s, .slice A m cap] 28) := ⟨_, rfl⟩
  have b1 : Below w.heap.size w w1 := by rw [hw1]; exact (Below.refl _ _).alloc (Nat.le_refl _) _
  obtain ⟨OB, hOB⟩ : ∃ OB, OB = w.heap.size + 1 := ⟨_, rfl⟩
  have z1 : w1.heap.size = OB := by rw [hw1, World.size_alloc, hOB]
  obtain ⟨w2, hw2⟩ : ∃ w2, w2 = w1.alloc (.cells (madeCells #[.slice none 0 0] m) 98) := ⟨_, rfl⟩
  have b2 : Below w1.heap.size w1 w2 := by rw [hw2]; exact (Below.refl _ _).alloc (Nat.le_refl _) _
  have HO0 : Hid (w2.ownsRow OB 98 1 (.slice (some ⟨OB, 0, none⟩) m m) m ([] ++ List.replicate (m - 0) (Value.slice none 0 0))) := Lib.hid (by
    have hs : (madeCells #[Value.slice none 0 0] m).toList = [] ++ List.replicate (m - 0) (Value.slice none 0 0) := by rw [toList_madeCells_one]; simp
    rw [← hs, hw2, ← z1]
    exact World.ownsRow_lit w1 _ m (Nat.le_refl _) (by unfold maxLen; omega) (by rw [size_madeCells, Nat.mul_one]))
  rw [← hw1, ← hw2, ← hOB]
  have H1 := Lib.hid (h.below b1)
  have B1 := Lib.hid b1
  have B2 := Lib.hid b2
  have Z1 := Lib.hid z1
  clear hw1 hw2 b1 b2 z1 hOB h
  go_loopw [15] (fun i wr => ∃ (k : Nat) (vs : List Value), k ≤ m ∧ i = .int .i64 k ∧ vs.length = k ∧ wr.ownsRow OB 98 1 (.slice (some ⟨OB, 0, none⟩) m m) m (vs ++ List.replicate (m - k) (Value.slice none 0 0)) ∧ RowsU wr OB wr.heap.size vs (optsOf xsss) ∧ Below w1.heap.size w1 wr) (fun i _ => m - (intOf i).toNat)
  case atStart => exact ⟨0, [], Nat.zero_le _, rfl, rfl, HO0.out, fun r u bs hu => by simp at hu, B2.out⟩
  case round =>
    obtain ⟨k, vs, hk, rfl, hvl, hown, hrows, hbel⟩ := hrel
    have HVL := Lib.hid hvl
    have HO := Lib.hid hown
    have HRW := Lib.hid hrows
    have HB := Lib.hid hbel
    by_cases hlt : k < m
    · obtain ⟨xss, b, off, A1, c1, hx, rfl, hc, hrow⟩ := H1.out.at_ hlt
      have HX := Lib.hid hx
      have HR1 := Lib.hid hrow
      have hc' : wr.cell? ⟨b, off + k, none⟩ = some (.slice A1 xss.length c1) := (hbel.cell (cell_lt hc)).trans hc
      have hk0 : (0 : Int) ≤ (k : Int) := by omega
      have hkn : (k : Int) < (m : Int) := by omega
      have hx10 : xss.length ≤ 10 := (HWD.out k xss hx).1
      obtain ⟨G, hG⟩ : ∃ G, G = wr.heap.size := ⟨_, rfl⟩
      have HG := Lib.hid hG
      have hOG : OB < G := by rw [hG]; exact (hown.lt OB rfl).2
      have HOG := Lib.hid hOG
      have HO1 : Hid (wr.ownsRow OB 98 1 (.slice (some ⟨OB, 0, none⟩) m m) m (vs ++ (Value.slice none 0 0) :: List.replicate (m - (k + 1)) (Value.slice none 0 0))) := Lib.hid (by
        have e : m - k = (m - (k + 1)) + 1 := by omega
        rw [e, List.replicate_succ] at hown
        exact hown)
      have HRW1 := Lib.hid (show RowsU wr OB G vs (optsOf xsss) by rw [hG]; exact hrows)
      clear hx hrow hc hvl hown hrows hbel hG hOG
      go_wp2_with fail
      go_loopw [22] (fun j wi => ∃ (q : Nat) (v : Value), q ≤ xss.length ∧ j = .int .i64 q ∧ wi.ownsRow OB 98 1 (.slice (some ⟨OB, 0, none⟩) m m) m (vs ++ v :: List.replicate (m - (k + 1)) (Value.slice none 0 0)) ∧ wi.ownsRow G 100 1 v q (((xss.map setN).take q).map bitV) ∧ RowsU wi OB G vs (optsOf xsss) ∧ Below w1.heap.size w1 wi ∧ G ≤ wi.heap.size) (fun j _ => xss.length - (intOf j).toNat)
      case atStart => exact ⟨0, .slice none 0 0, Nat.zero_le _, rfl, HO1.out, World.ownsRow_nil _ _ _ _, HRW1.out, HB.out, Nat.le_of_eq HG.out⟩
      case round =>
        obtain ⟨q, v, hq, rfl, hown, hrowv, hrows, hbel, hgz⟩ := hrel
        obtain ⟨A3, c3, rfl⟩ := own_form hrowv
        have HO2 := Lib.hid hown
        have HV2 := Lib.hid hrowv
        have HR2 := Lib.hid hrows
        have HB2 := Lib.hid hbel
        have HGZ := Lib.hid hgz
        have HROW := Lib.hid (fun g (hg : (Value.slice A3 q c3).ownBlock = some g) => (hrowv.lt g hg).1)
        have hOG := HOG.out
        have c1 : wr.cell? ⟨OB, k, none⟩ = some (.slice A3 q c3) := by
          rw [hown.cellAt k (by omega), List.getElem?_append_right (by rw [HVL.out]; exact Nat.le_refl _), HVL.out, Nat.sub_self]; rfl
        have f1 : wr.frozen? ⟨OB, k, none⟩ = false := hown.frozenAt k
        clear hown hrowv hrows hbel hgz
        by_cases hql : q < xss.length
        · obtain ⟨xs, b2, off2, A2, c2, hxs, hA1, hcx, hnum⟩ := (HR1.out.below HB2.out).at_ hql
          subst hA1
          have HXS := Lib.hid hxs
          have HNX := Lib.hid hnum
          obtain ⟨hxl, hx10'⟩ := (HWD.out k xss HX.out).2 q xs hxs
          have HX10 := Lib.hid hx10'
          obtain ⟨V, hV⟩ : ∃ V, V = setN xs := ⟨_, rfl⟩
          have HVV := Lib.hid hV
          have i1 : (0 : Int) ≤ (q : Int) := by omega
          have i2 : (q : Int) < (xss.length : Int) := by omega
          have hq10 : q ≤ 10 := by omega
          have KO := Lib.hid (show ∀ W', Below wr.heap.size wr W' → W'.cell? ⟨OB, k, none⟩ = some (.slice A3 q c3) from fun W' hb => (hb.cell (cell_lt c1)).trans c1)
          have qd1 : ∀ o, (wr.alloc o).cell? ⟨OB, k, none⟩ = some (.slice A3 q c3) := fun o => KO.out _ ((Below.refl _ _).alloc (Nat.le_refl _) o)
          clear hxs hnum hx10' hV
          go_wp2_with fail
          go_region_law
            (first
              | (refine step_append_lies _ rfl _ _ 98 rfl G 100 i0 (.int .u16 0) 1 2 Try.underlying98 hi hz0 hz1 hz2 rfl (by decide) _ _ _ rfl (own_below HV2.out (by first | exact (Below.refl _ _).alloc (Nat.le_refl _) _ | exact ((Below.refl _ _).alloc (Nat.le_refl _) _).drew | exact (Below.refl _ _).drew.alloc (Nat.le_refl _) _)) ⟨_, 0, none⟩ 1 1 [.int .u16 (V : Int)] rfl rfl (cell_one_new _ _ _) (by intro u hu; simp at hu; subst hu; rfl) (by decide) (by unfold maxLen; omega) (by omega) (by have := HGZ.out; simp; omega) _ rfl ?_; intro g5 cap5 w5 hown5 hgrow5 hat5 hlt5; have HO5 := Lib.hid hown5; have HB5 : Hid (Below G wr w5) := Lib.hid (Below.grown (by first | exact (Below.refl _ _).alloc HGZ.out _ | exact ((Below.refl _ _).alloc HGZ.out _).drew | exact (Below.refl _ _).drew.alloc HGZ.out _) hgrow5 (by have := HGZ.out; simp; omega) (fun g hg => HROW.out g hg)); have c5 : w5.cell? ⟨OB, k, none⟩ = some (.slice A3 q c3) := (HB5.out.cell hOG).trans c1; have f5 : w5.frozen? ⟨OB, k, none⟩ = false := (HB5.out.frozen hOG).trans f1; clear hown5 hgrow5 hat5 hlt5)
              | (go_simp; go_at_call 132; refine (setOf_any A2 xs.length c2 xs _ (by first | exact HNX.out | exact HNX.out.drew | exact HNX.out.drewN _) HX10.out hxl).mono ?_; rw [← HVV.out]; rintro e' w' ⟨rfl, rfl⟩)
              | fail)
          all_goals
            obtain ⟨S1, S2, S3⟩ := opts_step HO2.out HVL.out HR2.out HB5.out HO5.out HOG.out
            have HS1 := Lib.hid S1
            have HS2 := Lib.hid S2
            have HS3 := Lib.hid S3
            have HS4 := Lib.hid (show Below w1.heap.size w1 (w5.setCell ⟨OB, k, none⟩ (.slice (some ⟨g5, 0, none⟩) (q + 1) cap5)) from ((HB2.out.trans (HB5.out.mono (by have := HOG.out; have := Z1.out; omega))).setCell (by have := Z1.out; simp; omega) _))
            have HS5 := Lib.hid (show G ≤ (w5.setCell ⟨OB, k, none⟩ (.slice (some ⟨g5, 0, none⟩) (q + 1) cap5)).heap.size by rw [World.size_setCell]; exact Nat.le_trans HGZ.out HB5.out.size)
            clear S1 S2 S3 c5 f5 c1 f1
            go_wp2_with fail
            go_roundw
            case rel =>
              refine ⟨q + 1, _, by omega, by go_num, HS1.out, ?_, HS3.out, HS4.out, HS5.out⟩
              rw [take_snoc (show (xss.map setN)[q]? = some V by rw [List.getElem?_map, HXS.out, HVV.out]; rfl), List.map_append]
              exact HS2.out
            case measure => simp [intOf]; omega
        · have hqe : q = xss.length := by omega
          have HQE := Lib.hid hqe
          clear hqe c1 f1
          go_wp2_with fail
          go_roundw
          case rel =>
            refine ⟨k + 1, vs ++ [.slice A3 q c3], by omega, by go_num, by rw [List.length_append, HVL.out]; rfl, ?_, fun r u bs hu hb => ?_, HB2.out⟩
            · have e := HO2.out
              rw [List.append_assoc]
              exact e
            · have hr := lt_of_at3 hu
              rw [List.length_append, HVL.out, List.length_singleton] at hr
              by_cases hrk : r < k
              · rw [List.getElem?_append_left (by rw [HVL.out]; exact hrk)] at hu
                exact ⟨(HR2.out r u bs hu hb).1, fun g hg => Nat.lt_of_lt_of_le ((HR2.out r u bs hu hb).2 g hg) HGZ.out⟩
              · obtain rfl : r = k := by omega
                rw [List.getElem?_append_right (by rw [HVL.out]; exact Nat.le_refl _), HVL.out, Nat.sub_self] at hu
                obtain rfl : Value.slice A3 q c3 = u := by simpa using hu
                rw [optsOf_at HX.out] at hb
                obtain rfl : xss.map setN = bs := by simpa using hb
                have hv := HV2.out
                rw [List.take_of_length_le (by rw [List.length_map, HQE.out]; exact Nat.le_refl _)] at hv
                refine ⟨own_base (by rw [List.length_map, ← HQE.out]; exact hv) (by have := HOG.out; omega), fun g hg => (HV2.out.lt g hg).2⟩
          case measure => simp [intOf]; omega
    · have hkm : k = m := by omega
      have HKM := Lib.hid hkm
      clear hkm
      go_wp2_with fail
      go_ret
      refine ⟨_, rfl, ⟨by unfold optsOf; rw [List.length_map, HL.out], fun r bs hb => ?_⟩, below_then B1.out HB.out⟩
      have hlr := lt_of_at3 hb
      unfold optsOf at hlr
      rw [List.length_map, HL.out] at hlr
      have hvs : r < vs.length := by rw [HVL.out]; omega
      obtain ⟨u, hu⟩ : ∃ u, vs[r]? = some u := ⟨vs[r], List.getElem?_eq_getElem hvs⟩
      obtain ⟨ho, _⟩ := HRW.out r u bs hu hb
      obtain ⟨A7, c7, rfl⟩ := own_form ho
      refine ⟨OB, 0, A7, c7, rfl, ?_, BitsAt.own ho rfl⟩
      rw [Nat.zero_add, HO.out.cellAt r (by omega), List.getElem?_append_left hvs, hu]

end Go.Proofs.Ytikimfncpemmkab
