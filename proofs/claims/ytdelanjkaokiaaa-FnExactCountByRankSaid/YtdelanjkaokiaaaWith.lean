/-
  Sets parted by lamps: the contracts of the model's l08With and l08Believed.
-/
import Derived.Test.YtdelanjkaokiaaaLamp
import Derived.Test.YtdelanjkaokiaaaImg
namespace Go.Proofs.Ytdelanjkaokiaaa
open Go.RowKit Go.Deep Go.ChangeShapes Go.WideShapes

/-- Those of a list of states that have a lamp. -/
def withL (ls : List Int) (v : Int) (set : List Int) : List Int := set.filter fun q => decide (ls.getD q.toNat 0 = v)
theorem withL_snoc (ls : List Int) (v : Int) (set : List Int) (x : Int) : withL ls v (set ++ [x]) = if ls.getD x.toNat 0 = v then withL ls v set ++ [x] else withL ls v set := by
  unfold withL
  rw [List.filter_append]
  split
  · rename_i h; rw [List.filter_cons_of_pos (by simpa using h)]; rfl
  · rename_i h; rw [List.filter_cons_of_neg (by simpa using h)]; simp
theorem withL_len (ls : List Int) (v : Int) (set : List Int) : (withL ls v set).length ≤ set.length := List.length_filter_le _ _

set_option maxRecDepth 100000 in
set_option maxHeartbeats 2000000 in
theorem l08With_any (p : Nat) (s : Int) (A : Option Addr) (n c : Nat) (B : Option Addr) (m d : Nat) (ls : List Int) (A2 : Option Addr) (l cap : Nat) (set : List Int) (v : Int) (w : World) (hb : LBox w p s A n c B m d) (g : NumsAt w B m ls)
    (hs : NumsAt w A2 l set) (hl : l ≤ 10) (hset : ∀ x ∈ set, 0 ≤ x ∧ x < (m : Int)) :
    Calls Try.prog 100 #[.pointer (some ⟨p, 0, none⟩), .slice A2 l cap, .int .i64 v] w fun e w' => ∃ u, e = .returned u ∧ w'.ownsRow w.heap.size 2 1 u (withL ls v set).length ((withL ls v set).map (Value.int .i64)) ∧ Below w.heap.size w w' := by
  obtain ⟨i0, hi, hz0, hz1, hz2⟩ := info_parts info_int64
  have HSET := Lib.hid hset
  have HSL := Lib.hid hs.1
  have m2 := hb 2 _ rfl
  have HP := Lib.hid (show ∀ W', Below w.heap.size w W' → W'.cell? ⟨p, 2, none⟩ = some (.slice B m d) from fun W' hb => (hb.cell (cell_lt m2)).trans m2)
  clear hset hb m2
  go_enter Try.func100, Try.ntmps100
  go_wp2_with fail
  go_loopw [7, 8] (fun ov iv wr => ∃ (k : Nat) (L : List Int), k ≤ l ∧ iv = .int .i64 k ∧ L = withL ls v (set.take k) ∧ wr.ownsRow w.heap.size 2 1 ov L.length (L.map (Value.int .i64)) ∧ Below w.heap.size w wr) (fun _ iv _ => l - (intOf iv).toNat)
  case atStart => exact ⟨0, [], Nat.zero_le _, rfl, rfl, own_none w _ (Nat.le_refl _), (Below.refl _ _).alloc (Nat.le_refl _) _⟩
  case round =>
    obtain ⟨k, L, hk, rfl, hL, hown, hbel⟩ := hrel
    obtain ⟨A3, C3, rfl⟩ := own_form hown
    have hLl : L.length ≤ 10 := by rw [hL]; exact Nat.le_trans (withL_len _ _ _) (by rw [List.length_take]; omega)
    have HL := Lib.hid hL
    have HO := Lib.hid hown
    have HB := Lib.hid hbel
    clear hown hL
    by_cases hlt : k < l
    · obtain ⟨x, b1, off1, hx, rfl, hc0⟩ := hs.at_ hlt
      have hc : wr.cell? ⟨b1, off1 + k, none⟩ = some (.int .i64 x) := (hbel.cell (cell_lt hc0)).trans hc0
      have hxn := HSET.out x (List.mem_of_getElem? hx)
      obtain ⟨y, rfl⟩ : ∃ y : Nat, x = (y : Int) := ⟨x.toNat, by omega⟩
      have hym : y < m := by omega
      obtain ⟨z, b2, off2, hz, rfl, hcz0⟩ := g.at_ hym
      have hcz : wr.cell? ⟨b2, off2 + y, none⟩ = some (.int .i64 z) := (hbel.cell (cell_lt hcz0)).trans hcz0
      have hp2 : wr.cell? ⟨p, 2, none⟩ = some (.slice (some ⟨b2, off2, none⟩) m d) := HP.out _ hbel
      have HX := Lib.hid hx
      have HZ := Lib.hid hz
      have i1 : (0 : Int) ≤ (k : Int) := by omega
      have i2 : (k : Int) < (l : Int) := by omega
      have i3 : (0 : Int) ≤ (y : Int) := by omega
      have i4 : (y : Int) < (m : Int) := by omega
      have hgd : ls.getD ((y : Int)).toNat 0 = z := by rw [Int.toNat_natCast, List.getD_eq_getElem?_getD, hz]; rfl
      have HGD := Lib.hid hgd
      clear hx hz hxn hgd hc0 hcz0 hbel
      by_cases hzv : z = v
      · subst hzv
        have HW := Lib.hid (show withL ls z (set.take (k + 1)) = L ++ [(y : Int)] by rw [take_snoc HX.out, withL_snoc, if_pos HGD.out, HL.out])
        have hbe : (z == z) = true := by simp
        go_wp2_with fail
        go_quiet (fail)
        go_wp2_with (at_builtin; refine wpList_append_own _ rfl _ _ 25 rfl (w.heap.size) 2 i0 (.int .i64 0) 1 8 Try.underlying25 hi hz0 hz1 hz2 rfl (by decide) _ _ _ rfl (World.ownsRow.alloc (HO.out) _) ⟨(wr.drew).heap.size, 0, none⟩ 1 1 [.int .i64 (y : Int)] rfl rfl (cell_one_new _ _ _) (ones_i64 [(y : Int)]) (by unfold maxLen; omega) (by omega) (by rw [World.size_alloc]; exact Nat.le_succ_of_le (HB.out.size)) ?_)
        intro v' w2 hown' hgrow _
        have ba : Below wr.heap.size wr ((wr.drewN nq).alloc (.cells #[.int .i64 (y : Int)] 2)) := (below_drewN' (Below.refl _ _) _).alloc (Nat.le_refl _) _
        have HB2 := Lib.hid (below_grown (below_then HB.out ba) hgrow (fun g hg => (HO.out.lt g hg).1))
        have HO2 := Lib.hid hown'
        clear hown' hgrow ba
        go_wp2_with fail
        go_roundw
        case rel => exact ⟨k + 1, L ++ [(y : Int)], by omega, by go_num, HW.out.symm, by rw [List.length_append, List.map_append]; exact HO2.out, HB2.out⟩
        case measure => simp [intOf]; omega
      · have HW := Lib.hid (show withL ls v (set.take (k + 1)) = L by rw [take_snoc HX.out, withL_snoc, if_neg (by rw [HGD.out]; exact hzv), HL.out])
        have hbe : (z == v) = false := by simpa using hzv
        have HZV := Lib.hid hzv
        clear hzv
        go_wp2_with fail
        go_quiet (fail)
        go_wp2_with fail
        go_roundw
        case rel => exact ⟨k + 1, L, by omega, by go_num, HW.out.symm, own_below HO.out (below_drewN' (Below.refl _ _) _), below_drewN' HB.out _⟩
        case measure => simp [intOf]; omega
    · have hkl : k = l := by omega
      have HKL := Lib.hid hkl
      clear hkl hbel
      go_wp2_with fail
      go_ret
      have e : withL ls v set = L := by rw [HL.out, HKL.out, List.take_of_length_le (Nat.le_of_eq HSL.out)]
      rw [e]
      exact ⟨_, rfl, HO.out, HB.out⟩


theorem imageL_mem {n m : Nat} {xss : List (List Int)} {set ws : List Int} (hg : Good n m xss) (hw : ∀ x ∈ ws, 0 ≤ x ∧ x < (m : Int)) (hset : ∀ x ∈ set, 0 ≤ x ∧ x < (n : Int)) : ∀ y ∈ imageL xss set ws, 0 ≤ y ∧ y < (n : Int) := by
  intro y hy
  unfold imageL setL at hy
  obtain ⟨q, hq, rfl⟩ := List.mem_map.1 hy
  have h2 := (List.mem_filter.1 hq).2
  unfold imM at h2
  obtain ⟨x, hx, h3⟩ := List.any_eq_true.1 h2
  have hx' := hset x (List.mem_of_mem_take hx)
  have h4 := hg.to ws x.toNat hw (by omega)
  have h5 := of_decide_eq_true h3
  omega

set_option maxRecDepth 100000 in
theorem l08Believed_any (p : Nat) (A : Option Addr) (n mm c : Nat) (xss : List (List Int)) (B : Option Addr) (m d : Nat) (ls : List Int) (A2 : Option Addr) (l cap : Nat) (set : List Int) (x v : Int) (w : World) (hg : GoodL n mm xss ls) (hb : LBox w p (n : Int) A mm c B m d) (h : RowsAt w A mm xss) (g : NumsAt w B m ls)
    (hs : NumsAt w A2 l set) (hl : l ≤ 10) (hset : ∀ y ∈ set, 0 ≤ y ∧ y < (n : Int)) (hx : 0 ≤ x ∧ x < (mm : Int)) :
    Calls Try.prog 58 #[.pointer (some ⟨p, 0, none⟩), .slice A2 l cap, .int .i64 x, .int .i64 v] w fun e w' => ∃ u, e = .returned u ∧ w'.ownsRow w.heap.size 2 1 u (withL ls v (imageL xss set [x])).length ((withL ls v (imageL xss set [x])).map (Value.int .i64)) ∧ Below w.heap.size w w' := by
  have HG := Lib.hid hg
  have HSET := Lib.hid hset
  have HXX := Lib.hid hx
  have HLB := Lib.hid hb
  have hmn : m = n := by rw [← g.1]; exact hg.len
  subst hmn
  clear hg hset hx hb
  go_enter Try.func58, Try.ntmps58
  go_wp2_with fail
  have b0 : Below w.heap.size w (w.alloc (.cells #[.int .i64 x] 2)) := (Below.refl _ _).alloc (Nat.le_refl _) _
  have B0 := Lib.hid b0
  refine (l01Image_any p A (some ⟨w.heap.size, 0, none⟩) A2 m mm c 1 1 l cap xss set [x] _ HG.out.good ((HLB.out.below b0) 1 _ rfl) (h.below b0) (hs.below b0) (nums_one _ _ _) (fun y hy => by rw [List.mem_singleton.1 hy]; exact HXX.out) HSET.out (by decide) (by omega)).mono ?_
  rintro e w1 ⟨u, rfl, o1, b1⟩
  obtain ⟨L, hL⟩ : ∃ L, L = imageL xss set [x] := ⟨_, rfl⟩
  rw [← hL] at o1
  have HLL := Lib.hid hL
  have hLm : ∀ y ∈ L, 0 ≤ y ∧ y < (m : Int) := by
    rw [hL]
    intro y hy
    have hw : ∀ z ∈ [x], 0 ≤ z ∧ z < (mm : Int) := fun z hz => by rw [List.mem_singleton.1 hz]; exact HXX.out
    exact imageL_mem HG.out.good hw HSET.out y hy
  have hLl : L.length ≤ 10 := by rw [hL]; exact setL_len _ _
  have HLM := Lib.hid hLm
  obtain ⟨A3, c3, rfl⟩ := own_form o1
  have B1 := Lib.hid (below_then b0 b1)
  have N1 := Lib.hid (NumsAt.own o1 rfl rfl)
  clear b0 b1 o1 hL hLm
  go_wp2_with fail
  refine (l08With_any p (m : Int) A mm c B m d ls A3 L.length c3 L v _ (HLB.out.below B1.out) (g.below B1.out) N1.out hLl HLM.out).mono ?_
  rintro e w2 ⟨u, rfl, o2, b2⟩
  have O2 := Lib.hid (own_base o2 B1.out.size)
  have B2 := Lib.hid (below_then B1.out b2)
  clear o2 b2
  go_wp2_with fail
  go_ret
  rw [← HLL.out]
  exact ⟨_, rfl, O2.out, B2.out⟩

end Go.Proofs.Ytdelanjkaokiaaa
