/-
  The classes to which the roads of a town lead: the contracts of classesOf and l05Led.
-/
import Derived.Test.YtkbnbcecphmihaaSort
import Derived.Test.YtkbnbcecphmihaaCong
namespace Go.Proofs.Ytkbnbcecphmihaa
open Go.RowKit Go.Deep Go.ChangeShapes Go.WideShapes

def ledI (cls row : List Int) : List Int := row.map fun t => cls.getD t.toNat 0
def ledF (cls row : List Int) : List Int := sortF (ledI cls row)
theorem ledI_len (cls row : List Int) : (ledI cls row).length = row.length := by simp [ledI]
theorem ledF_len (cls row : List Int) : (ledF cls row).length = row.length := by unfold ledF; rw [sortF_len, ledI_len]
theorem ledI_snoc {cls row : List Int} {k q : Nat} {z : Int} (hx : row[k]? = some ((q : Nat) : Int)) (hz : cls[q]? = some z) : ledI cls (row.take (k + 1)) = ledI cls (row.take k) ++ [z] := by
  unfold ledI
  rw [take_snoc hx, List.map_append]
  simp [List.getD_eq_getElem?_getD, hz]

set_option maxRecDepth 100000 in
set_option maxHeartbeats 2000000 in
theorem classesOf_any (A A2 : Option Addr) (m c n c2 : Nat) (row cls : List Int) (w : World) (h : NumsAt w A m row) (h2 : NumsAt w A2 n cls) (hm1 : 0 < m) (hm : m ≤ 12) (hb : ∀ x ∈ row, 0 ≤ x ∧ x < (n : Int)) :
    Calls Try.prog 98 #[.slice A m c, .slice A2 n c2] w fun e w' => ∃ u, e = .returned u ∧ w'.ownsRow w.heap.size 2 1 u m ((ledF cls row).map (Value.int .i64)) ∧ Below w.heap.size w w' := by
  obtain ⟨i0, hi, hz0, hz1, hz2⟩ := info_parts info_int64
  have HL := Lib.hid h.1
  have HH := Lib.hid h
  have HH2 := Lib.hid h2
  have HBD := Lib.hid hb
  clear h h2 hb
  go_enter Try.func98, Try.ntmps98
  go_wp2_with fail
  go_loopw [5, 10] (fun v i wr => ∃ (k : Nat) (L : List Int), k ≤ m ∧ i = .int .i64 k ∧ L = ledI cls (row.take k) ∧ wr.ownsRow w.heap.size 2 1 v L.length (L.map (Value.int .i64)) ∧ Below w.heap.size w wr) (fun _ i _ => m - (intOf i).toNat)
  case atStart => exact ⟨0, [], Nat.zero_le _, rfl, by simp [ledI], World.ownsRow_nil _ _ _ _, Below.refl _ _⟩
  case round =>
    obtain ⟨k, L, hk, rfl, hL, hown, hbel⟩ := hrel
    obtain ⟨A3, c3, rfl⟩ := own_form hown
    have hlen : L.length = k := by rw [hL, ledI_len, List.length_take, HL.out]; omega
    have HO := Lib.hid hown
    have HB := Lib.hid hbel
    have HLL := Lib.hid hL
    have HLN := Lib.hid hlen
    clear hown hL
    by_cases hlt : k < m
    · obtain ⟨x, b, off, hx, rfl, hcx⟩ := (HH.out.below hbel).at_ hlt
      have hxb := HBD.out x (List.mem_of_getElem? hx)
      obtain ⟨q, rfl⟩ : ∃ q : Nat, x = (q : Int) := ⟨x.toNat, by omega⟩
      obtain ⟨z, b2, off2, hz, rfl, hcz⟩ := (HH2.out.below hbel).at_ (k := q) (by omega)
      have HSN := Lib.hid (ledI_snoc hx hz)
      have i1 : (0 : Int) ≤ (k : Int) := by omega
      have i2 : (k : Int) < (m : Int) := by omega
      have i3 : (0 : Int) ≤ (q : Int) := by omega
      have i4 : (q : Int) < (n : Int) := by omega
      have hll : L.length ≤ 12 := by omega
      clear hx hz hbel hlen hxb
      go_wp2_with (at_builtin; refine wpList_append_own _ rfl _ _ 55 rfl (w.heap.size) 2 i0 (.int .i64 0) 1 8 Try.underlying55 hi hz0 hz1 hz2 rfl (by decide) _ _ _ rfl (World.ownsRow.alloc (HO.out) _) ⟨(wr).heap.size, 0, none⟩ 1 1 [.int .i64 z] rfl rfl (cell_one_new _ _ _) (ones_i64 [z]) (by unfold maxLen; omega) (by omega) (by rw [World.size_alloc]; exact Nat.le_succ_of_le (HB.out.size)) ?_)
      intro v' w2 hown' hgrow _
      have HO1 := Lib.hid hown'
      have HG1 := Lib.hid hgrow
      clear hown' hgrow hcx hcz
      go_wp2_with fail
      go_roundw
      case rel =>
        refine ⟨k + 1, L ++ [z], by omega, by go_num, by rw [HSN.out, ← HLL.out], by rw [List.length_append, List.map_append]; exact HO1.out, ?_⟩
        exact (HB.out.alloc HB.out.size _).grown HG1.out (by rw [World.size_alloc]; exact Nat.le_succ_of_le HB.out.size) (fun j hj => (HO.out.lt j hj).1)
      case measure => simp [intOf]; omega
    · have hkm : k = m := by omega
      have hLr : L = ledI cls row := by rw [HLL.out, hkm, List.take_of_length_le (by rw [HL.out]; exact Nat.le_refl _)]
      have ho := HO.out
      rw [HLN.out, hkm] at ho ⊢
      obtain ⟨g, rfl, hg1, hg2⟩ := own_blockN ho hm1
      have HO2 := Lib.hid ho
      have HLR := Lib.hid hLr
      have HG1 := Lib.hid hg1
      have HKM := Lib.hid hkm
      clear ho hkm hLr hbel hlen hg2
      go_wp2_with fail
      refine (sort_any w.heap.size g m c3 L wr HO2.out (by rw [HLN.out]; exact HKM.out) hm).mono ?_
      rintro e w1 ⟨rfl, o1, u1, z1⟩
      have O1 := Lib.hid o1
      have B1 := Lib.hid (Only.below HB.out u1 HG1.out HB.out.size)
      clear o1 u1 z1
      go_wp2_with fail
      go_ret
      refine ⟨_, rfl, ?_, B1.out⟩
      unfold ledF
      rw [← HLR.out]
      exact O1.out

set_option maxRecDepth 100000 in
set_option maxHeartbeats 2000000 in
theorem l05Led_any (p : Nat) (A A2 : Option Addr) (N m cap n c2 k0 : Nat) (xss : List (List Int)) (row cls : List Int) (w : World) (c1 : w.cell? ⟨p, 1, none⟩ = some (.slice A N cap)) (h : RowsAt w A N xss) (hr : xss[k0]? = some row) (hrl : row.length = m) (h2 : NumsAt w A2 n cls) (hm1 : 0 < m) (hm : m ≤ 12) (hb : ∀ x ∈ row, 0 ≤ x ∧ x < (n : Int)) :
    Calls Try.prog 94 #[.pointer (some ⟨p, 0, none⟩), .slice A2 n c2, .int .i64 (k0 : Int)] w fun e w' => ∃ u, e = .returned u ∧ w'.ownsRow w.heap.size 2 1 u m ((ledF cls row).map (Value.int .i64)) ∧ Below w.heap.size w w' := by
  obtain ⟨i0, hi, hz0, hz1, hz2⟩ := info_parts info_int64
  have hk0N : k0 < N := by
    rcases Nat.lt_or_ge k0 N with a | a
    · exact a
    · rw [List.getElem?_eq_none (by rw [h.1]; exact a)] at hr; cases hr
  obtain ⟨row', b, off, A7, c7, hr', rfl, hcr, hnum⟩ := h.at_ hk0N
  rw [hr] at hr'
  obtain rfl := Option.some.inj hr'
  rw [hrl] at hcr hnum
  have HL := Lib.hid hnum.1
  have HH := Lib.hid hnum
  have HH2 := Lib.hid h2
  have HBD := Lib.hid hb
  have HCR := Lib.hid hcr
  have C1 := Lib.hid c1
  have ik0 : (0 : Int) ≤ (k0 : Int) := by omega
  have ikN : (k0 : Int) < (N : Int) := by omega
  clear h h2 hb hr hr' hcr hnum c1
  go_enter Try.func94, Try.ntmps94
  go_wp2_with fail
  go_loopw [7, 8] (fun v i wr => ∃ (k : Nat) (L : List Int), k ≤ m ∧ i = .int .i64 k ∧ L = ledI cls (row.take k) ∧ wr.ownsRow w.heap.size 2 1 v L.length (L.map (Value.int .i64)) ∧ Below w.heap.size w wr) (fun _ i _ => m - (intOf i).toNat)
  case atStart => exact ⟨0, [], Nat.zero_le _, rfl, by simp [ledI], World.ownsRow_lit (e := 2) w #[] 0 (Nat.le_refl _) (Nat.zero_le _) rfl, (Below.refl _ _).alloc (Nat.le_refl _) _⟩
  case round =>
    obtain ⟨k, L, hk, rfl, hL, hown, hbel⟩ := hrel
    obtain ⟨A3, c3, rfl⟩ := own_form hown
    have hlen : L.length = k := by rw [hL, ledI_len, List.length_take, HL.out]; omega
    have HO := Lib.hid hown
    have HB := Lib.hid hbel
    have HLL := Lib.hid hL
    have HLN := Lib.hid hlen
    have d1 := (hbel.cell (cell_lt C1.out)).trans C1.out
    have d2 := (hbel.cell (cell_lt HCR.out)).trans HCR.out
    clear hown hL
    by_cases hlt : k < m
    · obtain ⟨x, b1, off1, hx, rfl, hcx⟩ := (HH.out.below hbel).at_ hlt
      have hxb := HBD.out x (List.mem_of_getElem? hx)
      obtain ⟨q, rfl⟩ : ∃ q : Nat, x = (q : Int) := ⟨x.toNat, by omega⟩
      obtain ⟨z, b2, off2, hz, rfl, hcz⟩ := (HH2.out.below hbel).at_ (k := q) (by omega)
      have HSN := Lib.hid (ledI_snoc hx hz)
      have i1 : (0 : Int) ≤ (k : Int) := by omega
      have i2 : (k : Int) < (m : Int) := by omega
      have i3 : (0 : Int) ≤ (q : Int) := by omega
      have i4 : (q : Int) < (n : Int) := by omega
      have hll : L.length ≤ 12 := by omega
      clear hx hz hbel hlen hxb
      go_wp2_with (at_builtin; refine wpList_append_own _ rfl _ _ 55 rfl (w.heap.size) 2 i0 (.int .i64 0) 1 8 Try.underlying55 hi hz0 hz1 hz2 rfl (by decide) _ _ _ rfl (World.ownsRow.alloc (HO.out) _) ⟨(wr).heap.size, 0, none⟩ 1 1 [.int .i64 z] rfl rfl (cell_one_new _ _ _) (ones_i64 [z]) (by unfold maxLen; omega) (by omega) (by rw [World.size_alloc]; exact Nat.le_succ_of_le (HB.out.size)) ?_)
      intro v' w2 hown' hgrow _
      have HO1 := Lib.hid hown'
      have HG1 := Lib.hid hgrow
      clear hown' hgrow hcx hcz d1 d2
      go_wp2_with fail
      go_roundw
      case rel =>
        refine ⟨k + 1, L ++ [z], by omega, by go_num, by rw [HSN.out, ← HLL.out], by rw [List.length_append, List.map_append]; exact HO1.out, ?_⟩
        exact (HB.out.alloc HB.out.size _).grown HG1.out (by rw [World.size_alloc]; exact Nat.le_succ_of_le HB.out.size) (fun j hj => (HO.out.lt j hj).1)
      case measure => simp [intOf]; omega
    · have hkm : k = m := by omega
      have hLr : L = ledI cls row := by rw [HLL.out, hkm, List.take_of_length_le (by rw [HL.out]; exact Nat.le_refl _)]
      have HLR := Lib.hid hLr
      have HKM := Lib.hid hkm
      clear hkm hLr hbel hlen
      go_wp2_with fail
      refine (l05Sorted_any A3 L.length c3 L wr (NumsAt.own HO.out rfl rfl) (by rw [HLN.out, HKM.out]; exact hm1) (by rw [HLN.out]; omega)).mono ?_
      rintro e w1 ⟨u, rfl, o1, b1⟩
      have O1 := Lib.hid o1
      have B1 := Lib.hid b1
      clear o1 b1
      go_wp2_with fail
      go_ret
      refine ⟨_, rfl, ?_, below_then HB.out B1.out⟩
      unfold ledF
      have ho := O1.out
      rw [HLN.out, HKM.out, HLR.out] at ho
      exact own_base ho HB.out.size

end Go.Proofs.Ytkbnbcecphmihaa
