/-
  Where the letters lead from one state: the contracts of l05Letters and leadsFrom.
-/
import Derived.Test.YtkhhemlfahdbnabKeeps
namespace Go.Proofs.Ytkhhemlfahdbnab
open Go.RowKit Go.Deep Go.ChangeShapes Go.WideShapes

def leadF (xss : List (List Int)) (m k : Nat) : List Int := (List.range m).map fun x => ((nx xss x k : Nat) : Int)
theorem leadF_len (xss : List (List Int)) (m k : Nat) : (leadF xss m k).length = m := by simp [leadF]
theorem leadF_succ (xss : List (List Int)) (m k : Nat) : leadF xss (m + 1) k = leadF xss m k ++ [((nx xss m k : Nat) : Int)] := by simp [leadF, List.range_succ]
theorem leadF_0 (xss : List (List Int)) (k : Nat) : leadF xss 0 k = [] := by simp [leadF]

set_option maxRecDepth 100000 in
set_option maxHeartbeats 2000000 in
theorem l05Letters_any (p : Nat) (A : Option Addr) (n m cap k : Nat) (xss : List (List Int)) (w : World) (c1 : w.cell? ⟨p, 1, none⟩ = some (.slice A m cap)) (hg : Good n m xss) (h : RowsAt w A m xss) (hk : k < n) :
    Calls Try.prog 84 #[.pointer (some ⟨p, 0, none⟩), .int .i64 (k : Int)] w fun e w' => ∃ u, e = .returned u ∧ w'.ownsRow w.heap.size 2 1 u m ((leadF xss m k).map (Value.int .i64)) ∧ Below w.heap.size w w' := by
  obtain ⟨i0, hi, hz0, hz1, hz2⟩ := info_parts info_int64
  have HG := Lib.hid hg
  have HR := Lib.hid h
  have hm3 : m ≤ 3 := hg.m3
  have hn10 : n ≤ 10 := hg.n10
  have C1 := Lib.hid c1
  clear hg h c1
  go_enter Try.func84, Try.ntmps84
  go_wp2_with fail
  go_loopw [5, 6] (fun v i wr => ∃ (x : Nat) (L : List Int), x ≤ m ∧ i = .int .i64 x ∧ L = leadF xss x k ∧ wr.ownsRow w.heap.size 2 1 v L.length (L.map (Value.int .i64)) ∧ Below w.heap.size w wr) (fun _ i _ => m - (intOf i).toNat)
  case atStart =>
    exact ⟨0, [], Nat.zero_le _, rfl, (leadF_0 _ _).symm, World.ownsRow_lit (e := 2) w #[] 0 (Nat.le_refl _) (Nat.zero_le _) rfl, (Below.refl _ _).alloc (Nat.le_refl _) _⟩
  case round =>
    obtain ⟨x, L, hx, rfl, hL, hown, hbel⟩ := hrel
    obtain ⟨A3, c3, rfl⟩ := own_form hown
    have hlen : L.length = x := by rw [hL, leadF_len]
    have HO := Lib.hid hown
    have HB := Lib.hid hbel
    have HL := Lib.hid hL
    have HLN := Lib.hid hlen
    have d1 := (hbel.cell (cell_lt C1.out)).trans C1.out
    clear hown hL
    by_cases hlt : x < m
    · obtain ⟨b, off, b2, off2, c, rfl, hcr, hcells⟩ := row_base HG.out (HR.out.below hbel) hlt
      have hcq := hcells k hk
      have i1 : (0 : Int) ≤ (x : Int) := by omega
      have i2 : (x : Int) < (m : Int) := by omega
      have i3 : (k : Int) < (n : Int) := by omega
      have i4 : (0 : Int) ≤ (k : Int) := by omega
      obtain ⟨z, hz⟩ : ∃ z : Int, z = ((nx xss x k : Nat) : Int) := ⟨_, rfl⟩
      rw [← hz] at hcq
      have HZ := Lib.hid hz
      have hll : L.length ≤ 3 := by omega
      clear hz hbel hcells hlen
      go_wp2_with (at_builtin; refine wpList_append_own _ rfl _ _ 64 rfl (w.heap.size) 2 i0 (.int .i64 0) 1 8 Try.underlying64 hi hz0 hz1 hz2 rfl (by decide) _ _ _ rfl (World.ownsRow.alloc (HO.out) _) ⟨(wr).heap.size, 0, none⟩ 1 1 [.int .i64 z] rfl rfl (cell_one_new _ _ _) (ones_i64 [z]) (by unfold maxLen; omega) (by omega) (by rw [World.size_alloc]; exact Nat.le_succ_of_le (HB.out.size)) ?_)
      intro v' w2 hown' hgrow _
      have HO1 := Lib.hid hown'
      have HG1 := Lib.hid hgrow
      clear hown' hgrow hcq hcr
      go_wp2_with fail
      go_roundw
      case rel =>
        refine ⟨x + 1, L ++ [z], by omega, by go_num, by rw [leadF_succ, ← HL.out, HZ.out], by rw [List.length_append, List.map_append]; exact HO1.out, ?_⟩
        exact (HB.out.alloc HB.out.size _).grown HG1.out (by rw [World.size_alloc]; exact Nat.le_succ_of_le HB.out.size) (fun j hj => (HO.out.lt j hj).1)
      case measure => simp [intOf]; omega
    · clear hbel
      go_wp2_with fail
      go_ret
      have hkn : x = m := by omega
      subst hkn
      have ho := HO.out
      have hl := HLN.out
      refine ⟨.slice A3 L.length c3, rfl, ?_, HB.out⟩
      rw [← HL.out]
      rw [hl] at ho ⊢
      exact ho

set_option maxRecDepth 100000 in
set_option maxHeartbeats 2000000 in
theorem leadsFrom_any (s : Int) (A : Option Addr) (n m cap k : Nat) (xss : List (List Int)) (w : World) (hg : Good n m xss) (h : RowsAt w A m xss) (hk : k < n) :
    Calls Try.prog 87 #[.agg #[.int .i64 s, .slice A m cap], .int .i64 (k : Int)] w fun e w' => ∃ u, e = .returned u ∧ w'.ownsRow w.heap.size 2 1 u m ((leadF xss m k).map (Value.int .i64)) ∧ Below w.heap.size w w' := by
  obtain ⟨i0, hi, hz0, hz1, hz2⟩ := info_parts info_int64
  have HG := Lib.hid hg
  have HR := Lib.hid h
  have hm3 : m ≤ 3 := hg.m3
  have hn10 : n ≤ 10 := hg.n10
  clear hg h
  go_enter Try.func87, Try.ntmps87
  go_wp2_with fail
  obtain ⟨w0, hw0⟩ : ∃ w0, w0 = w.alloc (.cells #[.int .i64 s, .slice A m cap] 33) := ⟨_, rfl⟩
  rw [← hw0]
  have b0 : Below w.heap.size w w0 := by rw [hw0]; exact (Below.refl _ _).alloc (Nat.le_refl _) _
  have B0 := Lib.hid b0
  clear hw0 b0
  go_loopw [5, 11] (fun v i wr => ∃ (x : Nat) (L : List Int), x ≤ m ∧ i = .int .i64 x ∧ L = leadF xss x k ∧ wr.ownsRow w.heap.size 2 1 v L.length (L.map (Value.int .i64)) ∧ Below w.heap.size w wr) (fun _ i _ => m - (intOf i).toNat)
  case atStart =>
    exact ⟨0, [], Nat.zero_le _, rfl, (leadF_0 _ _).symm, World.ownsRow_nil _ _ _ _, B0.out⟩
  case round =>
    obtain ⟨x, L, hx, rfl, hL, hown, hbel⟩ := hrel
    obtain ⟨A3, c3, rfl⟩ := own_form hown
    have hlen : L.length = x := by rw [hL, leadF_len]
    have HO := Lib.hid hown
    have HB := Lib.hid hbel
    have HL := Lib.hid hL
    have HLN := Lib.hid hlen
    clear hown hL
    by_cases hlt : x < m
    · obtain ⟨b, off, b2, off2, c, rfl, hcr, hcells⟩ := row_base HG.out (HR.out.below hbel) hlt
      have hcq := hcells k hk
      have i1 : (0 : Int) ≤ (x : Int) := by omega
      have i2 : (x : Int) < (m : Int) := by omega
      have i3 : (k : Int) < (n : Int) := by omega
      have i4 : (0 : Int) ≤ (k : Int) := by omega
      obtain ⟨z, hz⟩ : ∃ z : Int, z = ((nx xss x k : Nat) : Int) := ⟨_, rfl⟩
      rw [← hz] at hcq
      have HZ := Lib.hid hz
      have hll : L.length ≤ 3 := by omega
      clear hz hbel hcells hlen
      go_wp2_with (at_builtin; refine wpList_append_own _ rfl _ _ 64 rfl (w.heap.size) 2 i0 (.int .i64 0) 1 8 Try.underlying64 hi hz0 hz1 hz2 rfl (by decide) _ _ _ rfl (World.ownsRow.alloc (HO.out) _) ⟨(wr).heap.size, 0, none⟩ 1 1 [.int .i64 z] rfl rfl (cell_one_new _ _ _) (ones_i64 [z]) (by unfold maxLen; omega) (by omega) (by rw [World.size_alloc]; exact Nat.le_succ_of_le (HB.out.size)) ?_)
      intro v' w2 hown' hgrow _
      have HO1 := Lib.hid hown'
      have HG1 := Lib.hid hgrow
      clear hown' hgrow hcq hcr
      go_wp2_with fail
      go_roundw
      case rel =>
        refine ⟨x + 1, L ++ [z], by omega, by go_num, by rw [leadF_succ, ← HL.out, HZ.out], by rw [List.length_append, List.map_append]; exact HO1.out, ?_⟩
        exact (HB.out.alloc HB.out.size _).grown HG1.out (by rw [World.size_alloc]; exact Nat.le_succ_of_le HB.out.size) (fun j hj => (HO.out.lt j hj).1)
      case measure => simp [intOf]; omega
    · clear hbel
      go_wp2_with fail
      go_ret
      have hkn : x = m := by omega
      subst hkn
      have ho := HO.out
      have hl := HLN.out
      refine ⟨.slice A3 L.length c3, rfl, ?_, HB.out⟩
      rw [← HL.out]
      rw [hl] at ho ⊢
      exact ho

end Go.Proofs.Ytkhhemlfahdbnab
