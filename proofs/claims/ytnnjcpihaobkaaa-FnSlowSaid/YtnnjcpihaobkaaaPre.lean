/-
  PreimageOf: the contracts of set and of both PreimageOf.
-/
import Derived.Test.YtnnjcpihaobkaaaMarks
namespace Go.Proofs.Ytnnjcpihaobkaaa
open Go.RowKit Go.Deep Go.ChangeShapes Go.WideShapes

/-- The marked states below k. -/
def setL (f : Nat → Bool) (k : Nat) : List Int := ((List.range k).filter f).map fun q => ((q : Nat) : Int)
theorem setL_t {f : Nat → Bool} {k : Nat} (h : f k = true) : setL f (k + 1) = setL f k ++ [(k : Int)] := by
  simp [setL, List.range_succ, List.filter_append, h]
theorem setL_f {f : Nat → Bool} {k : Nat} (h : f k = false) : setL f (k + 1) = setL f k := by
  simp [setL, List.range_succ, List.filter_append, h]
theorem setL_len (f : Nat → Bool) (k : Nat) : (setL f k).length ≤ k := by
  rw [setL, List.length_map]
  exact Nat.le_trans (List.length_filter_le _ _) (by simp)

theorem run_index_marks (M : Array Value) (k : Nat) (b : Bool) (w : World) (hk : k < 10) (hM : M[k]? = some (.bool b)) :
    Sem.run Try.prog (Instr.index 94 (.agg M) (.int .i64 (k : Int))) w = .ok (.bool b) w := by
  have hu : Try.prog.underlying 94 = some (.array 10 4) := Try.underlying94
  have h1 : (0 : Int) ≤ (k : Int) := by omega
  simp [Instr.index, run_underlying hu, asIntOf, h1, hk, hM, go_sem]

set_option maxRecDepth 100000 in
set_option maxHeartbeats 2000000 in
theorem marksSet_any (f : Nat → Bool) (w : World) :
    Calls Try.prog 67 #[.agg (marr f)] w fun e w' => ∃ v, e = .returned v ∧ w'.ownsRow w.heap.size 2 1 v (setL f 10).length ((setL f 10).map (Value.int .i64)) ∧ Below w.heap.size w w' := by
  obtain ⟨i0, hi, hz0, hz1, hz2⟩ := info_parts info_int64
  obtain ⟨M, hM⟩ : ∃ M, M = marr f := ⟨_, rfl⟩
  have ms : M.size = 10 := by rw [hM]; rfl
  have mk : ∀ k, k < 10 → M[k]? = some (.bool (f k)) := fun k hk => by rw [hM]; exact marr_at f hk
  have MS := Lib.hid ms
  have MK := Lib.hid mk
  have hb := heap_alloc_new w (.cells M 94)
  have HB0 := Lib.hid hb
  rw [← hM]
  clear hM ms mk hb
  go_enter Try.func67, Try.ntmps67
  go_wp2_with (refine wpList_load_row rfl 94 _ rfl w.heap.size rfl 94 M (0, 0) _ HB0.out Try.underlying94 rfl (by rw [MS.out]; exact size_marks) ?_)
  go_loopw [3, 7] (fun v i wr => ∃ (k : Nat) (L : List Int), k ≤ 10 ∧ i = .int .i64 k ∧ L = setL f k ∧ wr.ownsRow w.heap.size 2 1 v L.length (L.map (Value.int .i64)) ∧ Below w.heap.size w wr) (fun _ i _ => 10 - (intOf i).toNat)
  case atStart => exact ⟨0, [], Nat.zero_le _, rfl, rfl, World.ownsRow_nil _ _ _ _, (Below.refl _ _).alloc (Nat.le_refl _) _⟩
  case round =>
    obtain ⟨k, L, hk, rfl, hL, hown, hbel⟩ := hrel
    obtain ⟨A3, c3, rfl⟩ := own_form hown
    have hlen : L.length ≤ k := by rw [hL]; exact setL_len f k
    have HO := Lib.hid hown
    have HB := Lib.hid hbel
    have HL := Lib.hid hL
    clear hown hbel hL
    by_cases hlt : k < 10
    · have hmk := MK.out k hlt
      have i1 : (0 : Int) ≤ (k : Int) := by omega
      have i2 : (k : Int) < 10 := by omega
      rcases hf : f k with _ | _
      · rw [hf] at hmk
        have hix := fun (w : World) => run_index_marks M k false w hlt hmk
        have HF := Lib.hid hf
        clear hmk
        go_wp2_with fail
        go_roundw
        case rel => exact ⟨k + 1, L, by omega, by go_num, by rw [setL_f HF.out]; exact HL.out, HO.out, HB.out⟩
        case measure => simp [intOf]; omega
      · rw [hf] at hmk
        have hix := fun (w : World) => run_index_marks M k true w hlt hmk
        have HF := Lib.hid hf
        clear hmk
        go_wp2_with (at_builtin; refine wpList_append_own _ rfl _ _ 30 rfl w.heap.size 2 i0 (.int .i64 0) 1 8 Try.underlying30 hi hz0 hz1 hz2 rfl (by decide) _ _ _ rfl (HO.out.alloc _) ⟨wr.heap.size, 0, none⟩ 1 1 [.int .i64 (k : Int)] rfl rfl (cell_one_new _ _ _) (ones_i64 [(k : Int)]) (by unfold maxLen; omega) (by omega) (by rw [World.size_alloc]; exact Nat.le_succ_of_le HB.out.size) ?_)
        intro v' w2 hown' hgrow _
        have HO1 := Lib.hid hown'
        have HG1 := Lib.hid hgrow
        clear hown' hgrow
        go_wp2_with fail
        go_roundw
        case rel =>
          refine ⟨k + 1, L ++ [(k : Int)], by omega, by go_num, by rw [setL_t HF.out, ← HL.out], by rw [List.length_append, List.map_append]; exact HO1.out, ?_⟩
          exact (HB.out.alloc HB.out.size _).grown HG1.out (by rw [World.size_alloc]; exact Nat.le_succ_of_le HB.out.size) (fun j hj => (HO.out.lt j hj).1)
        case measure => simp [intOf]; omega
    · go_wp2
      go_ret
      have hkn : k = 10 := by omega
      subst hkn
      rw [← HL.out]
      exact ⟨_, rfl, HO.out, HB.out⟩

/-- What PreimageOf answers. -/
def preimageOf (s : Int) (xss : List (List Int)) (set ws : List Int) : List Int × Int :=
  if codeB s xss set ws = 0 then (backL xss set ws s.toNat, 0) else ([], codeB s xss set ws)
theorem preimageOf_no {s : Int} {xss : List (List Int)} {set ws : List Int} {c : Int} (h : codeB s xss set ws = c) (hc : ¬ c = 0) : preimageOf s xss set ws = ([], c) := by
  unfold preimageOf; rw [h, if_neg hc]
theorem preimageOf_0 {s : Int} {xss : List (List Int)} {set ws : List Int} (h : codeB s xss set ws = 0) : preimageOf s xss set ws = (backL xss set ws s.toNat, 0) := by
  unfold preimageOf; rw [if_pos h]
theorem code_parts {s : Int} {xss : List (List Int)} {set ws : List Int} (h : codeB s xss set ws = 0) : okA s xss = true ∧ setB s set = true ∧ isWordB (xss.length : Int) ws = true := by
  unfold codeB at h
  split at h
  · rename_i h1
    split at h
    · rename_i h2; exact ⟨h1, h2⟩
    · cases h
  · cases h

end Go.Proofs.Ytnnjcpihaobkaaa
