/-
  A number put to its place: the contracts of l00Put, l01Image and of the model's ImageOf.
-/
import Derived.Test.YtcglncepmieaaaaPreI
namespace Go.Proofs.Ytcglncepmieaaaa
open Go.RowKit Go.Deep Go.ChangeShapes Go.WideShapes

def putStep (v : Int) (r : List Int × Bool) (x : Int) : List Int × Bool :=
  if r.2 = false ∧ v ≤ x then ((if v < x then r.1 ++ [v] else r.1) ++ [x], true) else (r.1 ++ [x], r.2)
def putF (v : Int) (L : List Int) (k : Nat) : List Int × Bool := (L.take k).foldl (putStep v) ([], false)
def putL (v : Int) (L : List Int) : List Int := if (putF v L L.length).2 = true then (putF v L L.length).1 else (putF v L L.length).1 ++ [v]
theorem putF_succ {v x : Int} {L : List Int} {k : Nat} (hx : L[k]? = some x) : putF v L (k + 1) = putStep v (putF v L k) x := by
  unfold putF
  rw [take_snoc hx, List.foldl_append]
  rfl
theorem putStep_done {v x : Int} {O : List Int} : putStep v (O, true) x = (O ++ [x], true) := by simp [putStep]
theorem putStep_low {v x : Int} {O : List Int} (h : ¬ v ≤ x) : putStep v (O, false) x = (O ++ [x], false) := by simp [putStep, h]
theorem putStep_eq {v x : Int} {O : List Int} (h : v ≤ x) (h' : ¬ v < x) : putStep v (O, false) x = (O ++ [x], true) := by simp [putStep, h, h']
theorem putStep_gt {v x : Int} {O : List Int} (h : v < x) : putStep v (O, false) x = (O ++ [v] ++ [x], true) := by
  have : v ≤ x := by omega
  simp [putStep, h, this]

/-! ### Putting a state among the marked ones marks it -/
theorem setL_below {f : Nat → Bool} {v : Nat} : ∀ k, k ≤ v → setL (upd f v true) k = setL f k
  | 0, _ => rfl
  | k + 1, h => by
    have e : upd f v true k = f k := by unfold upd; rw [if_neg (by omega)]
    have ih := setL_below (f := f) (v := v) k (by omega)
    rcases hf : f k with _ | _
    · rw [setL_f (e.trans hf), setL_f hf, ih]
    · rw [setL_t (e.trans hf), setL_t hf, ih]
theorem setL_gap {f : Nat → Bool} {v : Nat} : ∀ k, v < k → (∀ q, v ≤ q → q < k → f q = false) → setL (upd f v true) k = setL f k ++ [(v : Int)]
  | 0, h, _ => by omega
  | k + 1, h, hf => by
    have hk := hf k (by omega) (by omega)
    rw [setL_f hk]
    rcases Nat.eq_or_lt_of_le (show v ≤ k by omega) with e | hlt
    · subst e
      rw [setL_t (show upd f v true v = true by simp [upd]), setL_below v (Nat.le_refl v)]
    · rw [setL_f (show upd f v true k = false by unfold upd; rw [if_neg (by omega)]; exact hk)]
      exact setL_gap k hlt fun q h1 h2 => hf q h1 (by omega)
theorem fold_setL {f : Nat → Bool} {v : Nat} : ∀ k,
    ((∃ q, q < k ∧ v ≤ q ∧ f q = true) → (setL f k).foldl (putStep (v : Int)) ([], false) = (setL (upd f v true) k, true)) ∧
    ((∀ q, v ≤ q → q < k → f q = false) → (setL f k).foldl (putStep (v : Int)) ([], false) = (setL f k, false))
  | 0 => ⟨fun ⟨q, h, _⟩ => by omega, fun _ => rfl⟩
  | k + 1 => by
    obtain ⟨i1, i2⟩ := fold_setL (f := f) (v := v) k
    rcases hf : f k with _ | _
    · rw [setL_f hf]
      refine ⟨fun ⟨q, h1, h2, h3⟩ => ?_, fun h => ?_⟩
      · have hq : q ≠ k := fun e => by rw [e, hf] at h3; cases h3
        have hk : upd f v true k = false := by unfold upd; rw [if_neg (by omega)]; exact hf
        rw [setL_f hk]
        exact i1 ⟨q, by omega, h2, h3⟩
      · exact i2 fun q h1 h2 => h q h1 (by omega)
    · rw [setL_t hf, List.foldl_append]
      refine ⟨fun ⟨q, h1, h2, h3⟩ => ?_, fun h => ?_⟩
      · have hk : upd f v true k = true := by unfold upd; split <;> simp_all
        rw [setL_t hk]
        by_cases hd : ∃ q, q < k ∧ v ≤ q ∧ f q = true
        · rw [i1 hd]
          simp only [List.foldl_cons, List.foldl_nil, putStep_done]
        · have hno : ∀ q, v ≤ q → q < k → f q = false := fun q a b => by
            rcases hq : f q with _ | _
            · rfl
            · exact absurd ⟨q, b, a, hq⟩ hd
          have hqk : q = k := by
            rcases Nat.lt_or_ge q k with a | a
            · rw [hno q h2 a] at h3; cases h3
            · omega
          subst hqk
          rw [i2 hno]
          simp only [List.foldl_cons, List.foldl_nil]
          rcases Nat.eq_or_lt_of_le h2 with e | hlt
          · subst e
            rw [putStep_eq (by omega) (by omega), setL_below v (Nat.le_refl v)]
          · rw [putStep_gt (by omega), setL_gap q hlt hno]
      · have hk := h k
        have hkv : k < v := by
          rcases Nat.lt_or_ge k v with a | a
          · exact a
          · rw [hk a (by omega)] at hf; cases hf
        rw [i2 fun q a b => h q a (by omega)]
        simp only [List.foldl_cons, List.foldl_nil]
        rw [putStep_low (by omega)]
theorem put_setL {f : Nat → Bool} {v k : Nat} (hv : v < k) : putL (v : Int) (setL f k) = setL (upd f v true) k := by
  obtain ⟨i1, i2⟩ := fold_setL (f := f) (v := v) k
  unfold putL putF
  rw [List.take_length]
  by_cases hd : ∃ q, q < k ∧ v ≤ q ∧ f q = true
  · rw [i1 hd]; simp
  · have hno : ∀ q, v ≤ q → q < k → f q = false := fun q a b => by
      rcases hq : f q with _ | _
      · rfl
      · exact absurd ⟨q, b, a, hq⟩ hd
    rw [i2 hno, setL_gap k hv hno]; simp

set_option maxRecDepth 100000 in
set_option maxHeartbeats 2000000 in
theorem l00Put_any (A : Option Addr) (n cap : Nat) (L : List Int) (v : Int) (w : World) (h : NumsAt w A n L) (hn : n ≤ 100) :
    Calls Try.prog 125 #[.slice A n cap, .int .i64 v] w fun e w' => ∃ a, e = .returned a ∧ w'.ownsRow w.heap.size 2 1 a (putL v L).length ((putL v L).map (Value.int .i64)) ∧ Below w.heap.size w w' := by
  obtain ⟨i0, hi, hz0, hz1, hz2⟩ := info_parts info_int64
  have HL := Lib.hid h.1
  go_enter Try.func125, Try.ntmps125
  go_wp2_with fail
  go_loopw [5, 6, 7] (fun ov dv i wr => ∃ (k : Nat) (O : List Int) (d : Bool), k ≤ n ∧ i = .int .i64 k ∧ dv = .bool d ∧ putF v L k = (O, d) ∧ O.length ≤ 2 * k ∧ wr.ownsRow w.heap.size 2 1 ov O.length (O.map (Value.int .i64)) ∧ Below w.heap.size w wr) (fun _ _ i _ => n - (intOf i).toNat)
  case atStart => exact ⟨0, [], false, Nat.zero_le _, rfl, rfl, rfl, Nat.zero_le _, own_none w _ (Nat.le_refl _), (Below.refl _ _).alloc (Nat.le_refl _) _⟩
  case round =>
    obtain ⟨k, O, d, hk, rfl, rfl, hP, hlen, hown, hbel⟩ := hrel
    obtain ⟨A3, c3, rfl⟩ := own_form hown
    have HO := Lib.hid hown
    have HB := Lib.hid hbel
    have HP := Lib.hid hP
    clear hown hP
    by_cases hlt : k < n
    · obtain ⟨x, b, off, hx, rfl, hc0⟩ := h.at_ hlt
      have hc : wr.cell? ⟨b, off + k, none⟩ = some (.int .i64 x) := (hbel.cell (cell_lt hc0)).trans hc0
      have HX := Lib.hid hx
      have i1 : (0 : Int) ≤ (k : Int) := by omega
      have i2 : (k : Int) < (n : Int) := by omega
      clear hx hbel
      rcases d with _ | _
      · by_cases hle : v ≤ x
        · have hle' : decide (v ≤ x) = true := by rw [decide_eq_true_eq]; exact hle
          by_cases hgt : v < x
          · have hgt' : decide (v < x) = true := by rw [decide_eq_true_eq]; exact hgt
            have HGT := Lib.hid hgt
            clear hle hgt
            go_wp2_with (at_builtin; refine wpList_append_own _ rfl _ _ 35 rfl w.heap.size 2 i0 (.int .i64 0) 1 8 Try.underlying35 hi hz0 hz1 hz2 rfl (by decide) _ _ _ rfl (HO.out.alloc _) ⟨wr.heap.size, 0, none⟩ 1 1 [.int .i64 (v : Int)] rfl rfl (cell_one_new _ _ _) (ones_i64 [(v : Int)]) (by unfold maxLen; omega) (by omega) (by rw [World.size_alloc]; exact Nat.le_succ_of_le HB.out.size) ?_)
            intro v' w2 hown' hgrow _
            obtain ⟨A4, c4, rfl⟩ := own_form hown'
            have hcx : w2.cell? ⟨b, off + k, none⟩ = some (.int .i64 x) := hgrow.cell ((World.cell?_alloc_past _ _ _ (cell_lt hc)).trans hc) (fun hq => by have h1 : w.heap.size ≤ b := (HO.out.lt _ hq.symm).1; have h2 : b < w.heap.size := cell_lt hc0; omega)
            have HO1 := Lib.hid hown'
            have HB1 := Lib.hid ((HB.out.alloc HB.out.size _).grown hgrow (by rw [World.size_alloc]; exact Nat.le_succ_of_le HB.out.size) (fun j hj => (HO.out.lt j hj).1))
            clear hown' hgrow
            go_wp2_with (at_builtin; refine wpList_append_own _ rfl _ _ 35 rfl w.heap.size 2 i0 (.int .i64 0) 1 8 Try.underlying35 hi hz0 hz1 hz2 rfl (by decide) _ _ _ rfl (HO1.out.alloc _) ⟨w2.heap.size, 0, none⟩ 1 1 [.int .i64 (x : Int)] rfl rfl (cell_one_new _ _ _) (ones_i64 [(x : Int)]) (by unfold maxLen; omega) (by omega) (by rw [World.size_alloc]; exact Nat.le_succ_of_le HB1.out.size) ?_)
            intro v2 w3 hown' hgrow _
            have HO2 := Lib.hid hown'
            have HG2 := Lib.hid hgrow
            clear hown' hgrow
            go_wp2_with fail
            go_roundw
            case rel =>
              refine ⟨k + 1, O ++ [v] ++ [x], true, by omega, by go_num, rfl, by rw [putF_succ HX.out, HP.out, putStep_gt (by have := HGT.out; omega)], by rw [List.length_append, List.length_append]; simp; omega, by have := HO2.out; simpa [Nat.add_assoc] using this, ?_⟩
              exact (HB1.out.alloc HB1.out.size _).grown HG2.out (by rw [World.size_alloc]; exact Nat.le_succ_of_le HB1.out.size) (fun j hj => (HO1.out.lt j hj).1)
            case measure => simp [intOf]; omega
          · have hgt' : decide (v < x) = false := by rw [decide_eq_false_iff_not]; exact hgt
            have HGT := Lib.hid hgt
            have HLE := Lib.hid hle
            clear hle hgt
            go_wp2_with (at_builtin; refine wpList_append_own _ rfl _ _ 35 rfl w.heap.size 2 i0 (.int .i64 0) 1 8 Try.underlying35 hi hz0 hz1 hz2 rfl (by decide) _ _ _ rfl (HO.out.alloc _) ⟨wr.heap.size, 0, none⟩ 1 1 [.int .i64 (x : Int)] rfl rfl (cell_one_new _ _ _) (ones_i64 [(x : Int)]) (by unfold maxLen; omega) (by omega) (by rw [World.size_alloc]; exact Nat.le_succ_of_le HB.out.size) ?_)
            intro v' w2 hown' hgrow _
            have HO1 := Lib.hid hown'
            have HG1 := Lib.hid hgrow
            clear hown' hgrow
            go_wp2_with fail
            go_roundw
            case rel =>
              refine ⟨k + 1, O ++ [x], true, by omega, by go_num, rfl, by rw [putF_succ HX.out, HP.out, putStep_eq (by have := HLE.out; omega) (by have := HGT.out; omega)], by rw [List.length_append]; simp; omega, by rw [List.length_append, List.map_append]; exact HO1.out, ?_⟩
              exact (HB.out.alloc HB.out.size _).grown HG1.out (by rw [World.size_alloc]; exact Nat.le_succ_of_le HB.out.size) (fun j hj => (HO.out.lt j hj).1)
            case measure => simp [intOf]; omega
        · have hle' : decide (v ≤ x) = false := by rw [decide_eq_false_iff_not]; exact hle
          have HLE := Lib.hid hle
          clear hle
          go_wp2_with (at_builtin; refine wpList_append_own _ rfl _ _ 35 rfl w.heap.size 2 i0 (.int .i64 0) 1 8 Try.underlying35 hi hz0 hz1 hz2 rfl (by decide) _ _ _ rfl (HO.out.alloc _) ⟨wr.heap.size, 0, none⟩ 1 1 [.int .i64 (x : Int)] rfl rfl (cell_one_new _ _ _) (ones_i64 [(x : Int)]) (by unfold maxLen; omega) (by omega) (by rw [World.size_alloc]; exact Nat.le_succ_of_le HB.out.size) ?_)
          intro v' w2 hown' hgrow _
          have HO1 := Lib.hid hown'
          have HG1 := Lib.hid hgrow
          clear hown' hgrow
          go_wp2_with fail
          go_roundw
          case rel =>
            refine ⟨k + 1, O ++ [x], false, by omega, by go_num, rfl, by rw [putF_succ HX.out, HP.out, putStep_low (by have := HLE.out; omega)], by rw [List.length_append]; simp; omega, by rw [List.length_append, List.map_append]; exact HO1.out, ?_⟩
            exact (HB.out.alloc HB.out.size _).grown HG1.out (by rw [World.size_alloc]; exact Nat.le_succ_of_le HB.out.size) (fun j hj => (HO.out.lt j hj).1)
          case measure => simp [intOf]; omega
      ·
        go_wp2_with (at_builtin; refine wpList_append_own _ rfl _ _ 35 rfl w.heap.size 2 i0 (.int .i64 0) 1 8 Try.underlying35 hi hz0 hz1 hz2 rfl (by decide) _ _ _ rfl (HO.out.alloc _) ⟨wr.heap.size, 0, none⟩ 1 1 [.int .i64 (x : Int)] rfl rfl (cell_one_new _ _ _) (ones_i64 [(x : Int)]) (by unfold maxLen; omega) (by omega) (by rw [World.size_alloc]; exact Nat.le_succ_of_le HB.out.size) ?_)
        intro v' w2 hown' hgrow _
        have HO1 := Lib.hid hown'
        have HG1 := Lib.hid hgrow
        clear hown' hgrow
        go_wp2_with fail
        go_roundw
        case rel =>
          refine ⟨k + 1, O ++ [x], true, by omega, by go_num, rfl, by rw [putF_succ HX.out, HP.out, putStep_done], by rw [List.length_append]; simp; omega, by rw [List.length_append, List.map_append]; exact HO1.out, ?_⟩
          exact (HB.out.alloc HB.out.size _).grown HG1.out (by rw [World.size_alloc]; exact Nat.le_succ_of_le HB.out.size) (fun j hj => (HO.out.lt j hj).1)
        case measure => simp [intOf]; omega
    · have hkn : k = n := by omega
      subst hkn
      rcases d with _ | _
      · have hput : putL v L = O ++ [v] := by unfold putL; rw [HL.out, HP.out]; simp
        have HPUT := Lib.hid hput
        clear hput
        go_wp2_with (at_builtin; refine wpList_append_own _ rfl _ _ 35 rfl w.heap.size 2 i0 (.int .i64 0) 1 8 Try.underlying35 hi hz0 hz1 hz2 rfl (by decide) _ _ _ rfl (HO.out.alloc _) ⟨wr.heap.size, 0, none⟩ 1 1 [.int .i64 (v : Int)] rfl rfl (cell_one_new _ _ _) (ones_i64 [(v : Int)]) (by unfold maxLen; omega) (by omega) (by rw [World.size_alloc]; exact Nat.le_succ_of_le HB.out.size) ?_)
        intro v' w2 hown' hgrow _
        have HO1 := Lib.hid hown'
        have HB1 := Lib.hid ((HB.out.alloc HB.out.size _).grown hgrow (by rw [World.size_alloc]; exact Nat.le_succ_of_le HB.out.size) (fun j hj => (HO.out.lt j hj).1))
        clear hown' hgrow
        go_wp2_with fail
        go_ret
        refine ⟨_, rfl, ?_, HB1.out⟩
        rw [HPUT.out, List.length_append, List.map_append]
        exact HO1.out
      · have hput : putL v L = O := by unfold putL; rw [HL.out, HP.out]; simp
        go_wp2
        go_ret
        refine ⟨_, rfl, ?_, HB.out⟩
        rw [hput]
        exact HO.out

end Go.Proofs.Ytcglncepmieaaaa
