/-
  The texts of words: the contracts of both WordText.
-/
import Derived.Test.YtdhmciendlihoaaDoorBase
import Derived.Laws.BytesArg
import Derived.Maps.AppendAt
namespace Go.Proofs.YtdhmciendlihoaaDoor
open Go.RowKit Go.Deep

def letters (xs : List Int) : List Int := xs.map (97 + ·)
/-- The text of a list of letters, as numbers of bytes. -/
def wtext (xs : List Int) : List Int :=
  if xs.length ≤ 400 ∧ xs.all (belowB 3) = true then (if xs = [] then [45] else letters xs) else []

theorem wtext_long {xs : List Int} (h : ¬ xs.length ≤ 400) : wtext xs = [] := if_neg fun h' => h h'.1
theorem wtext_bad {xs : List Int} (h : xs.all (belowB 3) = false) : wtext xs = [] := if_neg fun h' => by rw [h] at h'; exact absurd h'.2 (by simp)
theorem wtext_nil : wtext [] = [45] := rfl
theorem wtext_ok {xs : List Int} (h : xs.length ≤ 400) (h' : xs.all (belowB 3) = true) (h0 : ¬ xs.length = 0) : wtext xs = letters xs := by
  unfold wtext
  rw [if_pos ⟨h, h'⟩, if_neg (by rintro rfl; exact h0 rfl)]

theorem info_u8 : (Tryd.prog.info? 5).map (fun i => (i.zero, i.size, i.bytes)) = some (some (.int .u8 0), 1, 1) := by kernel_rfl

theorem letters_snoc {xs : List Int} {k : Nat} {x : Int} (hx : xs[k]? = some x) : (letters (xs.take (k + 1))).map (Value.int .u8) = (letters (xs.take k)).map (Value.int .u8) ++ [Value.int .u8 (97 + x)] := by
  rw [take_snoc hx]; simp [letters]

theorem ones_u8 (xs : List Int) : ∀ u ∈ xs.map (Value.int .u8), u.oneCell' = true := ints_oneCell .u8 xs

theorem ret_text {xs ys : List Int} (h : xs = ys) : Ending.returned (.string (strOfNums xs)) = .returned (.string (strOfNums ys)) := by rw [h]

/-- string(b) of bytes that the call owns. -/
theorem convert_own {w : World} {base : Nat} {g n c : Nat} {xs : List Int} (h : w.ownsRow base 5 1 (.slice (some ⟨g, 0, none⟩) n c) n (xs.map (Value.int .u8))) :
    (convert 58 9 (.slice (some ⟨g, 0, none⟩) n c)).run Tryd.prog w = .ok (.string (strOfNums xs)) w := by
  have hl : xs.length = n := by simpa using h.1
  refine run_convert_bytes_arg (P := Tryd.prog) w 58 5 Tryd.underlying58 Tryd.underlying5 g 0 n c xs hl (fun i hi => ?_) 9 Tryd.underlying9
  rw [Nat.zero_add, h.cellAt i (by omega), List.getElem?_map, List.getElem?_eq_getElem (by omega)]
  simp [List.getD, List.getElem?_eq_getElem (show i < xs.length by omega)]

set_option maxHeartbeats 1000000 in
set_option maxRecDepth 100000 in
theorem specWordText_any (A : Option Addr) (n cap : Nat) (xs : List Int) (w : World) (h : NumsAt w A n xs) (hn : n ≤ 4611686018427387904) :
    Calls Tryd.prog 56 #[.slice A n cap] w fun e w' => e = .returned (.string (strOfNums (wtext xs))) ∧ Below w.heap.size w w' := by
  by_cases hlong : n ≤ 400
  · obtain ⟨i0, hi, hz0, hz1, hz2⟩ := info_parts info_u8
    have HL := Lib.hid h.1
    go_enter Tryd.func56, Tryd.ntmps56
    go_wp2
    go_loopw [3, 4] (fun v i wr => ∃ k : Nat, k ≤ n ∧ i = .int .i64 k ∧ (xs.take k).all (belowB 3) = true ∧ wr.ownsRow w.heap.size 5 1 v k ((letters (xs.take k)).map (Value.int .u8)) ∧ Below w.heap.size w wr)
      (fun _ i _ => n - (intOf i).toNat)
    case atStart => exact ⟨0, Nat.zero_le _, rfl, by simp, by simpa [letters] using World.ownsRow_lit (e := 5) w #[] 0 (Nat.le_refl _) (Nat.zero_le _) rfl, (Below.refl _ _).alloc (Nat.le_refl _) _⟩
    case round =>
      obtain ⟨k, hk, rfl, hall, hown, hbel⟩ := hrel
      obtain ⟨A3, c3, rfl⟩ := own_form hown
      have HO := Lib.hid hown
      have HB := Lib.hid hbel
      have HA := Lib.hid hall
      by_cases hlt : k < n
      · obtain ⟨x, b, off, hx, rfl, hc⟩ := h.at_ hlt
        have HX := Lib.hid hx
        have hc' : wr.cell? ⟨b, off + k, none⟩ = some (.int .i64 x) := (hbel.cell (cell_lt hc)).trans hc
        have hk0 : (0 : Int) ≤ (k : Int) := by omega
        have hkn : (k : Int) < (n : Int) := by omega
        clear hx hc hown hbel hall
        by_cases hb : 0 ≤ x ∧ x ≤ 2
        · have hx0 : 0 ≤ x := hb.1
          have hx2 : x ≤ 2 := hb.2
          have hin : inB 0 2 x = true := inB_t hb
          clear hb
          go_wp2_with (first
            | (go_at_call 54; refine (l00In_any _ _ _ _).mono ?_; rintro e w' ⟨rfl, rfl⟩)
            | (at_builtin; (refine wpList_append_own _ rfl _ _ 58 rfl w.heap.size 5 i0 (.int .u8 0) 1 1 Tryd.underlying58 hi hz0 hz1 hz2 rfl (by decide) _ _ _ rfl (HO.out.alloc _) ⟨wr.heap.size, 0, none⟩ 1 1 [.int .u8 (97 + x)] rfl rfl (cell_one_new _ _ _) (ones_u8 [97 + x]) (by unfold maxLen; omega) (by omega) (by rw [World.size_alloc]; exact Nat.le_succ_of_le HB.out.size) ?_)))
          intro v' w1 hown' hgrow _
          have HO1 := Lib.hid hown'
          have HG1 := Lib.hid hgrow
          clear hown' hgrow
          go_wp2
          go_roundw
          case rel =>
            refine ⟨k + 1, by omega, by go_num, all_snoc HA.out HX.out (belowB_t ⟨hx0, by omega⟩), by rw [letters_snoc HX.out]; exact HO1.out, ?_⟩
            exact (HB.out.alloc HB.out.size _).grown HG1.out (by rw [World.size_alloc]; exact Nat.le_succ_of_le HB.out.size) (fun j hj => (HO.out.lt j hj).1)
          case measure => simp [intOf]; omega
        · have hin : inB 0 2 x = false := inB_f hb
          go_wp2_with (go_at_call 54; refine (l00In_any _ _ _ _).mono ?_; rintro e w' ⟨rfl, rfl⟩)
          go_ret
          refine ⟨ret_text (ys := wtext xs) (xs := []) ?_, HB.out⟩
          rw [wtext_bad (all_stop HX.out (by rw [belowB_inB]; exact hin))]
      · have hkn : k = n := by omega
        subst hkn
        clear hown hbel hall
        by_cases h0 : k = 0
        · subst h0
          go_wp2
          go_ret
          refine ⟨ret_text (xs := [45]) ?_, HB.out⟩
          have hxs : xs = [] := List.eq_nil_of_length_eq_zero HL.out
          subst hxs
          exact wtext_nil.symm
        · obtain ⟨g, rfl⟩ := own_addr HO.out (by omega)
          have hown := HO.out
          have hconv := convert_own hown
          have h0' : ((k : Int) == 0) = false := by rw [beq_eq_false_iff_ne]; omega
          clear hown
          go_wp2
          go_ret
          refine ⟨ret_text ?_, HB.out⟩
          rw [wtext_ok (by rw [HL.out]; exact hlong) (all_done HL.out HA.out) (by rw [HL.out]; exact h0), List.take_of_length_le (by rw [HL.out]; exact Nat.le_refl _)]
  · have hlong' : (400 : Int) < (n : Int) := by omega
    go_enter Tryd.func56, Tryd.ntmps56
    go_wp2
    go_ret
    exact ⟨ret_text (wtext_long (by rw [h.1]; exact hlong)).symm, Below.refl _ _⟩

theorem bytes_step {xs : List Int} {k : Nat} {x : Int} (hx : xs[k]? = some x) :
    ((letters (xs.take k)).map (Value.int .u8) ++ List.replicate (xs.length - k) (Value.int .u8 0)).set k (.int .u8 (97 + x)) = (letters (xs.take (k + 1))).map (Value.int .u8) ++ List.replicate (xs.length - (k + 1)) (.int .u8 0) := by
  have hk : k < xs.length := by
    rcases Nat.lt_or_ge k xs.length with hlt | hge
    · exact hlt
    · rw [List.getElem?_eq_none hge] at hx; cases hx
  rw [take_snoc hx, show xs.length - k = (xs.length - (k + 1)) + 1 from by omega, List.replicate_succ, List.set_append_right _ _ (by simp [letters]; omega)]
  simp [letters, Nat.min_eq_left (Nat.le_of_lt hk)]
theorem bytes_done {xs : List Int} {n : Nat} (hn : xs.length = n) : (letters (xs.take n)).map (Value.int .u8) ++ List.replicate (xs.length - n) (Value.int .u8 0) = (letters xs).map (Value.int .u8) := by
  subst hn
  simp

set_option maxHeartbeats 1000000 in
set_option maxRecDepth 100000 in
theorem implWordText_any (A : Option Addr) (n cap : Nat) (xs : List Int) (w : World) (h : NumsAt w A n xs) (hn : n ≤ 4611686018427387904) :
    Calls Tryd.prog 39 #[.slice A n cap] w fun e w' => e = .returned (.string (strOfNums (wtext xs))) ∧ Below w.heap.size w w' := by
  by_cases hlong : n ≤ 400
  · have hlong0 : decide ((400 : Int) < (n : Int)) = false := by simp; omega
    rcases hb : xs.all (belowB 3) with _ | _
    · go_enter Tryd.func39, Tryd.ntmps39
      go_wp2_with (go_at_call 60; refine (areBelow_any _ _ _ _ _ _ h hn).mono ?_; rintro e w' ⟨rfl, rfl⟩)
      go_ret
      exact ⟨ret_text (xs := []) (wtext_bad hb).symm, Below.refl _ _⟩
    · by_cases h0 : n = 0
      · subst h0
        go_enter Tryd.func39, Tryd.ntmps39
        go_wp2_with (go_at_call 60; refine (areBelow_any _ _ _ _ _ _ h hn).mono ?_; rintro e w' ⟨rfl, rfl⟩)
        go_ret
        refine ⟨ret_text (xs := [45]) ?_, Below.refl _ _⟩
        have hxs : xs = [] := List.eq_nil_of_length_eq_zero h.1
        subst hxs
        exact wtext_nil.symm
      · have h0' : ((n : Int) == 0) = false := by rw [beq_eq_false_iff_ne]; omega
        have HL := Lib.hid h.1
        have hmk := run_make_row' (P := Tryd.prog) 58 5 (.int .u8 0) 1 Tryd.underlying58 info_u8 rfl .i64 .i64 n (by omega) (by omega)
        go_enter Tryd.func39, Tryd.ntmps39
        go_wp2_with (go_at_call 60; refine (areBelow_any _ _ _ _ _ _ h hn).mono ?_; rintro e w' ⟨rfl, rfl⟩)
        clear hmk
        go_loopw [22] (fun i wr => ∃ k : Nat, k ≤ n ∧ i = .int .i64 k ∧ wr.ownsRow w.heap.size 5 1 (.slice (some ⟨w.heap.size, 0, none⟩) n n) n ((letters (xs.take k)).map (Value.int .u8) ++ List.replicate (xs.length - k) (.int .u8 0)) ∧ Below w.heap.size w wr)
          (fun i _ => n - (intOf i).toNat)
        case atStart =>
          refine ⟨0, Nat.zero_le _, rfl, ?_, (Below.refl _ _).alloc (Nat.le_refl _) _⟩
          have hs : (madeCells #[Value.int .u8 0] n).toList = (letters (xs.take 0)).map (Value.int .u8) ++ List.replicate (xs.length - 0) (.int .u8 0) := by rw [toList_madeCells_one]; simp [letters, HL.out]
          rw [← hs]
          exact World.ownsRow_lit w _ n (Nat.le_refl _) (by unfold maxLen; omega) (by rw [size_madeCells, Nat.mul_one])
        case round =>
          obtain ⟨k, hk, rfl, hown, hbel⟩ := hrel
          have HO := Lib.hid hown
          have HB := Lib.hid hbel
          by_cases hlt : k < n
          · obtain ⟨x, b, off, hx, rfl, hc⟩ := h.at_ hlt
            have HX := Lib.hid hx
            have hxb : belowB 3 x = true := List.all_eq_true.1 hb x (List.mem_of_getElem? hx)
            have hx3 : 0 ≤ x ∧ x < 3 := by simpa [belowB] using hxb
            have hx0 : 0 ≤ x := hx3.1
            have hx2 : x ≤ 2 := by omega
            have hc' : wr.cell? ⟨b, off + k, none⟩ = some (.int .i64 x) := (hbel.cell (cell_lt hc)).trans hc
            obtain ⟨u, hu⟩ : ∃ u, wr.cell? ⟨w.heap.size, k, none⟩ = some u := by
              rw [hown.cellAt k (by omega)]
              exact ⟨_, List.getElem?_eq_getElem (by rw [hown.1]; omega)⟩
            have hf : wr.frozen? ⟨w.heap.size, k, none⟩ = false := hown.frozenAt k
            have hk0 : (0 : Int) ≤ (k : Int) := by omega
            have hkn : (k : Int) < (n : Int) := by omega
            have HALL := Lib.hid hb
            clear hx hc hown hbel hb hxb hx3
            go_wp2
            go_roundw
            case rel =>
              refine ⟨k + 1, by omega, by go_num, ?_, HB.out.setCell (Nat.le_refl _) _⟩
              rw [← bytes_step HX.out]
              exact (HO.out.stored k (.int .u8 (97 + x))).1
            case measure => simp [intOf]; omega
          · have hkn : k = n := by omega
            subst hkn
            have hown' := HO.out
            rw [bytes_done HL.out] at hown'
            have hconv := convert_own hown'
            clear hown hbel hown'
            go_wp2
            go_ret
            exact ⟨ret_text (wtext_ok (by rw [HL.out]; exact hlong) hb (by rw [HL.out]; exact h0)).symm, HB.out⟩
  · have hlong' : (400 : Int) < (n : Int) := by omega
    go_enter Tryd.func39, Tryd.ntmps39
    go_wp2
    go_ret
    exact ⟨ret_text (wtext_long (by rw [h.1]; exact hlong)).symm, Below.refl _ _⟩

end Go.Proofs.YtdhmciendlihoaaDoor
