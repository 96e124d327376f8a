/-
  The word for a set of states: the contracts of the model's l04Cell and of the program's setText.
-/
import Derived.Test.YtkfajimhooidcaaDoorLett
import Derived.Test.YtkfajimhooidcaaDoorSets
import Derived.Test.YtkfajimhooidcaaDoorShelj
namespace Go.Proofs.YtkfajimhooidcaaDoor
open Go.RowKit Go.Deep Go.ChangeShapes Go.WideShapes

theorem setB_ge {s : Int} {xs : List Int} (h : setB s xs = true) : ∀ k, k < xs.length → (k : Int) ≤ xs.getD k 0 ∧ xs.getD k 0 < s
  | 0, hk => by
    have h1 := List.all_eq_true.1 h 0 (List.mem_range.2 hk)
    simp only [setAt, belowB, Bool.and_eq_true, decide_eq_true_eq] at h1
    omega
  | k + 1, hk => by
    have h0 := setB_ge h k (by omega)
    have h1 := List.all_eq_true.1 h (k + 1) (List.mem_range.2 hk)
    simp only [setAt, belowB, Bool.and_eq_true, Bool.or_eq_true, decide_eq_true_eq, Nat.add_sub_cancel] at h1
    omega
theorem setB_small {s : Int} {xs : List Int} (h : setB s xs = true) (hs : s ≤ 10) : xs.length ≤ 10 ∧ ∀ x, x ∈ xs → ∃ q : Nat, x = (q : Int) ∧ q ≤ 10 := by
  refine ⟨?_, fun x hx => ?_⟩
  · rcases Nat.eq_zero_or_pos xs.length with h0 | h0
    · omega
    · have := setB_ge h (xs.length - 1) (by omega)
      omega
  · obtain ⟨k, hk⟩ := List.getElem?_of_mem hx
    have hl : k < xs.length := by
      rcases Nat.lt_or_ge k xs.length with hlt | hge
      · exact hlt
      · rw [List.getElem?_eq_none hge] at hk; cases hk
    have h1 := setB_ge h k hl
    rw [List.getD_eq_getElem?_getD, hk] at h1
    simp only [Option.getD_some] at h1
    exact ⟨x.toNat, by omega, by omega⟩

/-- Further numbers, a comma in front of each one. -/
def tailT : List Int → List Int
  | [] => []
  | x :: xs => 44 :: numT x ++ tailT xs
theorem tailT_snoc : ∀ (xs : List Int) (x : Int), tailT (xs ++ [x]) = tailT xs ++ (44 :: numT x)
  | [], x => by simp [tailT]
  | y :: xs, x => by
    show 44 :: numT y ++ tailT (xs ++ [x]) = _
    rw [tailT_snoc xs x]
    simp [tailT]
/-- Numbers, commas between them. -/
def joinT : List Int → List Int
  | [] => []
  | x :: xs => numT x ++ tailT xs
theorem joinT_snoc : ∀ (xs : List Int) (x : Int), 0 < xs.length → joinT (xs ++ [x]) = joinT xs ++ (44 :: numT x)
  | [], x, h => absurd h (Nat.lt_irrefl 0)
  | y :: xs, x, _ => by
    show numT y ++ tailT (xs ++ [x]) = _
    rw [tailT_snoc]
    simp [joinT]
theorem tailT_len : ∀ (xs : List Int), (tailT xs).length ≤ 3 * xs.length
  | [] => by simp [tailT]
  | x :: xs => by
    have h1 := tailT_len xs
    have h2 := numT_len x
    simp only [tailT, List.length_append, List.length_cons]
    omega
theorem joinT_len : ∀ (xs : List Int), (joinT xs).length ≤ 3 * xs.length
  | [] => by simp [joinT]
  | x :: xs => by
    have h1 := tailT_len xs
    have h2 := numT_len x
    simp only [joinT, List.length_append, List.length_cons]
    omega
/-- The word for a set of states. -/
def cellT (xs : List Int) : List Int := if xs.length = 0 then [46] else joinT xs
theorem cellT_0 {xs : List Int} (h : xs.length = 0) : cellT xs = [46] := if_pos h
theorem cellT_1 {xs : List Int} (h : ¬ xs.length = 0) : cellT xs = joinT xs := if_neg h
theorem cellT_len {xs : List Int} (h : xs.length ≤ 10) : (cellT xs).length ≤ 30 := by
  unfold cellT
  split
  · simp
  · have := joinT_len xs; omega
theorem ret_strC {a b : ByteArray} (h : a = b) : Ending.returned (.string a) = .returned (.string b) := by rw [h]

set_option maxRecDepth 100000 in
set_option maxHeartbeats 2000000 in
theorem l04Cell_any (A : Option Addr) (n cap : Nat) (xs : List Int) (w : World) (h : NumsAt w A n xs) (hn : n ≤ 10) (hsm : ∀ x, x ∈ xs → ∃ q : Nat, x = (q : Int) ∧ q ≤ 10) :
    Calls Tryd.prog 46 #[.slice A n cap] w fun e w' => e = .returned (.string (strOfNums (cellT xs))) ∧ Below w.heap.size w w' := by
  have HL := Lib.hid h.1
  have HX := Lib.hid h
  have HS := Lib.hid hsm
  clear h hsm
  by_cases h0 : n = 0
  · subst h0
    go_enter Tryd.func46, Tryd.ntmps46
    go_wp2_with fail
    go_ret
    exact ⟨ret_strC (by rw [cellT_0 HL.out]; apply ByteArray.ext; rfl), Below.refl _ _⟩
  · have h0' : ((n : Int) == 0) = false := by rw [beq_eq_false_iff_ne]; omega
    have HF := Lib.hid (cellT_1 (xs := xs) (by rw [HL.out]; exact h0))
    go_enter Tryd.func46, Tryd.ntmps46
    go_wp2_with fail
    go_loopw [3, 4] (fun sv i wr => ∃ (k : Nat) (T : ByteArray), k ≤ n ∧ i = .int .i64 k ∧ sv = .string T ∧ T = strOfNums (joinT (xs.take k)) ∧ Below w.heap.size w wr) (fun _ i _ => n - (intOf i).toNat)
    case atStart => exact ⟨0, ByteArray.empty, Nat.zero_le _, rfl, rfl, rfl, Below.refl _ _⟩
    case round =>
      obtain ⟨k, T, hk, rfl, rfl, hT, hbel⟩ := hrel
      have HWR := Lib.hid hbel
      have hTs : T.size ≤ 30 := by
        have := joinT_len (xs.take k)
        rw [List.length_take] at this
        rw [hT, strOfNums_size]
        omega
      have HT := Lib.hid hT
      have h1 := HX.out.below hbel
      clear hbel hT
      by_cases hlt : k < n
      · obtain ⟨x, b, off, hxk, rfl, hc⟩ := h1.at_ hlt
        obtain ⟨q, rfl, hq⟩ := HS.out _ (List.mem_of_getElem? hxk)
        have HXX := Lib.hid hxk
        have hk0 : (0 : Int) ≤ (k : Int) := by omega
        have hkl : (k : Int) < (n : Int) := by omega
        clear hxk h1
        by_cases hkp : 0 < k
        · have hd : decide ((0 : Int) < (k : Int)) = true := by simp; omega
          have g0 : ¬ 9223372036854775807 < T.size + 1 := by omega
          go_wp2_with fail
          refine (decimal_any q _ hq).mono ?_
          rintro e w4 ⟨rfl, b4⟩
          have HW4 := Lib.hid (below_then HWR.out b4)
          obtain ⟨S, hS⟩ : ∃ S, S = strOfNums (decT q) := ⟨_, rfl⟩
          rw [← hS]
          have hSs : S.size ≤ 2 := by rw [hS, strOfNums_size]; exact decT_len q
          have HSS := Lib.hid hS
          have g1 : ¬ 9223372036854775807 < T.size + 1 + S.size := by omega
          clear hS b4 g0
          go_wp2_with fail
          go_roundw
          case rel =>
            refine ⟨k + 1, _, by omega, by go_num, rfl, ?_, HW4.out⟩
            rw [take_snoc HXX.out, joinT_snoc _ _ (by rw [List.length_take, HL.out]; omega), numT, Int.toNat_natCast, strNums_app, HT.out, HSS.out, show (44 :: decT q) = [44] ++ decT q from rfl, strNums_app [44], ByteArray.append_assoc]
            rfl
          case measure => simp [intOf]; omega
        · have hk00 : k = 0 := by omega
          subst hk00
          rw [Nat.add_zero] at hc
          go_wp2_with fail
          refine (decimal_any q _ hq).mono ?_
          rintro e w4 ⟨rfl, b4⟩
          have HW4 := Lib.hid (below_then HWR.out b4)
          obtain ⟨S, hS⟩ : ∃ S, S = strOfNums (decT q) := ⟨_, rfl⟩
          rw [← hS]
          have hSs : S.size ≤ 2 := by rw [hS, strOfNums_size]; exact decT_len q
          have HSS := Lib.hid hS
          have g1 : ¬ 9223372036854775807 < T.size + S.size := by omega
          clear hS b4
          go_wp2_with fail
          go_roundw
          case rel =>
            refine ⟨1, _, by omega, by go_num, rfl, ?_, HW4.out⟩
            rw [take_snoc HXX.out, HT.out, HSS.out, ← strNums_app]
            simp [joinT, tailT, numT]
          case measure => simp [intOf]; omega
      · have hkl : k = n := by omega
        subst hkl
        clear h1
        go_wp2_with fail
        go_ret
        have ht := HT.out
        rw [List.take_of_length_le (Nat.le_of_eq HL.out)] at ht
        exact ⟨ret_strC (by rw [HF.out, ht]), HWR.out⟩

theorem info_str : (Tryd.prog.info? 9).map (fun i => (i.zero, i.size, i.bytes)) = some (some (.string ByteArray.empty), 1, 16) := by kernel_rfl
def strV (xs : List Int) : List Value := xs.map fun x => .string (strOfNums (numT x))
theorem join_str : ∀ (xs : List Int), (⟨(Lib.join ((xs.map fun x => strOfNums (numT x)).map (·.data.toList)) (⟨#[44]⟩ : ByteArray).data.toList).toArray⟩ : ByteArray) = strOfNums (joinT xs)
  | [] => by apply ByteArray.ext; rfl
  | x :: xs => by
    have key : ∀ ys : List Int, Lib.joinTail [44] ((ys.map fun x => strOfNums (numT x)).map (·.data.toList)) = (strOfNums (tailT ys)).data.toList := by
      intro ys
      induction ys with
      | nil => rfl
      | cons y ys ih =>
        rw [show tailT (y :: ys) = ([44] ++ numT y) ++ tailT ys from rfl, strNums_app, strNums_app]
        simp only [Lib.joinTail, List.map_cons, List.flatten_cons, ByteArray.data_append, Array.toList_append]
        rw [← ih]
        rfl
    apply ByteArray.ext
    rw [List.map_cons, List.map_cons, Lib.join_cons, joinT, strNums_app, show (⟨#[44]⟩ : ByteArray).data.toList = [44] from rfl, key]
    simp [ByteArray.data_append]

set_option maxRecDepth 100000 in
set_option maxHeartbeats 2000000 in
theorem joinNumbers_any (A : Option Addr) (n cap : Nat) (xs : List Int) (w : World) (h : NumsAt w A n xs) (hn0 : ¬ n = 0) (hn : n ≤ 10) (hsm : ∀ x, x ∈ xs → ∃ q : Nat, x = (q : Int) ∧ q ≤ 10) :
    Calls Tryd.prog 55 #[.slice A n cap, .string ⟨#[44]⟩] w fun e w' => e = .returned (.string (strOfNums (joinT xs))) ∧ Below w.heap.size w w' := by
  have HL := Lib.hid h.1
  have HX := Lib.hid h
  have HS := Lib.hid hsm
  clear h hsm
  obtain ⟨i0, hi, hz0, hz1, hz2⟩ := info_parts info_str
  go_enter Tryd.func55, Tryd.ntmps55
  go_wp2_with fail
  go_loopw [5, 10] (fun v i wr => ∃ k : Nat, k ≤ n ∧ i = .int .i64 k ∧ wr.ownsRow w.heap.size 9 1 v k (strV (xs.take k)) ∧ Below w.heap.size w wr) (fun _ i _ => n - (intOf i).toNat)
  case atStart => exact ⟨0, Nat.zero_le _, rfl, World.ownsRow_nil _ _ _ _, Below.refl _ _⟩
  case round =>
    obtain ⟨k, hk, rfl, hown, hbel⟩ := hrel
    obtain ⟨A3, c3, rfl⟩ := own_form hown
    have HO := Lib.hid hown
    have HWR := Lib.hid hbel
    have h1 := HX.out.below hbel
    clear hbel hown
    by_cases hlt : k < n
    · obtain ⟨x, b, off, hxk, rfl, hc⟩ := h1.at_ hlt
      obtain ⟨q, rfl, hq⟩ := HS.out _ (List.mem_of_getElem? hxk)
      have HXX := Lib.hid hxk
      have hk0 : (0 : Int) ≤ (k : Int) := by omega
      have hkl : (k : Int) < (n : Int) := by omega
      clear hxk h1
      go_wp2_with fail
      refine (numberText_any q wr hq).mono ?_
      rintro e w4 ⟨rfl, rfl⟩
      obtain ⟨S, hS⟩ : ∃ S, S = strOfNums (decT q) := ⟨_, rfl⟩
      rw [← hS]
      have HSS := Lib.hid hS
      clear hS hc
      go_wp2_with (at_builtin; (refine wpList_append_own _ rfl _ _ 46 rfl w.heap.size 9 i0 (.string ByteArray.empty) 1 16 Tryd.underlying46 hi hz0 hz1 hz2 rfl (by decide) _ _ _ rfl (HO.out.alloc _) ⟨w4.heap.size, 0, none⟩ 1 1 [.string S] rfl rfl (cell_one_new _ _ _) (fun u hu => by rw [List.mem_singleton.1 hu]; rfl) (by unfold maxLen; omega) (by omega) (by rw [World.size_alloc]; exact Nat.le_succ_of_le HWR.out.size) ?_))
      intro v' w5 hown' hgrow _
      have HO5 := Lib.hid hown'
      have HW5 := Lib.hid ((HWR.out.alloc HWR.out.size (.cells #[.string S] 9)).grown hgrow (by rw [World.size_alloc]; exact Nat.le_succ_of_le HWR.out.size) (fun j hj => (HO.out.lt j hj).1))
      clear hown' hgrow
      go_wp2_with fail
      go_roundw
      case rel =>
        refine ⟨k + 1, by omega, by go_num, ?_, HW5.out⟩
        have := HO5.out
        rw [take_snoc HXX.out, strV, List.map_append, List.map_cons, List.map_nil, numT, Int.toNat_natCast, ← HSS.out]
        exact this
      case measure => simp [intOf]; omega
    · have hkl : k = n := by omega
      subst hkl
      obtain ⟨g, rfl⟩ := own_addr HO.out (by omega)
      have hown := HO.out
      rw [List.take_of_length_le (Nat.le_of_eq HL.out)] at hown
      have hlt : g < wr.heap.size := (hown.lt g rfl).2
      have hcap : k ≤ c3 := by
        rcases hown.2 with ⟨hv, _⟩ | ⟨g', cap', cur, hv, _, _, hc', _⟩
        · cases hv
        · simp only [Value.slice.injEq] at hv
          omega
      have hJ := Tryd.strings_Join g 0 c3 (xs.map fun x => strOfNums (numT x)) ⟨#[44]⟩ wr (fun j x hx => by
        have hj : j < k := by
          rcases Nat.lt_or_ge j xs.length with hlt | hge
          · rw [← HL.out]; exact hlt
          · rw [List.getElem?_map, List.getElem?_eq_none hge] at hx; cases hx
        rw [Nat.zero_add, hown.cellAt j (by omega), strV, List.getElem?_map]
        rw [List.getElem?_map] at hx
        cases hy : xs[j]? with
        | none => rw [hy] at hx; cases hx
        | some y => rw [hy] at hx; simp only [Option.map_some, Option.some.injEq] at hx ⊢; rw [hx]) hlt (by rw [List.length_map, HL.out]; omega) (by rw [List.length_map, HL.out]; exact hcap) (by
        have e := congrArg ByteArray.size (join_str xs)
        rw [strOfNums_size] at e
        have h2 := joinT_len xs
        rw [HL.out] at h2
        have h3 : (Lib.join ((xs.map fun x => strOfNums (numT x)).map (·.data.toList)) (⟨#[44]⟩ : ByteArray).data.toList).length = (joinT xs).length := by simpa [ByteArray.size] using e
        omega)
      rw [List.length_map, HL.out, join_str] at hJ
      have HJ := Lib.hid hJ
      clear h1 hown hlt hJ
      go_wp2_with fail
      refine HJ.out.mono ?_
      rintro e w5 ⟨rfl, b5⟩
      have HW5 := Lib.hid (below_then HWR.out b5)
      obtain ⟨R, hR⟩ : ∃ R, R = strOfNums (joinT xs) := ⟨_, rfl⟩
      rw [← hR]
      have HRR := Lib.hid hR
      clear hR b5
      go_wp2_with fail
      go_ret
      exact ⟨ret_strC (by rw [HRR.out]), HW5.out⟩

set_option maxRecDepth 100000 in
theorem setText_any (A : Option Addr) (n cap : Nat) (xs : List Int) (w : World) (h : NumsAt w A n xs) (hn : n ≤ 10) (hsm : ∀ x, x ∈ xs → ∃ q : Nat, x = (q : Int) ∧ q ≤ 10) :
    Calls Tryd.prog 36 #[.slice A n cap] w fun e w' => e = .returned (.string (strOfNums (cellT xs))) ∧ Below w.heap.size w w' := by
  have HL := Lib.hid h.1
  have HX := Lib.hid h
  have HS := Lib.hid hsm
  clear h hsm
  by_cases h0 : n = 0
  · subst h0
    go_enter Tryd.func36, Tryd.ntmps36
    go_wp2_with fail
    go_ret
    exact ⟨ret_strC (by rw [cellT_0 HL.out]; apply ByteArray.ext; rfl), Below.refl _ _⟩
  · have h0' : ((n : Int) == 0) = false := by rw [beq_eq_false_iff_ne]; omega
    have HF := Lib.hid (cellT_1 (xs := xs) (by rw [HL.out]; exact h0))
    go_enter Tryd.func36, Tryd.ntmps36
    go_wp2_with fail
    refine (joinNumbers_any A n cap xs w HX.out h0 hn HS.out).mono ?_
    rintro e w5 ⟨rfl, b5⟩
    go_wp2_with fail
    go_ret
    exact ⟨ret_strC (by rw [HF.out]), b5⟩

end Go.Proofs.YtkfajimhooidcaaDoor
