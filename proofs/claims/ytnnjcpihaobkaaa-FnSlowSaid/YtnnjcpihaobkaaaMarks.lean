/-
  Sets as ten marks, and where words lead backwards: the contracts of l01Set, l01Back, checkSetAndWord, markSet and set.
-/
import Derived.Test.YtnnjcpihaobkaaaSets
namespace Go.Proofs.Ytnnjcpihaobkaaa
open Go.RowKit Go.Deep Go.ChangeShapes Go.WideShapes

/-- The states from which a word leads to a set, below k. -/
def backL (xss : List (List Int)) (set ws : List Int) (k : Nat) : List Int := ((List.range k).filter fun q => hasB set ((toS xss ws q : Nat) : Int)).map fun q => ((q : Nat) : Int)
theorem backL_t {xss : List (List Int)} {set ws : List Int} {k : Nat} (h : hasB set ((toS xss ws k : Nat) : Int) = true) : backL xss set ws (k + 1) = backL xss set ws k ++ [(k : Int)] := by
  simp [backL, List.range_succ, List.filter_append, h]
theorem backL_f {xss : List (List Int)} {set ws : List Int} {k : Nat} (h : hasB set ((toS xss ws k : Nat) : Int) = false) : backL xss set ws (k + 1) = backL xss set ws k := by
  simp [backL, List.range_succ, List.filter_append, h]
theorem backL_len (xss : List (List Int)) (set ws : List Int) (k : Nat) : (backL xss set ws k).length ≤ k := by
  rw [backL, List.length_map]
  exact Nat.le_trans (List.length_filter_le _ _) (by simp)

/-- What the functions of a set and a word ask first. -/
def codeB (s : Int) (xss : List (List Int)) (set ws : List Int) : Int := if okA s xss = true then (if setB s set = true ∧ isWordB (xss.length : Int) ws = true then 0 else 2) else 1
theorem codeB_1 {s : Int} {xss : List (List Int)} {set ws : List Int} (h : okA s xss = false) : codeB s xss set ws = 1 := by simp [codeB, h]
theorem codeB_2 {s : Int} {xss : List (List Int)} {set ws : List Int} (h : okA s xss = true) (h' : setB s set = false) : codeB s xss set ws = 2 := by simp [codeB, h, h']
theorem codeB_3 {s : Int} {xss : List (List Int)} {set ws : List Int} (h : okA s xss = true) (h' : isWordB (xss.length : Int) ws = false) : codeB s xss set ws = 2 := by simp [codeB, h, h']
theorem codeB_0 {s : Int} {xss : List (List Int)} {set ws : List Int} (h : okA s xss = true) (h' : setB s set = true) (h2 : isWordB (xss.length : Int) ws = true) : codeB s xss set ws = 0 := by simp [codeB, h, h', h2]

set_option maxHeartbeats 2000000 in
theorem checkSetAndWord_any (s : Int) (A A' A2 : Option Addr) (m cap l cap' l2 cap2 : Nat) (xss : List (List Int)) (set ws : List Int) (w : World) (h : RowsAt w A m xss) (hs : NumsAt w A2 l2 set) (h' : NumsAt w A' l ws) (hm : m ≤ 4611686018427387904) (hl : l ≤ 4611686018427387904) (hl2 : l2 ≤ 4611686018427387904)
    (hrows : ∀ (r : Nat) (xs : List Int), xss[r]? = some xs → xs.length ≤ 4611686018427387904) :
    Calls Try.prog 66 #[.agg #[.int .i64 s, .slice A m cap], .slice A2 l2 cap2, .slice A' l cap'] w fun e w' => e = .returned (.int .i64 (codeB s xss set ws)) ∧ Below w.heap.size w w' := by
  have HR := Lib.hid hrows
  have HM := Lib.hid h.1
  have b0 : Below w.heap.size w (w.alloc (.cells #[.int .i64 s, .slice A m cap] 27)) := (Below.refl _ _).alloc (Nat.le_refl _) _
  have B0 := Lib.hid b0
  have H0 := Lib.hid (h.below b0)
  have H0' := Lib.hid (h'.below b0)
  have HS := Lib.hid (hs.below b0)
  clear hrows b0
  rcases hok : okA s xss with _ | _
  · have HF := Lib.hid (codeB_1 (set := set) (ws := ws) hok)
    go_enter Try.func66, Try.ntmps66
    go_wp2_with fail
    refine (implValid_any s A m cap xss _ H0.out hm HR.out).mono ?_
    rw [hok]
    rintro e w1 ⟨rfl, b1⟩
    have B1 := Lib.hid (below_then B0.out b1)
    clear b1
    go_wp2_with fail
    go_ret
    exact ⟨ret_int HF.out.symm, B1.out⟩
  · rcases hse : setB s set with _ | _
    · have HF := Lib.hid (codeB_2 (ws := ws) hok hse)
      go_enter Try.func66, Try.ntmps66
      go_wp2_with fail
      refine (implValid_any s A m cap xss _ H0.out hm HR.out).mono ?_
      rw [hok]
      rintro e w1 ⟨rfl, b1⟩
      have d0 : w1.cell? ⟨w.heap.size, 0, none⟩ = some (.int .i64 s) := (b1.cell (by simp)).trans (by go_cell)
      have d1 : w1.cell? ⟨w.heap.size, 1, none⟩ = some (.slice A m cap) := (b1.cell (by simp)).trans (by go_cell)
      have S1 := Lib.hid (HS.out.below b1)
      have B1 := Lib.hid (below_then B0.out b1)
      clear b1
      go_wp2_with fail
      refine (isSet_any s A2 l2 cap2 set _ S1.out hl2).mono ?_
      rw [hse]
      rintro e w2 ⟨rfl, rfl⟩
      go_wp2_with fail
      go_ret
      exact ⟨ret_int HF.out.symm, B1.out⟩
    · rcases hwd : isWordB (m : Int) ws with _ | _
      · have HF := Lib.hid (codeB_3 (set := set) hok (by rw [HM.out]; exact hwd))
        go_enter Try.func66, Try.ntmps66
        go_wp2_with fail
        refine (implValid_any s A m cap xss _ H0.out hm HR.out).mono ?_
        rw [hok]
        rintro e w1 ⟨rfl, b1⟩
        have d0 : w1.cell? ⟨w.heap.size, 0, none⟩ = some (.int .i64 s) := (b1.cell (by simp)).trans (by go_cell)
        have d1 : w1.cell? ⟨w.heap.size, 1, none⟩ = some (.slice A m cap) := (b1.cell (by simp)).trans (by go_cell)
        have S1 := Lib.hid (HS.out.below b1)
        have H1' := Lib.hid (H0'.out.below b1)
        have B1 := Lib.hid (below_then B0.out b1)
        clear b1
        go_wp2_with fail
        refine (isSet_any s A2 l2 cap2 set _ S1.out hl2).mono ?_
        rw [hse]
        rintro e w2 ⟨rfl, rfl⟩
        go_wp2_with fail
        refine (isLetterList_any s A A' m cap l cap' ws _ H1'.out hm hl).mono ?_
        rw [hwd]
        rintro e w2 ⟨rfl, b2⟩
        have B2 := Lib.hid (below_then B1.out b2)
        clear b2
        go_wp2_with fail
        go_ret
        exact ⟨ret_int HF.out.symm, B2.out⟩
      · have HF := Lib.hid (codeB_0 hok hse (by rw [HM.out]; exact hwd))
        go_enter Try.func66, Try.ntmps66
        go_wp2_with fail
        refine (implValid_any s A m cap xss _ H0.out hm HR.out).mono ?_
        rw [hok]
        rintro e w1 ⟨rfl, b1⟩
        have d0 : w1.cell? ⟨w.heap.size, 0, none⟩ = some (.int .i64 s) := (b1.cell (by simp)).trans (by go_cell)
        have d1 : w1.cell? ⟨w.heap.size, 1, none⟩ = some (.slice A m cap) := (b1.cell (by simp)).trans (by go_cell)
        have S1 := Lib.hid (HS.out.below b1)
        have H1' := Lib.hid (H0'.out.below b1)
        have B1 := Lib.hid (below_then B0.out b1)
        clear b1
        go_wp2_with fail
        refine (isSet_any s A2 l2 cap2 set _ S1.out hl2).mono ?_
        rw [hse]
        rintro e w2 ⟨rfl, rfl⟩
        go_wp2_with fail
        refine (isLetterList_any s A A' m cap l cap' ws _ H1'.out hm hl).mono ?_
        rw [hwd]
        rintro e w2 ⟨rfl, b2⟩
        have B2 := Lib.hid (below_then B1.out b2)
        clear b2
        go_wp2_with fail
        go_ret
        exact ⟨ret_int HF.out.symm, B2.out⟩

/-! ### Ten marks -/
def marr (f : Nat → Bool) : Array Value := #[.bool (f 0), .bool (f 1), .bool (f 2), .bool (f 3), .bool (f 4), .bool (f 5), .bool (f 6), .bool (f 7), .bool (f 8), .bool (f 9)]
def upd (f : Nat → Bool) (k : Nat) (b : Bool) : Nat → Bool := fun j => if j = k then b else f j
theorem marr_at (f : Nat → Bool) {k : Nat} (h : k < 10) : (marr f)[k]? = some (.bool (f k)) := by
  rcases (show k = 0 ∨ k = 1 ∨ k = 2 ∨ k = 3 ∨ k = 4 ∨ k = 5 ∨ k = 6 ∨ k = 7 ∨ k = 8 ∨ k = 9 by omega) with rfl | rfl | rfl | rfl | rfl | rfl | rfl | rfl | rfl | rfl <;> rfl
theorem marr_set (f : Nat → Bool) {k : Nat} (h : k < 10) (b : Bool) : (marr f).setIfInBounds k (.bool b) = marr (upd f k b) := by
  rcases (show k = 0 ∨ k = 1 ∨ k = 2 ∨ k = 3 ∨ k = 4 ∨ k = 5 ∨ k = 6 ∨ k = 7 ∨ k = 8 ∨ k = 9 by omega) with rfl | rfl | rfl | rfl | rfl | rfl | rfl | rfl | rfl | rfl <;> rfl
theorem marr_one (f : Nat → Bool) : (marr f).all (·.oneCell') = true := by simp [marr, Value.oneCell']
theorem size_marks : (Try.prog.info? 94).map (·.size) = some 10 := by kernel_rfl

/-- What the blocks of markSet hold: the result, the marks so far. -/
def MarkAt (w : World) (f : Nat → Bool) (wr : World) : Prop :=
  wr.heap[w.heap.size]? = some (.cells (marr fun _ => false) 94 (0, 0)) ∧ wr.heap[w.heap.size + 1]? = some (.cells (marr f) 94 (0, 0)) ∧ Below w.heap.size w wr
theorem markAt_step {w wr : World} {f : Nat → Bool} {k : Nat} (h : MarkAt w f wr) (hk : k < 10) (b : Bool) : MarkAt w (upd f k b) (wr.setCell ⟨w.heap.size + 1, k, none⟩ (.bool b)) := by
  obtain ⟨h1, h2, h3⟩ := h
  refine ⟨?_, ?_, h3.setCell (by simp) _⟩
  · rw [heap_setCell_other wr ⟨w.heap.size + 1, k, none⟩ w.heap.size _ (by simp)]
    exact h1
  · rw [heap_setCell_same wr (w.heap.size + 1) k _ _ _ h2, marr_set f hk]
theorem upd_has {set : List Int} {k : Nat} {x : Nat} (hx : set[k]? = some (x : Int)) : upd (fun q : Nat => hasB (set.take k) (q : Int)) x true = fun q : Nat => hasB (set.take (k + 1)) (q : Int) := by
  funext q
  rw [hasB_snoc hx]
  unfold upd
  by_cases h : q = x
  · simp [h]
  · have : ¬ (x : Int) = (q : Int) := by omega
    simp [h, this]

set_option maxHeartbeats 2000000 in
set_option maxRecDepth 100000 in
theorem markSet_any (A : Option Addr) (n cap : Nat) (set : List Int) (w : World) (h : NumsAt w A n set) (hn : n ≤ 4611686018427387904) (hset : ∀ x ∈ set, 0 ≤ x ∧ x < 10) :
    Calls Try.prog 68 #[.slice A n cap] w fun e w' => e = .returned (.agg (marr fun q => hasB set (q : Int))) ∧ Below w.heap.size w w' := by
  have HL := Lib.hid h.1
  have HSET := Lib.hid hset
  have e0 : (fun q : Nat => hasB (set.take 0) (q : Int)) = fun _ => false := by funext q; rfl
  have h0 : MarkAt w (fun q : Nat => hasB (set.take 0) (q : Int)) ((w.alloc (.cells (marr fun _ => false) 94)).alloc (.cells (marr fun _ => false) 94)) := by
    rw [e0]
    refine ⟨?_, ?_, by go_grown⟩
    · rw [Below.heap_alloc _ _ _ (by simp)]
      exact heap_alloc_new _ _
    · have := heap_alloc_new (w.alloc (.cells (marr fun _ => false) 94)) (.cells (marr fun _ => false) 94)
      simpa using this
  have H0 := Lib.hid h0
  clear hset h0 e0
  go_enter Try.func68, Try.ntmps68
  go_wp2_with fail
  go_loopw [8] (fun i wr => ∃ k : Nat, k ≤ n ∧ i = .int .i64 k ∧ MarkAt w (fun q => hasB (set.take k) (q : Int)) wr) (fun i _ => n - (intOf i).toNat)
  case atStart => exact ⟨0, Nat.zero_le _, rfl, H0.out⟩
  case round =>
    obtain ⟨k, hk, rfl, hat⟩ := hrel
    have HT := Lib.hid hat
    clear hat H0
    by_cases hlt : k < n
    · obtain ⟨x, b, off, hx, rfl, hc⟩ := (h.below HT.out.2.2).at_ hlt
      have hx10 := HSET.out x (List.mem_of_getElem? hx)
      obtain ⟨y, rfl⟩ : ∃ y : Nat, x = (y : Int) := ⟨x.toNat, by omega⟩
      have hy : y < 10 := by omega
      have hf : wr.frozen? ⟨w.heap.size + 1, y, none⟩ = false := frozen_of_row wr (w.heap.size + 1) y _ _ HT.out.2.1
      have hcy : wr.cell? ⟨w.heap.size + 1, y, none⟩ = some (.bool (hasB (set.take k) (y : Int))) := by
        rw [cell_of_row wr (w.heap.size + 1) y _ _ _ HT.out.2.1, marr_at _ hy]
      have HX := Lib.hid hx
      have HY := Lib.hid hy
      have i1 : (0 : Int) ≤ (k : Int) := by omega
      have i2 : (k : Int) < (n : Int) := by omega
      have i3 : (0 : Int) ≤ (y : Int) := by omega
      have i4 : (y : Int) < 10 := by omega
      clear hx hx10 hy
      go_wp2_with fail
      go_roundw
      case rel => exact ⟨k + 1, by omega, by go_num, by rw [← upd_has HX.out]; exact markAt_step HT.out HY.out true⟩
      case measure => simp [intOf]; omega
    · have hkn : k = n := by omega
      subst hkn
      have hT := HT.out
      rw [List.take_of_length_le (Nat.le_of_eq HL.out)] at hT
      obtain ⟨M, hM⟩ : ∃ M, M = marr fun q : Nat => hasB set (q : Int) := ⟨_, rfl⟩
      obtain ⟨Z, hZ⟩ : ∃ Z, Z = marr fun _ => false := ⟨_, rfl⟩
      have zs : Z.size = 10 := by rw [hZ]; rfl
      have ms : M.size = 10 := by rw [hM]; rfl
      have mo : M.all (·.oneCell') = true := by rw [hM]; exact marr_one _
      have k1 : wr.heap[w.heap.size]? = some (.cells Z 94 (0, 0)) := by rw [hZ]; exact hT.1
      have k2 : wr.heap[w.heap.size + 1]? = some (.cells M 94 (0, 0)) := by rw [hM]; exact hT.2.1
      have K1 := Lib.hid k1
      have K2 := Lib.hid k2
      have KB := Lib.hid hT.2.2
      have HMM := Lib.hid hM
      have ZS := Lib.hid zs
      have MS := Lib.hid ms
      have MO := Lib.hid mo
      clear hT hM hZ zs ms mo k1 k2
      go_wp2_with (first
        | (refine wpList_load_row rfl 94 _ rfl (w.heap.size + 1) rfl 94 M (0, 0) _ K2.out Try.underlying94 rfl (by rw [MS.out]; exact size_marks) ?_)
        | (refine wpList_store_mid rfl 94 _ _ rfl w.heap.size 0 M rfl rfl (there_of K1.out (by rw [MS.out, ZS.out]; exact Nat.le_refl 10)) (by rw [MS.out]; exact size_marks) MO.out ?_))
      have hw := setCells_whole (vs := M.toList) K1.out (by rw [Array.length_toList, MS.out, ZS.out])
      rw [Array.toArray_toList] at hw
      exact bodyPost_ret (v := .agg M) (results_cell_row rfl _ _ w.heap.size 94 _ (0, 0) _ rfl hw Try.underlying94 rfl (by rw [MS.out]; exact size_marks)) rfl ⟨by rw [HMM.out], setCells_below (by omega) _ _ _ KB.out⟩

end Go.Proofs.Ytnnjcpihaobkaaa
