/-
  How many words lead to the sets of each goal: the program's countWords.
-/
import Derived.Test.YtdelanjkaokiaaaCntI
namespace Go.Proofs.Ytdelanjkaokiaaa
open Go.RowKit Go.Deep Go.ChangeShapes Go.WideShapes
open Hunt Srch Moved

/-- A list of goals: function values that tell something of each set. -/
def GoalsAt (w : World) (A : Option Addr) (l : Nat) (Fs : Nat → Nat) (fst : Nat → Array Value) : Prop := ∀ i, i < l → ∃ b off, A = some ⟨b, off, none⟩ ∧ w.cell? ⟨b, off + i, none⟩ = some (.func (.func (Fs i)) (fst i) #[])
theorem GoalsAt.below {w w' : World} {A : Option Addr} {l : Nat} {Fs : Nat → Nat} {fst : Nat → Array Value} (h : GoalsAt w A l Fs fst) (hb : Below w.heap.size w w') : GoalsAt w' A l Fs fst := fun i hi => by
  obtain ⟨b, off, h1, h2⟩ := h i hi
  exact ⟨b, off, h1, (hb.cell (cell_lt h2)).trans h2⟩
structure GoalOk (F : Nat) (fst : Array Value) (P : Nat → Bool) : Prop where
  enter : ∀ (args : Array Value) (W : World), (callFunc F args).run Try.prog W = .ok (.enter F args) W
  call : ∀ b, b < 1024 → ∀ W, Calls Try.prog F (fst ++ #[.int .u16 (b : Int)] ++ #[]) W fun e w' => e = .returned (.bool (P b)) ∧ Below W.heap.size W w'
/-- How many words lead to a set below j for which P is true. -/
def goalS (F : Nat → Int) (P : Nat → Bool) (S : List Nat) : Int := sumL (fun b => if P b = true then F b else 0) S
def rowC (F : Nat → Int) (P : Nat → Nat → Bool) (j i : Nat) : Nat → Int := fun y => wr64 (if y < i then goalS F (P y) (List.range (j + 1)) else goalS F (P y) (List.range j))
theorem rowC_0 (F : Nat → Int) (P : Nat → Nat → Bool) (y : Nat) : rowC F P 0 0 y = 0 := by
  unfold rowC
  rw [if_neg (Nat.not_lt_zero _)]
  exact wr64_0
theorem goalS_range (F : Nat → Int) (P : Nat → Bool) (j : Nat) : goalS F P (List.range (j + 1)) = goalS F P (List.range j) + if P j = true then F j else 0 := by unfold goalS; rw [sumL_range]
theorem rowC_yes {F : Nat → Int} {P : Nat → Nat → Bool} {j i : Nat} (h : P i j = true) (y : Nat) : (if y = i then wr64 (goalS F (P i) (List.range j) + F j) else rowC F P j i y) = rowC F P j (i + 1) y := by
  unfold rowC
  by_cases e : y = i
  · subst e
    rw [if_pos rfl, if_pos (Nat.lt_succ_self _), goalS_range, if_pos h]
  · rw [if_neg e]
    simp only [show y < i + 1 ↔ y < i from by omega]
theorem rowC_no {F : Nat → Int} {P : Nat → Nat → Bool} {j i : Nat} (h : P i j = false) (y : Nat) : rowC F P j i y = rowC F P j (i + 1) y := by
  unfold rowC
  by_cases e : y = i
  · subst e
    rw [if_neg (Nat.lt_irrefl _), if_pos (Nat.lt_succ_self _), goalS_range, if_neg (by simp [h]), Int.add_zero]
  · simp only [show y < i + 1 ↔ y < i from by omega]
theorem rowC_row {F : Nat → Int} {P : Nat → Nat → Bool} {j l y : Nat} (h : y < l) : rowC F P j l y = rowC F P (j + 1) 0 y := by
  unfold rowC
  rw [if_pos h, if_neg (Nat.not_lt_zero _)]
theorem rowC_end {F : Nat → Int} {P : Nat → Nat → Bool} {y : Nat} : rowC F P 1024 0 y = wr64 (goalS F (P y) (List.range 1024)) := by
  unfold rowC
  rw [if_neg (Nat.not_lt_zero _)]

set_option maxRecDepth 100000 in
set_option maxHeartbeats 16000000 in
theorem countWords_any (A : Option Addr) (n m c : Nat) (xss : List (List Int)) (len : Nat) (GA : Option Addr) (l cg : Nat) (Fs : Nat → Nat) (fst : Nat → Array Value) (P : Nat → Nat → Bool) (w : World) (hg : Good n m xss) (h : RowsAt w A m xss) (hlen : len ≤ 20)
    (hG : GoalsAt w GA l Fs fst) (hl : l ≤ 11) (hok : ∀ i, i < l → GoalOk (Fs i) (fst i) (P i)) :
    Calls Try.prog 70 #[.agg #[.int .i64 (n : Int), .slice A m c], .int .i64 (len : Int), .slice GA l cg] w fun e w' => ∃ v, e = .returned v ∧
      w'.ownsRow w.heap.size 2 1 v l ((rowF l (fun i => wr64 (goalS (cntF (aftF n xss) m (2 ^ n - 1) len) (P i) (List.range 1024)))).map (Value.int .i64)) ∧ Below w.heap.size w w' := by
  have HG := Lib.hid hg
  obtain ⟨F, hF⟩ : ∃ F, F = cntF (aftF n xss) m (2 ^ n - 1) len := ⟨_, rfl⟩
  rw [← hF]
  have HF := Lib.hid hF
  have HOK := Lib.hid hok
  have hmk := run_make_row' (P := Try.prog) 25 2 (.int .i64 0) 8 Try.underlying25 info_int64 rfl .i64 .i64 l (by omega) (by omega)
  obtain ⟨w1, hw1⟩ : ∃ w1, w1 = w.alloc (.cells #[.int .i64 (n : Int), .slice A m c] 31) := ⟨_, rfl⟩
  have hz1 : w1.heap.size = w.heap.size + 1 := by rw [hw1, World.size_alloc]
  have b1 : Below w.heap.size w w1 := by rw [hw1]; exact (Below.refl _ _).alloc (Nat.le_refl _) _
  have x1 : Box w1 w.heap.size [.int .i64 (n : Int), .slice A m c] := by rw [hw1]; exact Box.new _ _ _
  obtain ⟨w2, hw2⟩ : ∃ w2, w2 = w1.alloc (.cells (madeCells #[.int .i64 0] l) 2) := ⟨_, rfl⟩
  have b2 : Below w1.heap.size w1 w2 := by rw [hw2]; exact (Below.refl _ _).alloc (Nat.le_refl _) _
  have HW1 := Lib.hid hw1
  have HW2 := Lib.hid hw2
  obtain ⟨G, hGe⟩ : ∃ G, G = w.heap.size + 1 := ⟨_, rfl⟩
  have O2 := Lib.hid (show w2.ownsRow w.heap.size 2 1 (.slice (some ⟨G, 0, none⟩) l l) l ((rowF l (rowC F P 0 0)).map (Value.int .i64)) by
    rw [rowF_congr (g := fun _ => 0) (fun y _ => rowC_0 F P y), ← rowF_zero, hw2, Nat.mul_one, hGe, ← hz1]
    exact World.ownsRow_lit w1 _ l (by omega) (by unfold maxLen; omega) (by rw [size_madeCells, Nat.mul_one]))
  have X2 := Lib.hid (Box.below x1 b2)
  have B2 := Lib.hid (below_then b1 b2)
  have HX2 := Lib.hid (h.below (below_then b1 b2))
  have HG2 := Lib.hid (hG.below (below_then b1 b2))
  have HGE := Lib.hid hGe
  have HGW := Lib.hid hG
  clear hg h hG hF hok hw1 hw2 hz1 b1 x1 b2 hGe
  go_enter Try.func70, Try.ntmps70
  go_upto_region 2 with fail
  clear hmk
  rw [← HGE.out, ← HW1.out, ← HW2.out]
  have q0 := X2.out 0 _ rfl
  have q1 := X2.out 1 _ rfl
  go_wp2_with fail
  refine (countByImage_any A n m c xss len w2 HG.out HX2.out hlen).mono ?_
  rw [← HF.out]
  rintro e w3 ⟨M, rfl, hM, b3⟩
  have MT := Lib.hid hM
  have O3 := Lib.hid (own_below O2.out b3)
  have B3 := Lib.hid (below_then B2.out b3)
  have HG3 := Lib.hid (HG2.out.below b3)
  clear hM b3 q0 q1
  go_wp2_with fail
  go_loopw [18] (fun jv wr => ∃ j : Nat, j ≤ 1024 ∧ jv = .int .i64 j ∧ wr.ownsRow w.heap.size 2 1 (.slice (some ⟨G, 0, none⟩) l l) l ((rowF l (rowC F P j 0)).map (Value.int .i64)) ∧ GoalsAt wr GA l Fs fst ∧ Below w.heap.size w wr) (fun jv _ => 1024 - (intOf jv).toNat)
  case atStart => exact ⟨0, Nat.zero_le _, rfl, O3.out, HG3.out, B3.out⟩
  case round =>
    obtain ⟨j, hj, rfl, hown, hgo, hbel⟩ := hrel
    obtain ⟨wj, hwj⟩ : ∃ wj, wj = wr := ⟨_, rfl⟩
    rw [← hwj] at hown hgo hbel ⊢
    clear hwj
    have HO := Lib.hid hown
    have HGO := Lib.hid hgo
    have HB := Lib.hid hbel
    have hj0 : (0 : Int) ≤ (j : Int) := by omega
    clear hown hgo hbel
    by_cases hltj : j < 1024
    · have hjl : (j : Int) < 1024 := by omega
      obtain ⟨V, hV⟩ : ∃ V, V = wr64 (F j) := ⟨_, rfl⟩
      have HV := Lib.hid hV
      have hix := fun (w : World) => run_index_cnt M j V w hltj (by rw [← Array.getElem?_toList, MT.out, List.getElem?_map, rowF_at _ hltj, hV]; rfl)
      clear hV
      go_wp2_with fail
      go_loopw [24] (fun iv wr => ∃ i : Nat, i ≤ l ∧ iv = .int .i64 i ∧ wr.ownsRow w.heap.size 2 1 (.slice (some ⟨G, 0, none⟩) l l) l ((rowF l (rowC F P j i)).map (Value.int .i64)) ∧ GoalsAt wr GA l Fs fst ∧ Below w.heap.size w wr) (fun iv _ => l - (intOf iv).toNat)
      case atStart => exact ⟨0, Nat.zero_le _, rfl, HO.out, HGO.out, HB.out⟩
      case round =>
        obtain ⟨i, hi, rfl, hown, hgo, hbel⟩ := hrel
        obtain ⟨wi, hwi⟩ : ∃ wi, wi = wr := ⟨_, rfl⟩
        rw [← hwi] at hown hgo hbel ⊢
        clear hwi
        have HOI := Lib.hid hown
        have HGI := Lib.hid hgo
        have HBI := Lib.hid hbel
        have hi0 : (0 : Int) ≤ (i : Int) := by omega
        clear hown hbel
        by_cases hlti : i < l
        · have hil : (i : Int) < (l : Int) := by omega
          obtain ⟨bg, og, hga, hcg⟩ := hgo i hlti
          subst hga
          have HEN := Lib.hid (HOK.out i hlti).enter
          have HCA := Lib.hid ((HOK.out i hlti).call j hltj)
          obtain ⟨fi, hfi⟩ : ∃ fi, fi = Fs i := ⟨_, rfl⟩
          rw [← hfi] at hcg HEN HCA
          obtain ⟨fs, hfs⟩ : ∃ fs, fs = fst i := ⟨_, rfl⟩
          rw [← hfs] at hcg HCA
          obtain ⟨pv, hpv⟩ : ∃ pv, pv = P i j := ⟨_, rfl⟩
          rw [← hpv] at HCA
          have HPV := Lib.hid hpv
          clear hgo hfi hfs hpv
          go_wp2_with fail
          rw [HEN.out, Oper.upon_enter]
          refine (HCA.out wi).mono ?_
          rintro e w5 ⟨rfl, b5⟩
          have O5 := Lib.hid (own_below HOI.out b5)
          have G5 := Lib.hid (HGI.out.below b5)
          have B5 := Lib.hid (below_then HBI.out b5)
          clear b5 hcg
          rcases hp : pv with _ | _
          · have HON := Lib.hid (show w5.ownsRow w.heap.size 2 1 (.slice (some ⟨G, 0, none⟩) l l) l ((rowF l (rowC F P j (i + 1))).map (Value.int .i64)) by
              have h9 := O5.out
              rw [rowF_congr (fun y _ => rowC_no (HPV.out.symm.trans hp) y)] at h9
              exact h9)
            clear hp
            go_wp2_with fail
            go_roundw
            case rel => exact ⟨i + 1, by omega, by go_num, HON.out, G5.out, B5.out⟩
            case measure => simp [intOf]; omega
          · obtain ⟨Y, hY⟩ : ∃ Y, Y = rowC F P j i i := ⟨_, rfl⟩
            have hcy : w5.cell? ⟨G, i, none⟩ = some (.int .i64 Y) := by rw [O5.out.cellAt i (by omega), List.getElem?_map, rowF_at _ hlti, hY]; rfl
            have hfy : w5.frozen? ⟨G, i, none⟩ = false := O5.out.frozenAt i
            have HSUM := Lib.hid (show wrap64 (Y + V) = wr64 (goalS F (P i) (List.range j) + F j) by
              rw [hY, HV.out]; unfold rowC; rw [if_neg (Nat.lt_irrefl _)]; exact wr64_add _ _)
            have HON := Lib.hid (show (w5.setCell ⟨G, i, none⟩ (.int .i64 (wrap64 (Y + V)))).ownsRow w.heap.size 2 1 (.slice (some ⟨G, 0, none⟩) l l) l ((rowF l (rowC F P j (i + 1))).map (Value.int .i64)) by
              have h9 := own_storeF O5.out i (wrap64 (Y + V))
              rw [HSUM.out, rowF_congr (fun y _ => rowC_yes (HPV.out.symm.trans hp) y)] at h9
              rw [HSUM.out]
              exact h9)
            have HBN := Lib.hid (show Below w.heap.size w (w5.setCell ⟨G, i, none⟩ (.int .i64 (wrap64 (Y + V)))) from B5.out.setCell (by show w.heap.size ≤ G; have := HGE.out; omega) _)
            have HGN := Lib.hid (show GoalsAt (w5.setCell ⟨G, i, none⟩ (.int .i64 (wrap64 (Y + V)))) (some ⟨bg, og, none⟩) l Fs fst from HGW.out.below HBN.out)
            clear hp hY
            go_wp2_with fail
            go_roundw
            case rel => exact ⟨i + 1, by omega, by go_num, HON.out, HGN.out, HBN.out⟩
            case measure => simp [intOf]; omega
        · have hie : i = l := by omega
          have HON := Lib.hid (show wi.ownsRow w.heap.size 2 1 (.slice (some ⟨G, 0, none⟩) l l) l ((rowF l (rowC F P (j + 1) 0)).map (Value.int .i64)) by
            have h9 := HOI.out
            rw [hie, rowF_congr (fun y hy => rowC_row hy)] at h9
            exact h9)
          clear hie hgo
          go_wp2_with fail
          go_roundw
          case rel => exact ⟨j + 1, by omega, by go_num, HON.out, HGI.out, HBI.out⟩
          case measure => simp [intOf]; omega
    · have hje : j = 1024 := by omega
      have HON := Lib.hid (show wj.ownsRow w.heap.size 2 1 (.slice (some ⟨G, 0, none⟩) l l) l ((rowF l (fun i => wr64 (goalS F (P i) (List.range 1024)))).map (Value.int .i64)) by
        have h9 := HO.out
        rw [hje, rowF_congr (fun y _ => rowC_end)] at h9
        exact h9)
      clear hje
      go_wp2_with fail
      go_ret
      exact ⟨_, rfl, HON.out, HB.out⟩

end Go.Proofs.Ytdelanjkaokiaaa
