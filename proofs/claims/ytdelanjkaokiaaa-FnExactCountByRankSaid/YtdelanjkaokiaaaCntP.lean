/-
  The words of a length by their ranks: the program's CountByRank.
-/
import Derived.Test.YtdelanjkaokiaaaCntR
import Derived.Deep.RegionLaw
import Derived.Laws.EntriesVeiled
namespace Go.Proofs.Ytdelanjkaokiaaa
open Go.RowKit Go.Deep Go.ChangeShapes Go.WideShapes
open Hunt Srch Moved

def rankP (r b : Nat) : Bool := decide (Lib.onesCount b = r)
set_option maxRecDepth 100000 in
theorem isOf_any (r b : Nat) (w : World) (hb : b < 1024) : Calls Try.prog 72 #[.int .i64 (r : Int), .int .u16 (b : Int)] w fun e w' => e = .returned (.bool (rankP r b)) ∧ Below w.heap.size w w' := by
  obtain ⟨C, hC⟩ : ∃ C, C = Lib.onesCount b := ⟨_, rfl⟩
  have HC := Lib.hid hC
  have HB := Lib.hid (show ((C : Int) == (r : Int)) = rankP r b by
    unfold rankP
    by_cases h : Lib.onesCount b = r
    · rw [decide_eq_true h, hC, h]; exact beq_self_eq_true _
    · rw [decide_eq_false h, beq_eq_false_iff_ne]; omega)
  clear hC
  go_enter Try.func72, Try.ntmps72
  go_wp2_with fail
  refine (size_any b w hb).mono ?_
  rw [← HC.out]
  rintro e w' ⟨rfl, k, rfl⟩
  go_wp2_with fail
  go_ret
  exact ⟨ret_bool HB.out, below_drewN' (Below.refl _ _) _⟩
set_option maxRecDepth 100000 in
theorem isOf_goal (r : Nat) : GoalOk 72 #[.int .i64 (r : Int)] (rankP r) := ⟨fun _ _ => rfl, fun b hb W => isOf_any r b W hb⟩
/-- The goals while they are laid: the first k are there. -/
def funL (k : Nat) : List Value := (List.range 11).map fun i => if i < k then .func (.func 72) #[.int .i64 ((i : Nat) : Int)] #[] else .nilFunc
theorem funL_len (k : Nat) : (funL k).length = 11 := by simp [funL]
theorem funL_at {k i : Nat} (h : i < 11) : (funL k)[i]? = some (if i < k then .func (.func 72) #[.int .i64 ((i : Nat) : Int)] #[] else .nilFunc) := by
  unfold funL
  rw [List.getElem?_map, List.getElem?_range h]; rfl
theorem funL_set {k : Nat} (h : k < 11) : (funL k).set k (.func (.func 72) #[.int .i64 ((k : Nat) : Int)] #[]) = funL (k + 1) := by
  apply List.ext_getElem?
  intro r
  rw [List.getElem?_set]
  by_cases hr : k = r
  · subst hr
    rw [if_pos rfl, if_pos (by rw [funL_len]; exact h), funL_at h, if_pos (Nat.lt_succ_self _)]
  · rw [if_neg hr]
    rcases Nat.lt_or_ge r 11 with h1 | h1
    · rw [funL_at h1, funL_at h1]
      by_cases h2 : r < k
      · rw [if_pos h2, if_pos (by omega)]
      · rw [if_neg h2, if_neg (by omega)]
    · rw [List.getElem?_eq_none (by rw [funL_len]; exact h1), List.getElem?_eq_none (by rw [funL_len]; exact h1)]

/-- What CountByRank answers. -/
def countByRank (s : Int) (xss : List (List Int)) (k : Int) : List Int × Int :=
  if okA s xss = true then (if 0 ≤ k ∧ k ≤ 20 then (rowF (s.toNat + 1) (fun r => wr64 (goalS (cntF (aftF s.toNat xss) xss.length (2 ^ s.toNat - 1) k.toNat) (rankP r) (List.range 1024))), 0) else ([], 2)) else ([], 1)
theorem countByRank_1 {s : Int} {xss : List (List Int)} {k : Int} (h : okA s xss = false) : countByRank s xss k = ([], 1) := by unfold countByRank; rw [if_neg (by simp [h])]
theorem countByRank_2 {s : Int} {xss : List (List Int)} {k : Int} (h : okA s xss = true) (h' : ¬ (0 ≤ k ∧ k ≤ 20)) : countByRank s xss k = ([], 2) := by unfold countByRank; rw [if_pos h, if_neg h']
theorem countByRank_0 {n m k : Nat} {xss : List (List Int)} (h : okA (n : Int) xss = true) (hm : xss.length = m) (hk : k ≤ 20) : countByRank (n : Int) xss (k : Int) = (rowF (n + 1) (fun r => wr64 (goalS (cntF (aftF n xss) m (2 ^ n - 1) k) (rankP r) (List.range 1024))), 0) := by
  unfold countByRank; rw [if_pos h, if_pos (by omega), Int.toNat_natCast, Int.toNat_natCast, hm]

set_option maxRecDepth 100000 in
set_option maxHeartbeats 4000000 in
theorem implCountByRank_any (s : Int) (A : Option Addr) (m cap : Nat) (xss : List (List Int)) (k : Int) (w : World) (h : RowsAt w A m xss) (hm : m ≤ 4611686018427387904)
    (hrows : ∀ (r : Nat) (xs : List Int), xss[r]? = some xs → xs.length ≤ 4611686018427387904) :
    Calls Try.prog 31 #[.agg #[.int .i64 s, .slice A m cap], .int .i64 k] w (ListsTo (countByRank s xss k) w) := by
  have HR := Lib.hid hrows
  have HM := Lib.hid h.1
  obtain ⟨R, hR⟩ : ∃ R, R = countByRank s xss k := ⟨_, rfl⟩
  rw [← hR]
  have HRR := Lib.hid hR
  obtain ⟨w1, hw1⟩ : ∃ w1, w1 = w.alloc (.cells #[.int .i64 s, .slice A m cap] 31) := ⟨_, rfl⟩
  have b1 : Below w.heap.size w w1 := by rw [hw1]; exact (Below.refl _ _).alloc (Nat.le_refl _) _
  have X1 := Lib.hid (show Box w1 w.heap.size [.int .i64 s, .slice A m cap] by rw [hw1]; exact Box.new _ _ _)
  have HX1 := Lib.hid (h.below b1)
  have W1 := Lib.hid b1
  have HW := Lib.hid hw1
  clear h hrows hR b1 hw1
  go_enter Try.func31, Try.ntmps31
  go_upto_region 1 with fail
  rw [← HW.out]
  have q0 := X1.out 0 _ rfl
  have q1 := X1.out 1 _ rfl
  go_wp2_with fail
  refine (implValid_any s A m cap xss w1 HX1.out hm HR.out).mono ?_
  rintro e w2 ⟨rfl, b2⟩
  have X2 := Lib.hid (Box.below X1.out b2)
  have HX2 := Lib.hid (HX1.out.below b2)
  have W2 := Lib.hid (below_then W1.out b2)
  clear b2 q0 q1
  rcases hok : okA s xss with _ | _
  · have HF := Lib.hid (HRR.out.trans (countByRank_1 hok))
    go_wp2_with fail
    go_ret2
    exact listsTo_mk (xs := []) HF.out (World.ownsRow_nil _ _ _ _) W2.out
  · obtain ⟨n, hsn, hg⟩ := good_of hok HM.out
    subst hsn
    have HG := Lib.hid hg
    have HOK := Lib.hid hok
    have hn10 : n ≤ 10 := hg.n10
    clear hg hok
    by_cases hk0 : k < 0
    · have hb : decide (k < 0) = true := by simpa using hk0
      have HF := Lib.hid (HRR.out.trans (countByRank_2 HOK.out (by omega)))
      clear hk0
      go_wp2_with fail
      go_ret2
      exact listsTo_mk (xs := []) HF.out (World.ownsRow_nil _ _ _ _) W2.out
    · have hb : decide (k < 0) = false := by simp; omega
      by_cases hk20 : 20 < k
      · have hb2 : decide (20 < k) = true := by simpa using hk20
        have HF := Lib.hid (HRR.out.trans (countByRank_2 HOK.out (by omega)))
        clear hk0 hk20
        go_wp2_with fail
        go_ret2
        exact listsTo_mk (xs := []) HF.out (World.ownsRow_nil _ _ _ _) W2.out
      · have hb2 : decide (20 < k) = false := by simp; omega
        obtain ⟨k, rfl⟩ : ∃ z : Nat, k = (z : Int) := ⟨k.toNat, by omega⟩
        have HK := Lib.hid (show k ≤ 20 by omega)
        have HF := Lib.hid (HRR.out.trans (countByRank_0 HOK.out HM.out HK.out))
        have hmf : ∀ (fn : Fn) (first cap : Array Value) (w : World), (Instr.makeFunc fn first cap).run Try.prog w = .ok (.func fn first cap) w := fun _ _ _ _ => rfl
        obtain ⟨w3, hw3⟩ : ∃ w3, w3 = w2.alloc (.cells #[.nilFunc, .nilFunc, .nilFunc, .nilFunc, .nilFunc, .nilFunc, .nilFunc, .nilFunc, .nilFunc, .nilFunc, .nilFunc] 105) := ⟨_, rfl⟩
        have b3 : Below w2.heap.size w2 w3 := by rw [hw3]; exact (Below.refl _ _).alloc (Nat.le_refl _) _
        obtain ⟨G, hG⟩ : ∃ G, G = w2.heap.size := ⟨_, rfl⟩
        have O3 := Lib.hid (show w3.ownsRow w2.heap.size 105 1 (.slice (some ⟨G, 0, none⟩) 11 11) 11 (funL 0) by
          rw [hw3, hG]
          exact World.ownsRow_lit w2 #[.nilFunc, .nilFunc, .nilFunc, .nilFunc, .nilFunc, .nilFunc, .nilFunc, .nilFunc, .nilFunc, .nilFunc, .nilFunc] 11 (Nat.le_refl _) (by unfold maxLen; omega) rfl)
        have B3 := Lib.hid b3
        have HW3 := Lib.hid hw3
        have HGE := Lib.hid hG
        clear hk0 hk20 hw3 b3 hG
        go_upto_region 6 with fail
        rw [← HGE.out, ← HW3.out]
        go_wp2_with fail
        go_loopw [17] (fun iv wr => ∃ i : Nat, i ≤ 11 ∧ iv = .int .i64 i ∧ wr.ownsRow w2.heap.size 105 1 (.slice (some ⟨G, 0, none⟩) 11 11) 11 (funL i) ∧ Below w2.heap.size w2 wr) (fun iv _ => 11 - (intOf iv).toNat)
        case atStart => exact ⟨0, Nat.zero_le _, rfl, O3.out, B3.out⟩
        case round =>
          obtain ⟨i, hi, rfl, hown, hbel⟩ := hrel
          obtain ⟨wi, hwi⟩ : ∃ wi, wi = wr := ⟨_, rfl⟩
          rw [← hwi] at hown hbel ⊢
          clear hwi
          have HO := Lib.hid hown
          have HB := Lib.hid hbel
          have hi0 : (0 : Int) ≤ (i : Int) := by omega
          clear hown hbel
          by_cases hlt : i < 11
          · have hil : (i : Int) < 11 := by omega
            have hc : wi.cell? ⟨G, i, none⟩ = some .nilFunc := by rw [HO.out.cellAt i (by omega), funL_at hlt, if_neg (Nat.lt_irrefl _)]
            have hf : wi.frozen? ⟨G, i, none⟩ = false := HO.out.frozenAt i
            have HST := Lib.hid (show (wi.setCell ⟨G, i, none⟩ (.func (.func 72) #[.int .i64 ((i : Nat) : Int)] #[])).ownsRow w2.heap.size 105 1 (.slice (some ⟨G, 0, none⟩) 11 11) 11 (funL (i + 1)) by
              have h9 := (HO.out.stored i (.func (.func 72) #[.int .i64 ((i : Nat) : Int)] #[])).1
              rw [funL_set hlt] at h9
              exact h9)
            have HBS := Lib.hid (show Below w2.heap.size w2 (wi.setCell ⟨G, i, none⟩ (.func (.func 72) #[.int .i64 ((i : Nat) : Int)] #[])) from HB.out.setCell (by show w2.heap.size ≤ G; rw [HGE.out]; exact Nat.le_refl _) _)
            go_wp2_with fail
            go_roundw
            case rel => exact ⟨i + 1, by omega, by go_num, HST.out, HBS.out⟩
            case measure => simp [intOf]; omega
          · have hie : i = 11 := by omega
            have HOE := Lib.hid (show wi.ownsRow w2.heap.size 105 1 (.slice (some ⟨G, 0, none⟩) 11 11) 11 (funL 11) from by have h9 := HO.out; rw [hie] at h9; exact h9)
            have hgoal : ∀ W', Below wi.heap.size wi W' → GoalsAt W' (some ⟨G, 0, none⟩) (n + 1) (fun _ => 72) (fun i => #[.int .i64 ((i : Nat) : Int)]) := fun W' hb j hj => ⟨G, 0, rfl, by
              rw [Nat.zero_add, (own_below HOE.out hb).cellAt j (by omega), funL_at (by omega), if_pos (by omega)]⟩
            have HGO := Lib.hid hgoal
            have XI := Lib.hid (Box.below X2.out HB.out)
            have q0 := XI.out 0 _ rfl
            have q1 := XI.out 1 _ rfl
            have hn0 : (0 : Int) ≤ (n : Int) + 1 := by omega
            have hn11 : (n : Int) + 1 ≤ 11 := by omega
            have hwr : IntKind.i64.wrap ((n : Int) + 1) = (n : Int) + 1 := IntWalk.i64_in _ (by omega)
            have HXI := Lib.hid (HX2.out.below HB.out)
            have WI := Lib.hid (below_then W2.out HB.out)
            clear hie hgoal
            go_wp2_with fail
            go_region_law
              (first
                | (go_simp; go_at_call 70; refine (countWords_any A n m cap xss k _ (n + 1) 11 _ _ rankP _ HG.out (HXI.out.below (below_drewN' (Below.refl _ _) 1)) HK.out (HGO.out _ (below_drewN' (Below.refl _ _) 1)) (by omega) (fun i _ => isOf_goal i)).mono ?_; rintro e w5 ⟨v, rfl, o5, b5⟩; have O5 := Lib.hid (own_base o5 WI.out.size); have B5 : Hid (Below wi.heap.size wi w5) := Lib.hid (below_then (below_drewN' (Below.refl _ _) 1) b5); clear o5 b5)
                | fail)
            all_goals
              go_simp
              go_wp2_with fail
              go_ret2
              exact listsTo_mk HF.out (by rw [rowF_len]; exact O5.out) (below_then WI.out B5.out)

end Go.Proofs.Ytdelanjkaokiaaa
