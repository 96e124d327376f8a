/-
  The contract of l01Joined: every state reaches all.
-/
import Derived.Test.YtkhhemlfahdbnabReached
namespace Go.Proofs.Ytkhhemlfahdbnab
open Go.RowKit Go.Deep Go.ChangeShapes Go.WideShapes

def Joined (n m : Nat) (xss : List (List Int)) : Prop := ∀ s, s < n → (setL (reachF m xss s) 10).length = n
noncomputable def joinedB (n m : Nat) (xss : List (List Int)) : Bool := @decide (Joined n m xss) (Classical.propDecidable _)
theorem joinedB_t {n m : Nat} {xss : List (List Int)} (h : Joined n m xss) : joinedB n m xss = true := by
  unfold joinedB; exact @decide_eq_true _ (Classical.propDecidable _) h
theorem joinedB_f {n m : Nat} {xss : List (List Int)} (h : ¬ Joined n m xss) : joinedB n m xss = false := by
  unfold joinedB; exact @decide_eq_false _ (Classical.propDecidable _) h

set_option maxRecDepth 100000 in
set_option maxHeartbeats 1500000 in
theorem l01Joined_any (p : Nat) (A : Option Addr) (n m cap : Nat) (xss : List (List Int)) (w : World) (hg : Good n m xss) (c0 : w.cell? ⟨p, 0, none⟩ = some (.int .i64 (n : Int))) (c1 : w.cell? ⟨p, 1, none⟩ = some (.slice A m cap)) (hR : RowsAt w A m xss) :
    Calls Try.prog 88 #[.pointer (some ⟨p, 0, none⟩)] w fun e w' => e = .returned (.bool (joinedB n m xss)) ∧ Below w.heap.size w w' := by
  have HG := Lib.hid hg
  have hn10 : n ≤ 10 := hg.n10
  clear hg
  go_enter Try.func88, Try.ntmps88
  go_wp2_with fail
  go_loopw [3] (fun i wr => ∃ s : Nat, s ≤ n ∧ i = .int .i64 s ∧ (∀ s', s' < s → (setL (reachF m xss s') 10).length = n) ∧ Below w.heap.size w wr) (fun i _ => n - (intOf i).toNat)
  case atStart => exact ⟨0, Nat.zero_le _, rfl, by omega, Below.refl _ _⟩
  case round =>
    obtain ⟨s, hs, rfl, hall, hbel⟩ := hrel
    have HA := Lib.hid hall
    have HB := Lib.hid hbel
    have d0 : wr.cell? ⟨p, 0, none⟩ = some (.int .i64 (n : Int)) := (hbel.cell (cell_lt c0)).trans c0
    have d1 : wr.cell? ⟨p, 1, none⟩ = some (.slice A m cap) := (hbel.cell (cell_lt c1)).trans c1
    have r0 : ∀ W', Below wr.heap.size wr W' → W'.cell? ⟨p, 0, none⟩ = some (.int .i64 (n : Int)) := fun W' hb => (hb.cell (cell_lt d0)).trans d0
    have r1 : ∀ W', Below wr.heap.size wr W' → W'.cell? ⟨p, 1, none⟩ = some (.slice A m cap) := fun W' hb => (hb.cell (cell_lt d1)).trans d1
    have h1 : Below wr.heap.size wr wr := Below.refl _ _
    obtain ⟨L, hL⟩ : ∃ L, L = setL (reachF m xss s) 10 := ⟨_, rfl⟩
    have HL := Lib.hid hL
    clear hall hbel hL
    by_cases hlt : s < n
    · by_cases hle : L.length = n
      · have HLE := Lib.hid hle
        have hbn : ((L.length : Int) == (n : Int)) = true := by rw [beq_iff_eq]; omega
        clear hle
        go_wp2_with fail
        go_region_held3 (fun w' => Below wr.heap.size wr w') (first | assumption | exact below_drewN' (by assumption) _)
          (first | (go_at_call 148; refine (l01Reached_any p A n m cap s xss _ HG.out (r1 _ (by first | assumption | exact below_drewN' (by assumption) _)) ((hR.below HB.out).below (by first | assumption | exact below_drewN' (by assumption) _)) hlt).mono ?_; rw [← HL.out]; rintro e w3 ⟨v, rfl, o3, b3⟩; obtain ⟨V3, e3, rfl⟩ := own_form o3; have h3 : Below wr.heap.size wr w3 := below_then (by first | assumption | exact below_drewN' (by assumption) _) b3; clear o3 b3))
        go_wp2_with fail
        go_roundw
        case rel =>
          refine ⟨s + 1, by omega, by go_num, fun s' hs' => ?_, below_then HB.out (by assumption)⟩
          rcases Nat.lt_or_ge s' s with a | a
          · exact HA.out s' a
          · obtain rfl : s' = s := by omega
            rw [← HL.out]; exact HLE.out
        case measure => simp [intOf]; omega
      · have hbn : ((L.length : Int) == (n : Int)) = false := by rw [beq_eq_false_iff_ne]; omega
        have HNE := Lib.hid (joinedB_f (m := m) (xss := xss) (fun hj => hle (by rw [HL.out]; exact hj s hlt)))
        clear hle
        go_wp2_with fail
        go_region_held3 (fun w' => Below wr.heap.size wr w') (first | assumption | exact below_drewN' (by assumption) _)
          (first | (go_at_call 148; refine (l01Reached_any p A n m cap s xss _ HG.out (r1 _ (by first | assumption | exact below_drewN' (by assumption) _)) ((hR.below HB.out).below (by first | assumption | exact below_drewN' (by assumption) _)) hlt).mono ?_; rw [← HL.out]; rintro e w3 ⟨v, rfl, o3, b3⟩; obtain ⟨V3, e3, rfl⟩ := own_form o3; have h3 : Below wr.heap.size wr w3 := below_then (by first | assumption | exact below_drewN' (by assumption) _) b3; clear o3 b3))
        go_wp2_with fail
        go_ret
        exact ⟨ret_bool HNE.out.symm, below_then HB.out (by assumption)⟩
    · go_wp2_with fail
      go_ret
      exact ⟨ret_bool (joinedB_t fun s' hs' => HA.out s' (by omega)).symm, HB.out⟩

end Go.Proofs.Ytkhhemlfahdbnab
