/-
  Depths of sets, the program's: the contract of the function that takes a set out once its depth is known.
-/
import Derived.Test.YtdelanjkaokiaaaBeh
import Derived.Test.YtdelanjkaokiaaaDel
namespace Go.Proofs.Ytdelanjkaokiaaa
open Go.RowKit Go.Deep Go.ChangeShapes Go.WideShapes

section
variable {mm : Nat} {bel : Nat → Nat → Nat → Nat}
theorem worstN_lt {f : Nat → Int} {be : Nat → Nat} {D : Int} (hD : 0 < D) : ∀ k, worstN f be k < D ↔ ∀ v, v < k → f (be v) < D
  | 0 => ⟨fun _ v hv => absurd hv (Nat.not_lt_zero _), fun _ => hD⟩
  | k + 1 => by
    have ih := worstN_lt (f := f) (be := be) hD k
    unfold worstN
    constructor
    · intro h v hv
      by_cases e : v < k
      · refine ih.1 ?_ v e
        split at h <;> omega
      · have e1 : v = k := by omega
        subst e1
        split at h <;> omega
    · intro h
      have h1 := ih.2 (fun v hv => h v (by omega))
      have h2 := h k (by omega)
      split <;> omega
/-- A table of depths that tells just the sets known at d to be at most d. -/
def Tells (mm : Nat) (bel : Nat → Nat → Nat → Nat) (N d : Nat) (f : Nat → Int) : Prop := ∀ c, c < N → (f c < ((d + 1 : Nat) : Int) ↔ 0 ≤ depN mm bel d c)
theorem tells_lead {N d b : Nat} {f : Nat → Int} (h : Tells mm bel N d f) (hm : 0 < mm) (hb : b < N) (hbel : ∀ b x v, b < N → x < mm → v < 4 → bel b x v < N) : minN (fun x => worstN f (bel b x) 4) (mm - 1) < ((d + 1 : Nat) : Int) ↔ leadN mm bel d b := by
  rw [minN_lt]
  constructor
  · rintro ⟨x, hx, hw⟩
    have hx' : x < mm := by omega
    refine ⟨x, hx', fun v hv => (h _ (hbel b x v hb hx' hv)).1 ?_⟩
    exact (worstN_lt (by omega) 4).1 hw v hv
  · rintro ⟨x, hx, hv⟩
    exact ⟨x, by omega, (worstN_lt (by omega) 4).2 (fun v h4 => (h _ (hbel b x v hb hx h4)).2 (hv v h4))⟩
end

theorem DepAt.store {w : World} {base G b : Nat} {f : Nat → Int} (h : DepAt w base G f) (v : Int) : DepAt (w.setCell ⟨G, b, none⟩ (.int .i64 v)) base G (fun c => if c = b then v else f c) := by
  have h1 := (World.ownsRow.stored h b (.int .i64 v)).1
  rw [← List.map_set, rowF_set] at h1
  exact h1

set_option maxRecDepth 100000 in
set_option maxHeartbeats 8000000 in
theorem takes_any (base ALL PL PD : Nat) (f : Nat → Int) (D : Int) (A : Option Addr) (n mm c : Nat) (xss : List (List Int)) (B : Option Addr) (d : Nat) (ls : List Int) (b : Nat) (w : World) (hg : GoodL n mm xss ls) (h : RowsAt w A mm xss) (g : NumsAt w B n ls) (hA : DepAt w base ALL f) (hL : LBox w PL (n : Int) A mm c B n d)
    (hP : w.cell? ⟨PD, 0, none⟩ = some (.int .i64 D)) (hb : b < 1024) :
    Calls Try.prog 127 #[.int .u16 (b : Int), .pointer (some ⟨ALL, 0, none⟩), .pointer (some ⟨PL, 0, none⟩), .pointer (some ⟨PD, 0, none⟩)] w fun e w' =>
      e = .returned (.bool (decide (minN (fun x => worstN f (belB n xss ls b x) 4) (mm - 1) < D))) ∧ DepAt w' base ALL (if minN (fun x => worstN f (belB n xss ls b x) 4) (mm - 1) < D then (fun c => if c = b then D else f c) else f) ∧ Only ALL (ALL + 1) w w' := by
  have HG := Lib.hid hg
  have HX := Lib.hid h
  have HY := Lib.hid g
  have HAA := Lib.hid hA
  have HLL := Lib.hid hL
  have q0 := hL 0 _ rfl
  have q1 := hL 1 _ rfl
  have q2 := hL 2 _ rfl
  have R0 := Lib.hid (show ∀ W', Below w.heap.size w W' → W'.cell? ⟨PD, 0, none⟩ = some (.int .i64 D) from fun W' hb => (hb.cell (cell_lt hP)).trans hP)
  have HAL := Lib.hid (World.ownsRow.lt hA ALL rfl).2
  have hm3 : mm ≤ 3 := hg.good.m3
  have hm1 : 1 ≤ mm := hg.good.m1
  obtain ⟨M, hM⟩ : ∃ M, M = minN (fun x => worstN f (belB n xss ls b x) 4) (mm - 1) := ⟨_, rfl⟩
  rw [← hM]
  have HM := Lib.hid hM
  clear hg h g hA hL hM
  go_enter Try.func127, Try.ntmps127
  rcases Int.lt_or_le M D with hMD | hMD
  · have hge : ¬ D ≤ M := by omega
    have HMD := Lib.hid hMD
    clear hMD
    go_wp2_with fail
    go_region_law
      (first
        | (go_simp; go_at_call 99; refine (behindLetters_any base ALL f A n mm c xss B d ls b _ HG.out (by first | exact HX.out | exact HX.out.drew) (by first | exact HY.out | exact HY.out.drew) (by first | exact HAA.out | exact own_below HAA.out (below_drewN' (Below.refl _ _) 1)) hb).mono ?_; rintro e' w4 ⟨G4, rfl, o4, b4⟩; have O4 := Lib.hid o4; have B4 : Hid (Below w.heap.size w w4) := Lib.hid (by first | exact b4 | exact below_then (below_drewN' (Below.refl _ _) 1) b4); have p4 := R0.out _ B4.out; have A4 : Hid (DepAt w4 base ALL f) := Lib.hid (own_below HAA.out B4.out); have cA := DepAt.cell A4.out hb; have fA := World.ownsRow.frozenAt A4.out b; clear o4 b4)
        | (go_simp; go_at_call 128; refine (min_any (some ⟨G4, 0, none⟩) mm mm _ _ (by first | exact NumsAt.own O4.out (rowF_len _ _) rfl | exact (NumsAt.own O4.out (rowF_len _ _) rfl).drew) (by omega) (by omega)).mono ?_; rw [← HM.out]; rintro e' w5 ⟨rfl, rfl⟩)
        | fail)
    all_goals
      go_wp2_with fail
      go_ret
      try rw [decide_eq_true HMD.out]
      try rw [if_pos HMD.out]
      refine ⟨rfl, ?_, ?_⟩
      · first | exact DepAt.store A4.out D | exact own_below (DepAt.store A4.out D) (below_drewN' (Below.refl _ _) 1)
      · exact (Only.of_below B4.out _ _).trans (only_setCellL _ ALL b _)
  · have hge : D ≤ M := hMD
    have HMD := Lib.hid (show ¬ M < D by omega)
    clear hMD
    go_wp2_with fail
    go_region_law
      (first
        | (go_simp; go_at_call 99; refine (behindLetters_any base ALL f A n mm c xss B d ls b _ HG.out (by first | exact HX.out | exact HX.out.drew) (by first | exact HY.out | exact HY.out.drew) (by first | exact HAA.out | exact own_below HAA.out (below_drewN' (Below.refl _ _) 1)) hb).mono ?_; rintro e' w4 ⟨G4, rfl, o4, b4⟩; have O4 := Lib.hid o4; have B4 : Hid (Below w.heap.size w w4) := Lib.hid (by first | exact b4 | exact below_then (below_drewN' (Below.refl _ _) 1) b4); have p4 := R0.out _ B4.out; have A4 : Hid (DepAt w4 base ALL f) := Lib.hid (own_below HAA.out B4.out); have cA := DepAt.cell A4.out hb; have fA := World.ownsRow.frozenAt A4.out b; clear o4 b4)
        | (go_simp; go_at_call 128; refine (min_any (some ⟨G4, 0, none⟩) mm mm _ _ (by first | exact NumsAt.own O4.out (rowF_len _ _) rfl | exact (NumsAt.own O4.out (rowF_len _ _) rfl).drew) (by omega) (by omega)).mono ?_; rw [← HM.out]; rintro e' w5 ⟨rfl, rfl⟩)
        | fail)
    all_goals
      go_wp2_with fail
      go_ret
      try rw [decide_eq_false HMD.out]
      try rw [if_neg HMD.out]
      refine ⟨rfl, ?_, ?_⟩
      · first | exact A4.out | exact own_below A4.out (below_drewN' (Below.refl _ _) 1)
      · first | exact Only.of_below B4.out _ _ | exact Only.of_below (below_drewN' B4.out 1) _ _

end Go.Proofs.Ytdelanjkaokiaaa
