/-
  FnExactSuiteText: for every choice of its arguments (list of lists) the law returns true: both functions give the same answer and code, what the program answers is new memory each time, and no argument is written. No condition.
-/
import Derived.Test.YtdhmciendlihoaaDoorSuitT
import Derived.Test.YtdhmciendlihoaaDoorHand
import Derived.Test.YtdhmciendlihoaaDoorTie
import Derived.Test.YtdhmciendlihoaaDoorCards
import Derived.SevenTiedAt
import Derived.WalkSpells
namespace Go.Proofs.YtdhmciendlihoaaDoor
open Go.RowKit Go.Deep Go.ChangeShapes Go.WideShapes

namespace fnExactSuiteText
open Go.ChangeAt

set_option maxHeartbeats 8000000 in
set_option maxRecDepth 100000 in
theorem walk (A0 : Option Addr) (n0 c0 : Nat) (xs0 : List (List Int)) (w : World) (hHand : HandleAt w) (h0 : RowsAt w A0 n0 xs0) (hn0 : n0 ≤ 9223372036854775807) (hr0 : ∀ (r : Nat) (xs : List Int), xs0[r]? = some xs → xs.length ≤ 9223372036854775807) :
    Calls Tryd.prog 4 #[.slice A0 n0 c0] w fun e w' => e = .returned (.bool true) ∧ Below w.heap.size w w' := by
  have HR0 := Lib.hid hr0
  have HL0 := Lib.hid h0.1
  clear hr0
  go_enter Tryd.func4, Tryd.ntmps4
  go_wp2_with fail
  have BW := Lib.hid (Below.refl w.heap.size w)
  refine (szInt64SS_any A0 n0 c0 xs0 _ _ (h0.below BW.out) hn0 HR0.out (by omega) (by omega)).mono ?_
  rintro e w9 ⟨r0, rfl, hS, rfl⟩
  have HS0 := Lib.hid hS
  clear hS
  rcases Int.lt_or_le r0 0 with hneg | hneg
  · skip
    go_wp2_with fail
    go_ret
    exact ⟨rfl, BW.out⟩
  have hneg' : ¬ r0 < 0 := by omega
  have HN0 := Lib.hid (sized_n' HS0.out (by omega) hneg' HL0.out)
  have HR0 := Lib.hid (sized_rows' HS0.out (by omega) hneg')
  have HSUM0 := Lib.hid (sized_sum HS0.out (by omega) hneg')
  obtain ⟨hp0, hp0'⟩ := sized_left HS0.out hneg'
  have HW0 := Lib.hid (rows_wide HR0.out)
  have hl0 : n0 ≤ 4611686018427387904 := by have := HN0.out; omega
  clear hn0
  obtain ⟨LS, hLS⟩ : ∃ LS, LS = strOfNums (suiteText xs0) := ⟨_, rfl⟩
  have HLS := Lib.hid hLS
  clear hLS
  go_wp2_with fail
  refine (toInt64SS_any A0 n0 c0 xs0 _ (h0.below BW.out) HN0.out HR0.out).mono ?_
  rintro e w1 ⟨rfl, g, b, z⟩
  have Z1 := Lib.hid (Below.size b)
  have BW := Lib.hid (below_then BW.out b)
  have S0 := Lib.hid ((tab_of_grid g).wide (lo' := w.heap.size) (hi' := w1.heap.size) (by omega) (by have := HL0.out; omega))
  have hrw0 := HL0.out
  rw [hrw0] at S0
  clear g b z hrw0
  go_wp2_with fail
  refine (specSuiteText_any _ n0 n0 xs0 _ (S0.out.rows HL0.out) hl0 HW0.out).mono ?_
  rintro e w2 ⟨rfl, b⟩
  rw [← HLS.out]
  have Z2 := Lib.hid (Below.size b)
  have S0 := Lib.hid (S0.out.below b)
  have BW := Lib.hid (below_then BW.out b)
  clear b
  clear S0
  go_wp2_with fail
  refine (toInt64SS_any A0 n0 c0 xs0 _ (h0.below BW.out) HN0.out HR0.out).mono ?_
  rintro e w3 ⟨rfl, g, b, z⟩
  have Z3 := Lib.hid (Below.size b)
  have BW := Lib.hid (below_then BW.out b)
  have X0 := Lib.hid ((tab_of_grid g).wide (lo' := w2.heap.size) (hi' := w3.heap.size) (by omega) (by have := HL0.out; omega))
  have hrw0 := HL0.out
  rw [hrw0] at X0
  clear g b z hrw0
  go_wp2_with fail
  refine (implSuiteText_any _ n0 n0 xs0 _ (hHand.on BW.out) (X0.out.rows HL0.out) hl0 HW0.out).mono ?_
  rintro e w4 ⟨rfl, b⟩
  rw [← HLS.out]
  have Z4 := Lib.hid (Below.size b)
  have X0 := Lib.hid (X0.out.below b)
  have BW := Lib.hid (below_then BW.out b)
  clear b
  go_wp2_with fail
  refine (toInt64SS_any A0 n0 c0 xs0 _ (h0.below BW.out) HN0.out HR0.out).mono ?_
  rintro e w5 ⟨rfl, g, b, z⟩
  have Z5 := Lib.hid (Below.size b)
  have X0 := Lib.hid (X0.out.below b)
  have BW := Lib.hid (below_then BW.out b)
  have Y0 := Lib.hid (g.rowsN HL0.out)
  clear g b z
  go_wp2_with fail
  refine (eqInt64SS_any _ _ n0 n0 _ _ xs0 xs0 _ (X0.out.rows HL0.out) Y0.out hl0 hl0 HW0.out HW0.out).mono ?_
  rw [sameR_t rfl]
  rintro e w6 ⟨rfl, kk, hkk⟩
  have b : Below w5.heap.size w5 w6 := by rw [hkk]; exact below_drewN' (Below.refl _ _) _
  clear hkk
  have Z6 := Lib.hid (Below.size b)
  have X0 := Lib.hid (X0.out.below b)
  have BW := Lib.hid (below_then BW.out b)
  clear b Y0
  go_wp2_with fail
  go_ret
  exact ⟨rfl, BW.out⟩

set_option maxRecDepth 100000 in
theorem lifted (os : Os) (started : os.Started) (H : Type) (enc : TypeId × Value → H) :
    ReturnsInHanded {} Tryd.checked os 4 .any (fun w args => (Rows.fnExactSuiteTextSpec.pre enc Tryd.prog Tryd.f4 [] false w args ∧ laidMetH Tryd.prog handLaid w) ∧ sizedMet enc Tryd.prog Tryd.f4 (OpenSpec.ofChange Rows.fnExactSuiteTextSpec) false w args)
      (Rows.fnExactSuiteTextSpec.post enc Tryd.prog Tryd.f4 false true false false) := by
  refine returnsInHanded_of_change_and (C := Tryd.checked) (X := fun w _ => laidMetH Tryd.prog handLaid w) (fun _ _ _ hh h => h.of_heap hh) own started (by kernel_rfl) Tryd.func4
    (ChangeSpec.witness_at (enc := enc) (C := Tryd.checked) (os := os) (X := fun w _ => laidMetH Tryd.prog handLaid w) false (handWorld os) #[.slice none 0 0] 8 rfl (by kernel_rfl) (by kernel_rfl) (by kernel_rfl) (by kernel_rfl) (by kernel_rfl) (handWorld_met os _)) ?_
  intro W base args ds gs before hval0 hW _ _ hL0 _
  have hHand := handle_of_laid hL0
  have hval : ∀ (j : Nat) t v, Tryd.f4.params[j]? = some t → args[j]? = some v → Value.okWide Tryd.prog W .any base t v := hval0
  have hW' := hW
  obtain ⟨p, q, hA0, hV0, rfl, hfz, hnd⟩ := hW
  have hV : DataW.TrodVars enc Tryd.prog W (fun _ => true) [] gs q := hV0
  have hA : DataW.TrodAll enc Tryd.prog W 0 (fun _ => true) true Tryd.f4.params.toList args.toList ds p := hA0
  rw [Tryd.params4] at hA hval
  obtain ⟨v0, vs0, d0, ds0, p0, q0, hargs, rfl, rfl, h0, r0⟩ := trodAll_cons hA
  obtain ⟨rfl, rfl, rfl⟩ := trodAll_nil r0
  obtain rfl : args = #[v0] := by cases args; simp_all
  obtain ⟨rfl, rfl⟩ := trodVars_none hV
  have lt0 : ∀ x ∈ p0, x.block < W.heap.size := by obtain ⟨m, hm⟩ := h0; exact DataW.trod_lt m _ _ _ hm
  have k0 := h0
  obtain ⟨a0, n0, c0, xs0, rfl, hr0, hn0, hw0⟩ := tab_of_trod (hval 0 22 v0 rfl rfl) h0
  clear hA0 hval0
  refine (walk a0 n0 c0 xs0 W hHand hr0 hn0 hw0).mono fun e W' ⟨he, bel⟩ => ?_
  subst he
  exact ⟨_, rfl, _, _, _, [], _, [], hW', trodAll_mk1 (shut_bool Tryd.underlying4 _), (trodAll_cons_mk (Below.trod laidOut (by kernel_rfl) (of_decide_eq_true (by kernel_rfl)) k0 bel lt0) trodAll_mk0), rfl, bel.frame _, fun h => by cases h⟩

theorem over : Rows.fnExactSuiteTextRow.holds Tryd.pinned (OpenSpec.ofChange Rows.fnExactSuiteTextSpec) :=
  OpenClaim.holds_of_wide 4 Tryd.f4 rfl rfl rfl rfl rfl rfl rfl ⟨rfl, rfl, rfl, rfl, rfl⟩ rfl rfl rfl rfl rfl (by kernel_rfl) Tryd.func4 (by kernel_rfl)
    (of_decide_eq_true (by kernel_rfl)) (by unfold Func.isWrapper; first | (rw [if_pos (by decide +kernel)]; kernel_rfl) | (rw [if_neg (by decide +kernel)]; exact ⟨rfl, rfl⟩))
    (fun os started H enc _ => lifted os started H enc)

/-- The statement. -/
theorem proved : Rows.FnExactSuiteTextCardSaid :=
  Claim7.holds_tied_plain_at .later [] [.handle] true _ true
    over (fun _ h => by cases h) (by kernel_rfl) (fun _ h => by cases h) fnExactSuiteText_row_tie rfl ⟨rfl, rfl⟩ (by kernel_rfl) rfl
    (fun f fn hf hfn => by
      obtain rfl : f = 4 := Option.some.inj ((show Tryd.prog.funcNamed "loop.example/g01102/laws.FnExactSuiteText" = some 4 by kernel_rfl).symm.trans hf) |>.symm
      obtain rfl : fn = Tryd.f4 := (Option.some.inj (Tryd.func4.symm.trans hfn)).symm
      exact ⟨by kernel_rfl, fun j t ht => by
        rw [Tryd.params4] at ht
        rcases j with _ | j
        · have h9 : t = 22 := by simpa using ht.symm
          subst h9
          exact (show Tryd.prog.wantsStandIn 22 = false by kernel_rfl)
        simp at ht⟩)
    (by kernel_rfl)
#print axioms proved
end fnExactSuiteText
end Go.Proofs.YtdhmciendlihoaaDoor
