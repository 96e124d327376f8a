/-
  FnExactMachineText: for every choice of its arguments (machine) the law returns true: both functions give the same answer and code, what the program answers is new memory each time, and no argument is written. No condition.
-/
import Derived.Test.YtogbglbmkkbhcaaDoorMachU
import Derived.Test.YtogbglbmkkbhcaaDoorData
import Derived.Test.YtogbglbmkkbhcaaDoorTie
import Derived.Test.YtogbglbmkkbhcaaDoorCards
import Derived.SevenTiedAt
import Derived.WalkSpells
namespace Go.Proofs.YtogbglbmkkbhcaaDoor
open Go.RowKit Go.Deep Go.ChangeShapes Go.WideShapes

namespace fnExactMachineText
open Go.ChangeAt

set_option maxHeartbeats 8000000 in
set_option maxRecDepth 100000 in
theorem walk (s0 q0 : Int) (A0 : Option Addr) (n0 c0 : Nat) (xs0 : List (List Int)) (B0 : Option Addr) (m0 d0 : Nat) (ys0 : List (List Int)) (w : World) (h0 : RowsAt w A0 n0 xs0) (hn0 : n0 ≤ 9223372036854775807) (hr0 : ∀ (r : Nat) (xs : List Int), xs0[r]? = some xs → xs.length ≤ 9223372036854775807) (g0 : RowsAt w B0 m0 ys0) (gn0 : m0 ≤ 9223372036854775807) (gr0 : ∀ (r : Nat) (xs : List Int), ys0[r]? = some xs → xs.length ≤ 9223372036854775807) :
    Calls Tryd.prog 7 #[.agg #[.int .i64 s0, .int .i64 q0, .slice A0 n0 c0, .slice B0 m0 d0]] w fun e w' => e = .returned (.bool true) ∧ Below w.heap.size w w' := by
  have HR0 := Lib.hid hr0
  have HL0 := Lib.hid h0.1
  clear hr0
  have GR0 := Lib.hid gr0
  have GL0 := Lib.hid g0.1
  clear gr0
  go_enter Tryd.func7, Tryd.ntmps7
  go_wp2_with fail
  obtain ⟨w1, hw1⟩ : ∃ w1, w1 = w.alloc (.cells #[.int .i64 s0, .int .i64 q0, .slice A0 n0 c0, .slice B0 m0 d0] 56) := ⟨_, rfl⟩
  rw [← hw1]
  have bw1 : Below w.heap.size w w1 := by rw [hw1]; exact (Below.refl _ _).alloc (Nat.le_refl _) _
  have P0x := Lib.hid (show Box w1 w.heap.size [.int .i64 s0, .int .i64 q0, .slice A0 n0 c0, .slice B0 m0 d0] by rw [hw1]; exact Box.new _ _ _)
  have P0L := Lib.hid (show w.heap.size < w1.heap.size by rw [hw1, World.size_alloc]; exact Nat.lt_succ_self _)
  have Z1 := Lib.hid (Below.size bw1)
  have BW := Lib.hid (show Below w.heap.size w w1 from bw1)
  have P0 := P0x
  clear hw1 bw1 P0x
  refine (szMachine_any s0 q0 A0 n0 c0 xs0 B0 m0 d0 ys0 _ _ (h0.below BW.out) hn0 HR0.out (g0.below BW.out) gn0 GR0.out (by omega) (by omega)).mono ?_
  rintro e w2 ⟨r0, rfl, hS, b⟩
  have HS0 := Lib.hid hS
  clear hS
  have Z2 := Lib.hid (Below.size b)
  have P0 := Lib.hid (P0.out.below b)
  have BW := Lib.hid (below_then BW.out b)
  clear b
  rcases Int.lt_or_le r0 0 with hneg | hneg
  · skip
    have dP00 := P0.out 0 _ rfl
    have dP01 := P0.out 1 _ rfl
    have dP02 := P0.out 2 _ rfl
    have dP03 := P0.out 3 _ rfl
    go_wp2_with fail
    go_ret
    exact ⟨rfl, BW.out⟩
  have hneg' : ¬ r0 < 0 := by omega
  have HN0 := Lib.hid (sized2_n HS0.out (by omega) hneg' HL0.out)
  have HR0 := Lib.hid (sized2_rows HS0.out (by omega) hneg' )
  have GN0 := Lib.hid (sized2_m HS0.out (by omega) hneg' GL0.out)
  have GR0 := Lib.hid (sized2_outs HS0.out (by omega) hneg' )
  have HSUM0 := Lib.hid (sized2_sum HS0.out (by omega) hneg' )
  obtain ⟨hp0, hp0'⟩ := sized2_left HS0.out hneg'
  have GW0 := Lib.hid (rows_wide GR0.out)
  have gl0 : m0 ≤ 4611686018427387904 := by have := GN0.out; omega
  clear gn0
  have HW0 := Lib.hid (rows_wide HR0.out)
  have hl0 : n0 ≤ 4611686018427387904 := by have := HN0.out; omega
  clear hn0
  obtain ⟨LS, hLS⟩ : ∃ LS, LS = strOfNums (machineText s0 q0 xs0 ys0) := ⟨_, rfl⟩
  have HLS := Lib.hid hLS
  clear hLS
  have dP00 := P0.out 0 _ rfl
  have dP01 := P0.out 1 _ rfl
  have dP02 := P0.out 2 _ rfl
  have dP03 := P0.out 3 _ rfl
  go_wp2_with fail
  refine (toMachine_any s0 q0 A0 n0 c0 xs0 B0 m0 d0 ys0 _ (h0.below BW.out) HN0.out HR0.out (g0.below BW.out) GN0.out GR0.out).mono ?_
  rintro e w3 ⟨rfl, g, b⟩
  clear dP00 dP01 dP02 dP03
  have Z3 := Lib.hid (Below.size b)
  have P0 := Lib.hid (P0.out.below b)
  have BW := Lib.hid (below_then BW.out b)
  have S0 := Lib.hid g
  clear g b
  have dP00 := P0.out 0 _ rfl
  have dP01 := P0.out 1 _ rfl
  have dP02 := P0.out 2 _ rfl
  have dP03 := P0.out 3 _ rfl
  go_wp2_with fail
  refine (specMachineText_any s0 q0 _ n0 n0 xs0 _ m0 m0 ys0 _ (S0.out.rows HL0.out) hl0 HW0.out (S0.out.outs GL0.out) gl0 GW0.out).mono ?_
  clear dP00 dP01 dP02 dP03
  rintro e w4 ⟨rfl, b⟩
  rw [← HLS.out]
  have Z4 := Lib.hid (Below.size b)
  have P0 := Lib.hid (P0.out.below b)
  have S0 := Lib.hid (S0.out.below b)
  have BW := Lib.hid (below_then BW.out b)
  clear b
  clear S0
  have dP00 := P0.out 0 _ rfl
  have dP01 := P0.out 1 _ rfl
  have dP02 := P0.out 2 _ rfl
  have dP03 := P0.out 3 _ rfl
  go_wp2_with fail
  refine (toMachine_any s0 q0 A0 n0 c0 xs0 B0 m0 d0 ys0 _ (h0.below BW.out) HN0.out HR0.out (g0.below BW.out) GN0.out GR0.out).mono ?_
  rintro e w5 ⟨rfl, g, b⟩
  clear dP00 dP01 dP02 dP03
  have Z5 := Lib.hid (Below.size b)
  have P0 := Lib.hid (P0.out.below b)
  have BW := Lib.hid (below_then BW.out b)
  have X0 := Lib.hid g
  clear g b
  have qP0 := P0.out.below ((Below.refl _ w5).alloc (Nat.le_refl _) (.cells #[.int .i64 s0, .int .i64 q0, .slice (some ⟨w4.heap.size + 3, 0, none⟩) n0 n0, .slice (some ⟨w4.heap.size + 4 + n0, 0, none⟩) m0 m0] 59))
  have dP00 := qP0 0 _ rfl
  have dP01 := qP0 1 _ rfl
  have dP02 := qP0 2 _ rfl
  have dP03 := qP0 3 _ rfl
  clear qP0
  go_wp2_with fail
  clear dP00 dP01 dP02 dP03
  obtain ⟨w6, hw6⟩ : ∃ w6, w6 = w5.alloc (.cells #[.int .i64 s0, .int .i64 q0, .slice (some ⟨w4.heap.size + 3, 0, none⟩) n0 n0, .slice (some ⟨w4.heap.size + 4 + n0, 0, none⟩) m0 m0] 59) := ⟨_, rfl⟩
  rw [← hw6]
  have bw6 : Below w5.heap.size w5 w6 := by rw [hw6]; exact (Below.refl _ _).alloc (Nat.le_refl _) _
  have XB0x := Lib.hid (show Box w6 w5.heap.size [.int .i64 s0, .int .i64 q0, .slice (some ⟨w4.heap.size + 3, 0, none⟩) n0 n0, .slice (some ⟨w4.heap.size + 4 + n0, 0, none⟩) m0 m0] by rw [hw6]; exact Box.new _ _ _)
  have XB0L := Lib.hid (show w5.heap.size < w6.heap.size by rw [hw6, World.size_alloc]; exact Nat.lt_succ_self _)
  have Z6 := Lib.hid (Below.size bw6)
  have P0 := Lib.hid (P0.out.below bw6)
  have X0 := Lib.hid (X0.out.below bw6)
  have BW := Lib.hid (below_then BW.out bw6)
  have XB0 := XB0x
  clear hw6 bw6 XB0x
  refine (implMachineText_any s0 q0 _ n0 n0 xs0 _ m0 m0 ys0 _ (X0.out.rows HL0.out) hl0 HW0.out (X0.out.outs GL0.out) gl0 GW0.out).mono ?_
  rintro e w7 ⟨rfl, b⟩
  rw [← HLS.out]
  have Z7 := Lib.hid (Below.size b)
  have P0 := Lib.hid (P0.out.below b)
  have X0 := Lib.hid (X0.out.below b)
  have XB0 := Lib.hid (XB0.out.below b)
  have BW := Lib.hid (below_then BW.out b)
  clear b
  have rP00 := P0.out.rule (j := 0) rfl
  have rP01 := P0.out.rule (j := 1) rfl
  have rP02 := P0.out.rule (j := 2) rfl
  have rP03 := P0.out.rule (j := 3) rfl
  have rXB00 := XB0.out.rule (j := 0) rfl
  have rXB01 := XB0.out.rule (j := 1) rfl
  have rXB02 := XB0.out.rule (j := 2) rfl
  have rXB03 := XB0.out.rule (j := 3) rfl
  have c9 : Below w7.heap.size w7 w7 := Below.refl _ _
  have dP00 := P0.out 0 _ rfl
  have dP01 := P0.out 1 _ rfl
  have dP02 := P0.out 2 _ rfl
  have dP03 := P0.out 3 _ rfl
  have dXB00 := XB0.out 0 _ rfl
  have dXB01 := XB0.out 1 _ rfl
  have dXB02 := XB0.out 2 _ rfl
  have dXB03 := XB0.out 3 _ rfl
  go_wp2_with fail
  clear dP00 dP01 dP02 dP03 dXB00 dXB01 dXB02 dXB03
  go_region_held3 (fun w' => Below w7.heap.size w7 w') (first | assumption | exact below_drewN' (by assumption) _)
    (first
      | (go_at_call 30; refine (toMachine_any s0 q0 A0 n0 c0 xs0 B0 m0 d0 ys0 _ (h0.below (below_then BW.out (by first | assumption | exact below_drewN' (by assumption) _))) HN0.out HR0.out (g0.below (below_then BW.out (by first | assumption | exact below_drewN' (by assumption) _))) GN0.out GR0.out).mono ?_; rintro e wa ⟨rfl, ga, ba⟩; have ca : Below w7.heap.size w7 wa := below_then (by first | assumption | exact below_drewN' (by assumption) _) ba; have GA := Lib.hid ga; clear ga ba)
      | (go_at_call 32; refine (eqMachine_t s0 q0 _ _ n0 n0 _ _ xs0 _ _ m0 m0 _ _ ys0 _ ((X0.out.below ca).rows HL0.out) (GA.out.rows HL0.out) hl0 hl0 HW0.out ((X0.out.below ca).outs GL0.out) (GA.out.outs GL0.out) gl0 gl0 GW0.out).mono ?_; rintro e w8 ⟨rfl, be⟩; have ce : Below w7.heap.size w7 w8 := below_then ca be; clear be))
  clear rP00 rP01 rP02 rP03 rXB00 rXB01 rXB02 rXB03 c9 ca GA
  have Z8 := Lib.hid (Below.size ce)
  have P0 := Lib.hid (P0.out.below ce)
  have X0 := Lib.hid (X0.out.below ce)
  have XB0 := Lib.hid (XB0.out.below ce)
  have BW := Lib.hid (below_then BW.out ce)
  clear ce
  go_wp2_with fail
  go_ret
  exact ⟨rfl, BW.out⟩

set_option maxRecDepth 100000 in
theorem lifted (os : Os) (started : os.Started) (H : Type) (enc : TypeId × Value → H) :
    ReturnsInHanded {} Tryd.checked os 7 .any (fun w args => (Rows.fnExactMachineTextSpec.pre enc Tryd.prog Tryd.f7 [] false w args ∧ laidMetH Tryd.prog dataLaid w) ∧ sizedMet enc Tryd.prog Tryd.f7 (OpenSpec.ofChange Rows.fnExactMachineTextSpec) false w args)
      (Rows.fnExactMachineTextSpec.post enc Tryd.prog Tryd.f7 false true false false) := by
  refine returnsInHanded_of_change_and (C := Tryd.checked) (X := fun w _ => laidMetH Tryd.prog dataLaid w) (fun _ _ _ hh h => h.of_heap hh) own started (by kernel_rfl) Tryd.func7
    (ChangeSpec.witness_shaped (enc := enc) (C := Tryd.checked) (os := os) (X := fun w _ => laidMetH Tryd.prog dataLaid w) false (World.doorLaid Tryd.prog 400 os) #[.agg #[.int .i64 0, .int .i64 0, .slice none 0 0, .slice none 0 0]] 8 rfl (World.shaped_of_RefB (by kernel_rfl) (by kernel_rfl)) (by kernel_rfl) (by kernel_rfl) (by kernel_rfl) (data_met os _)) ?_
  intro W base args ds gs before hval0 hW _ _ hL0 _
  have hval : ∀ (j : Nat) t v, Tryd.f7.params[j]? = some t → args[j]? = some v → Value.okWide Tryd.prog W .any base t v := hval0
  have hW' := hW
  obtain ⟨p, q, hA0, hV0, rfl, hfz, hnd⟩ := hW
  have hV : DataW.TrodVars enc Tryd.prog W (fun _ => true) [] gs q := hV0
  have hA : DataW.TrodAll enc Tryd.prog W 0 (fun _ => true) true Tryd.f7.params.toList args.toList ds p := hA0
  rw [Tryd.params7] at hA hval
  obtain ⟨v0, vs0, d0, ds0, p0, q0, hargs, rfl, rfl, h0, r0⟩ := trodAll_cons hA
  obtain ⟨rfl, rfl, rfl⟩ := trodAll_nil r0
  obtain rfl : args = #[v0] := by cases args; simp_all
  obtain ⟨rfl, rfl⟩ := trodVars_none hV
  have lt0 : ∀ x ∈ p0, x.block < W.heap.size := by obtain ⟨m, hm⟩ := h0; exact DataW.trod_lt m _ _ _ hm
  have k0 := h0
  obtain ⟨s0, q0, a0, n0, c0, xs0, b0, m0, e0, ys0, rfl, hr0, hn0, hw0, gr0, gn0, gw0⟩ := mach_of_trod (hval 0 56 v0 rfl rfl) h0
  clear hA0 hval0
  refine (walk s0 q0 a0 n0 c0 xs0 b0 m0 e0 ys0 W hr0 hn0 hw0 gr0 gn0 gw0).mono fun e W' ⟨he, bel⟩ => ?_
  subst he
  exact ⟨_, rfl, _, _, _, [], _, [], hW', trodAll_mk1 (shut_bool Tryd.underlying4 _), (trodAll_cons_mk (Below.trod laidOut (by kernel_rfl) (of_decide_eq_true (by kernel_rfl)) k0 bel lt0) trodAll_mk0), rfl, bel.frame _, fun h => by cases h⟩

theorem over : Rows.fnExactMachineTextRow.holds Tryd.pinned (OpenSpec.ofChange Rows.fnExactMachineTextSpec) :=
  OpenClaim.holds_of_wide 7 Tryd.f7 rfl rfl rfl rfl rfl rfl rfl ⟨rfl, rfl, rfl, rfl, rfl⟩ rfl rfl rfl rfl rfl (by kernel_rfl) Tryd.func7 (by kernel_rfl)
    (of_decide_eq_true (by kernel_rfl)) (by unfold Func.isWrapper; first | (rw [if_pos (by decide +kernel)]; kernel_rfl) | (rw [if_neg (by decide +kernel)]; exact ⟨rfl, rfl⟩))
    (fun os started H enc _ => lifted os started H enc)

/-- The statement. -/
theorem proved : Rows.FnExactMachineTextCardSaid :=
  Claim7.holds_tied_plain_at .later [] [.data, .data, .data] true _ false
    over (fun _ h => by cases h) (by kernel_rfl) (fun _ h => by cases h) fnExactMachineText_row_tie rfl ⟨rfl, rfl⟩ (by kernel_rfl) rfl
    (fun f fn hf hfn => by
      obtain rfl : f = 7 := Option.some.inj ((show Tryd.prog.funcNamed "loop.example/g01102/laws.FnExactMachineText" = some 7 by kernel_rfl).symm.trans hf) |>.symm
      obtain rfl : fn = Tryd.f7 := (Option.some.inj (Tryd.func7.symm.trans hfn)).symm
      exact ⟨by kernel_rfl, fun j t ht => by
        rw [Tryd.params7] at ht
        rcases j with _ | j
        · have h9 : t = 56 := by simpa using ht.symm
          subst h9
          exact (show Tryd.prog.wantsStandIn 56 = false by kernel_rfl)
        simp at ht⟩)
    (by kernel_rfl)
#print axioms proved
end fnExactMachineText
end Go.Proofs.YtogbglbmkkbhcaaDoor
