/-
  Which automata are valid: the contracts of l01Map, l01Ok, isStateList and of both ValidAutomaton.
-/
import Derived.Test.YtcglncepmieaaaaFill
import Derived.Lib.SmallJoins
namespace Go.Proofs.Ytcglncepmieaaaa
open Go.RowKit Go.Deep Go.ChangeShapes Go.WideShapes

def mapB (s : Int) (xs : List Int) : Bool := xs.all (belowB s) && decide ((xs.length : Int) = s)
def okA (s : Int) (xss : List (List Int)) : Bool := inB 1 10 s && inB 1 3 (xss.length : Int) && xss.all (mapB s)

theorem mapB_t {s : Int} {xs : List Int} (h : xs.all (belowB s) = true) (h' : (xs.length : Int) = s) : mapB s xs = true := by simp [mapB, h, h']
theorem mapB_f {s : Int} {xs : List Int} (h : ¬ (xs.length : Int) = s) : mapB s xs = false := by simp [mapB, h]
theorem mapB_g {s : Int} {xs : List Int} (h : xs.all (belowB s) = false) : mapB s xs = false := by simp [mapB, h]
theorem okA_t {s : Int} {xss : List (List Int)} (h1 : inB 1 10 s = true) (h2 : inB 1 3 (xss.length : Int) = true) (h3 : xss.all (mapB s) = true) : okA s xss = true := by simp [okA, h1, h2, h3]
theorem okA_1 {s : Int} {xss : List (List Int)} (h : inB 1 10 s = false) : okA s xss = false := by simp [okA, h]
theorem okA_2 {s : Int} {xss : List (List Int)} (h : inB 1 3 (xss.length : Int) = false) : okA s xss = false := by simp [okA, h]
theorem okA_3 {s : Int} {xss : List (List Int)} (h : xss.all (mapB s) = false) : okA s xss = false := by simp [okA, h]
theorem allR_snoc {p : List Int → Bool} {xss : List (List Int)} {k : Nat} {x : List Int} (h : (xss.take k).all p = true) (hx : xss[k]? = some x) (hp : p x = true) : (xss.take (k + 1)).all p = true := by
  rw [List.take_add_one, hx]
  simp [hp]
  simpa using h
theorem allR_stop {p : List Int → Bool} {xss : List (List Int)} {k : Nat} {x : List Int} (hx : xss[k]? = some x) (hp : p x = false) : xss.all p = false := by
  rw [List.all_eq_false]
  exact ⟨x, List.mem_of_getElem? hx, by simp [hp]⟩
theorem allR_done {p : List Int → Bool} {xss : List (List Int)} {n : Nat} (hn : xss.length = n) (h : (xss.take n).all p = true) : xss.all p = true := by
  subst hn
  rwa [List.take_length] at h

theorem quiet_eq {P : Program} {f : FuncId} {args : Array Value} {w : World} {n : Nat} {v : Value} (h : Calls P f args (w.drewN n) fun e w' => e = .returned v ∧ w.drewN n = w') :
    Calls P f args (w.drewN n) fun e w'' => e = .returned v ∧ ∃ m, w'' = w.drewN m := h.mono fun _ _ hh => ⟨hh.1, n, hh.2.symm⟩

theorem l01Map_any (A : Option Addr) (n cap : Nat) (xs : List Int) (s : Int) (w : World) (h : NumsAt w A n xs) (hn : n ≤ 4611686018427387904) (h1 : 1 ≤ s) (h2 : s ≤ 10) :
    Calls Try.prog 95 #[.slice A n cap, .int .i64 s] w fun e w' => e = .returned (.bool (mapB s xs)) ∧ w = w' := by
  have HL := Lib.hid h.1
  by_cases hs : (n : Int) = s
  · have hs' : ((n : Int) == s) = true := by rw [beq_iff_eq]; exact hs
    have HS := Lib.hid hs
    clear hs
    go_enter Try.func95, Try.ntmps95
    go_wp2
    go_loop [5] (fun i => ∃ k : Nat, k ≤ n ∧ i = .int .i64 k ∧ (xs.take k).all (belowB s) = true) (fun i => n - (intOf i).toNat)
    case atStart => exact ⟨0, Nat.zero_le _, rfl, by simp⟩
    case round =>
      obtain ⟨k, hk, rfl, hall⟩ := hrel
      have HA := Lib.hid hall
      clear hall
      by_cases hlt : k < n
      · obtain ⟨x, b, off, hx, rfl, hc⟩ := h.at_ hlt
        have HX := Lib.hid hx
        clear hx
        have hk0 : (0 : Int) ≤ (k : Int) := by omega
        have hkn : (k : Int) < (n : Int) := by omega
        rcases hb : belowB s x with _ | _
        · have hin : inB 0 (s - 1) x = false := by rw [← belowB_inB]; exact hb
          go_wp2_with (go_at_call 94; refine (l00In_any _ _ _ _).mono ?_; rintro e w' ⟨rfl, rfl⟩)
          go_ret
          exact ⟨ret_bool (mapB_g (all_stop HX.out hb)).symm, rfl⟩
        · have hin : inB 0 (s - 1) x = true := by rw [← belowB_inB]; exact hb
          go_wp2_with (go_at_call 94; refine (l00In_any _ _ _ _).mono ?_; rintro e w' ⟨rfl, rfl⟩)
          go_round
          case rel => exact ⟨k + 1, by omega, by go_num, all_snoc HA.out HX.out hb⟩
          case measure => simp [intOf]; omega
      · go_wp2
        go_ret
        have hkn : k = n := by omega
        subst hkn
        exact ⟨ret_bool (mapB_t (all_done HL.out HA.out) (by rw [HL.out]; exact HS.out)).symm, rfl⟩
  · have hs' : ((n : Int) == s) = false := by rw [beq_eq_false_iff_ne]; exact hs
    have HS := Lib.hid hs
    clear hs
    go_enter Try.func95, Try.ntmps95
    go_wp2
    go_loop [5] (fun i => ∃ k : Nat, k ≤ n ∧ i = .int .i64 k) (fun i => n - (intOf i).toNat)
    case atStart => exact ⟨0, Nat.zero_le _, rfl⟩
    case round =>
      obtain ⟨k, hk, rfl⟩ := hrel
      by_cases hlt : k < n
      · obtain ⟨x, b, off, hx, rfl, hc⟩ := h.at_ hlt
        have HX := Lib.hid hx
        clear hx
        have hk0 : (0 : Int) ≤ (k : Int) := by omega
        have hkn : (k : Int) < (n : Int) := by omega
        rcases hb : belowB s x with _ | _
        · have hin : inB 0 (s - 1) x = false := by rw [← belowB_inB]; exact hb
          go_wp2_with (go_at_call 94; refine (l00In_any _ _ _ _).mono ?_; rintro e w' ⟨rfl, rfl⟩)
          go_ret
          exact ⟨ret_bool (mapB_g (all_stop HX.out hb)).symm, rfl⟩
        · have hin : inB 0 (s - 1) x = true := by rw [← belowB_inB]; exact hb
          go_wp2_with (go_at_call 94; refine (l00In_any _ _ _ _).mono ?_; rintro e w' ⟨rfl, rfl⟩)
          go_round
          case rel => exact ⟨k + 1, by omega, by go_num⟩
          case measure => simp [intOf]; omega
      · go_wp2
        go_ret
        exact ⟨ret_bool (mapB_f (by rw [HL.out]; exact HS.out)).symm, rfl⟩

set_option maxHeartbeats 1000000 in
theorem l01Ok_any (p : Nat) (s : Int) (A : Option Addr) (n cap : Nat) (xss : List (List Int)) (w : World) (c0 : w.cell? ⟨p, 0, none⟩ = some (.int .i64 s)) (c1 : w.cell? ⟨p, 1, none⟩ = some (.slice A n cap)) (h : RowsAt w A n xss) (hn : n ≤ 4611686018427387904)
    (hrows : ∀ (r : Nat) (xs : List Int), xss[r]? = some xs → xs.length ≤ 4611686018427387904) :
    Calls Try.prog 51 #[.pointer (some ⟨p, 0, none⟩)] w fun e w' => e = .returned (.bool (okA s xss)) ∧ ∃ m, w' = w.drewN m := by
  have HR := Lib.hid hrows
  have HL := Lib.hid h.1
  clear hrows
  rcases hs : inB 1 10 s with _ | _
  · go_enter Try.func51, Try.ntmps51
    go_wp2_with (go_at_call 94; refine (l00In_any _ _ _ _).mono ?_; rintro e w' ⟨rfl, rfl⟩)
    go_ret
    exact ⟨ret_bool (okA_1 hs).symm, 0, rfl⟩
  · have hs' : 1 ≤ s ∧ s ≤ 10 := by simpa [inB] using hs
    have hs1 : 1 ≤ s := hs'.1
    have hs2 : s ≤ 10 := hs'.2
    clear hs'
    rcases hl : inB 1 3 (n : Int) with _ | _
    · go_enter Try.func51, Try.ntmps51
      go_wp2_with (go_at_call 94; refine (l00In_any _ _ _ _).mono ?_; rintro e w' ⟨rfl, rfl⟩)
      go_ret
      exact ⟨ret_bool (okA_2 (by rw [HL.out]; exact hl)).symm, 0, rfl⟩
    · go_enter Try.func51, Try.ntmps51
      go_wp2_with (go_at_call 94; refine (l00In_any _ _ _ _).mono ?_; rintro e w' ⟨rfl, rfl⟩)
      go_loopw [3] (fun i wr => ∃ k m : Nat, k ≤ n ∧ i = .int .i64 k ∧ wr = w.drewN m ∧ (xss.take k).all (mapB s) = true) (fun i _ => n - (intOf i).toNat)
      case atStart => exact ⟨0, 0, Nat.zero_le _, rfl, rfl, by simp⟩
      case round =>
        obtain ⟨k, m, hk, rfl, hw, hall⟩ := hrel
        have HA := Lib.hid hall
        have HW := Lib.hid hw
        have h1 : RowsAt wr A n xss := by rw [hw]; exact h.drewN m
        have d0 : wr.cell? ⟨p, 0, none⟩ = some (.int .i64 s) := by rw [hw]; exact c0
        have d1 : wr.cell? ⟨p, 1, none⟩ = some (.slice A n cap) := by rw [hw]; exact c1
        clear hall hw
        by_cases hlt : k < n
        · obtain ⟨xs, b, off, A1, c2, hx, rfl, hc, hnum⟩ := h1.at_ hlt
          have HX := Lib.hid hx
          have HN := Lib.hid hnum
          have hk0 : (0 : Int) ≤ (k : Int) := by omega
          have hkn : (k : Int) < (n : Int) := by omega
          clear hx hnum h1
          rcases hm : mapB s xs with _ | _
          · go_wp2_with fail
            go_quiet ((go_at_call 95; exact quiet_eq (l01Map_any _ _ _ _ _ _ (HN.out.drewN _) (HR.out _ _ HX.out) hs1 hs2)))
            go_wp2_with fail
            go_ret
            exact ⟨ret_bool (okA_3 (allR_stop HX.out hm)).symm, _, by rw [HW.out, World.drewN_drewN]⟩
          · go_wp2_with fail
            go_quiet ((go_at_call 95; exact quiet_eq (l01Map_any _ _ _ _ _ _ (HN.out.drewN _) (HR.out _ _ HX.out) hs1 hs2)))
            go_wp2_with fail
            go_roundw
            case rel => exact ⟨k + 1, _, by omega, by go_num, by rw [HW.out, World.drewN_drewN], allR_snoc HA.out HX.out hm⟩
            case measure => simp [intOf]; omega
        · go_wp2
          go_ret
          have hkn : k = n := by omega
          subst hkn
          exact ⟨ret_bool (okA_t hs (by rw [HL.out]; exact hl) (allR_done HL.out HA.out)).symm, _, HW.out⟩

set_option maxRecDepth 100000 in
theorem isRightState_any (b : Nat) (s x : Int) (w : World) (c0 : w.cell? ⟨b, 0, none⟩ = some (.int .i64 s)) :
    Calls Try.prog 98 #[.int .i64 x, .pointer (some ⟨b, 0, none⟩)] w fun e w' => e = .returned (.bool (belowB s x)) ∧ w = w' := by
  go_enter Try.func98, Try.ntmps98
  go_wp2_with (go_at_call 82; refine (isBelow_any _ _ _).mono ?_; rintro e w' ⟨rfl, rfl⟩)
  go_ret
  exact ⟨rfl, rfl⟩

set_option maxRecDepth 100000 in
set_option maxHeartbeats 1000000 in
theorem implValid_any (s : Int) (A : Option Addr) (n cap : Nat) (xss : List (List Int)) (w : World) (h : RowsAt w A n xss) (hn : n ≤ 4611686018427387904)
    (hrows : ∀ (r : Nat) (xs : List Int), xss[r]? = some xs → xs.length ≤ 4611686018427387904) :
    Calls Try.prog 54 #[.agg #[.int .i64 s, .slice A n cap]] w fun e w' => e = .returned (.bool (okA s xss)) ∧ Below w.heap.size w w' := by
  have hmf : ∀ (fn : Fn) (first cap : Array Value) (w : World), (Instr.makeFunc fn first cap).run Try.prog w = .ok (.func fn first cap) w := fun _ _ _ _ => rfl
  have HR := Lib.hid hrows
  clear hrows
  have b0 : Below w.heap.size w (w.alloc (.cells #[.int .i64 s, .slice A n cap] 28)) := (Below.refl _ _).alloc (Nat.le_refl _) _
  have x0 : (w.alloc (.cells #[.int .i64 s, .slice A n cap] 28)).cell? ⟨w.heap.size, 0, none⟩ = some (.int .i64 s) := by go_cell
  have H0 := Lib.hid (h.below b0)
  have B0 := Lib.hid b0
  have X0 := Lib.hid x0
  clear b0 x0
  go_enter Try.func54, Try.ntmps54
  go_wp2_with fail
  refine (isFilled_any 98 #[.pointer (some ⟨w.heap.size, 0, none⟩)] (belowB s) s A n cap xss _ H0.out hn HR.out (fun _ _ => rfl) (fun x _ W' hb => (isRightState_any w.heap.size s x W' ((hb.cell (cell_lt X0.out)).trans X0.out)).mono fun e w' he => ⟨he.1, by rw [← he.2]; exact Below.refl _ _⟩)).mono ?_
  rintro e w1 ⟨rfl, b1⟩
  have HB := Lib.hid (below_then B0.out b1)
  clear b1
  go_wp2_with fail
  go_ret
  exact ⟨rfl, HB.out⟩

/-! ### Arguments, and what szAutomaton tells of them -/
set_option maxRecDepth 100000 in
theorem auto_of_trod {H : Type} {enc : TypeId × Value → H} {W : World} {base b0 : Nat} {held : Bool} {r : Reach} {v : Value} {d : DataW H} {p : List MemPlace} (hv : Value.okWide Try.prog W r b0 24 v)
    (h : DataW.Trod enc Try.prog W base (fun _ => true) held 24 v d p) :
    ∃ s A n c xss, v = .agg #[.int .i64 s, .slice A n c] ∧ RowsAt W A n xss ∧ n ≤ 9223372036854775807 ∧ (∀ (r : Nat) (xs : List Int), xss[r]? = some xs → xs.length ≤ 9223372036854775807) := by
  obtain ⟨v0, v1, y0, y1, m, rfl, _, _, h0, h1⟩ := Go.Joins.open_agg2 Try.underlying24 (by kernel_rfl) cells_auto hv h
  obtain ⟨s, e0, _, _⟩ := DataW.trod_int Try.underlying2 h0
  obtain ⟨A, n, c, xss, e1, hr⟩ := rows_of_trod h1
  simp only [List.cons.injEq, and_true] at e0 e1
  subst e0 e1
  exact ⟨s, A, n, c, xss, rfl, hr⟩

theorem sized_n {xss : List (List Int)} {r : Int} {n : Nat} (h : SizedTo xss 1048576 r) (hr : ¬ r < 0) (hn : xss.length = n) : n ≤ 1048576 := by
  rcases h with h | ⟨_, h⟩ <;> omega
theorem sized_rows {xss : List (List Int)} {r : Int} (h : SizedTo xss 1048576 r) (hr : ¬ r < 0) : ∀ (k : Nat) (xs : List Int), xss[k]? = some xs → xs.length ≤ 1048576 := by
  intro k xs hx
  have := len_le_sum hx
  rcases h with h | ⟨_, h⟩ <;> omega
theorem sized_left {xss : List (List Int)} {left r : Int} (h : SizedTo xss left r) (hr : ¬ r < 0) : 0 ≤ r ∧ r ≤ left := by
  rcases h with h | ⟨_, h⟩ <;> omega
theorem sized_n' {xss : List (List Int)} {left r : Int} {n : Nat} (h : SizedTo xss left r) (hl : left ≤ 1048576) (hr : ¬ r < 0) (hn : xss.length = n) : n ≤ 1048576 := by
  rcases h with h | ⟨_, h⟩ <;> omega
theorem sized_rows' {xss : List (List Int)} {left r : Int} (h : SizedTo xss left r) (hl : left ≤ 1048576) (hr : ¬ r < 0) : ∀ (k : Nat) (xs : List Int), xss[k]? = some xs → xs.length ≤ 1048576 := by
  intro k xs hx
  have := len_le_sum hx
  rcases h with h | ⟨_, h⟩ <;> omega

theorem rows_wide {xss : List (List Int)} (h : ∀ (k : Nat) (xs : List Int), xss[k]? = some xs → xs.length ≤ 1048576) : ∀ (k : Nat) (xs : List Int), xss[k]? = some xs → xs.length ≤ 4611686018427387904 :=
  fun k xs hx => by have := h k xs hx; omega

theorem Grid.rowsN {w : World} {g n : Nat} {xss : List (List Int)} (h : Grid w g xss) (hl : xss.length = n) : RowsAt w (some ⟨g, 0, none⟩) n xss := by subst hl; exact h.rows

end Go.Proofs.Ytcglncepmieaaaa
