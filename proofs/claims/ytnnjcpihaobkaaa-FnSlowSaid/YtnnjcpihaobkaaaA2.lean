/-
  What the laws of the first kind draw from: bytes; the contracts of a2Long and a2At.
-/
import Derived.Test.YtnnjcpihaobkaaaHelp
namespace Go.Proofs.Ytnnjcpihaobkaaa
open Go.RowKit Go.Deep Go.ChangeShapes Go.WideShapes

/-- Bytes in memory. -/
def BytesAt (w : World) (A : Option Addr) (n : Nat) (xs : List Int) : Prop :=
  xs.length = n ∧ ∀ k x, xs[k]? = some x → (0 ≤ x ∧ x < 256) ∧ ∃ b off, A = some ⟨b, off, none⟩ ∧ w.cell? ⟨b, off + k, none⟩ = some (.int .u8 x)
theorem BytesAt.below {w w' : World} {A : Option Addr} {n : Nat} {xs : List Int} (h : BytesAt w A n xs) (hb : Below w.heap.size w w') : BytesAt w' A n xs :=
  ⟨h.1, fun k x hx => by
    obtain ⟨h1, b, off, e, hc⟩ := h.2 k x hx
    exact ⟨h1, b, off, e, (hb.cell (cell_lt hc)).trans hc⟩⟩
theorem BytesAt.at_ {w : World} {A : Option Addr} {n : Nat} {xs : List Int} (h : BytesAt w A n xs) {k : Nat} (hk : k < n) :
    ∃ x b off, xs[k]? = some x ∧ A = some ⟨b, off, none⟩ ∧ w.cell? ⟨b, off + k, none⟩ = some (.int .u8 x) ∧ 0 ≤ x ∧ x < 256 := by
  have hl : k < xs.length := by rw [h.1]; exact hk
  obtain ⟨h1, b, off, e, hc⟩ := h.2 k _ (List.getElem?_eq_getElem hl)
  exact ⟨_, b, off, List.getElem?_eq_getElem hl, e, hc, h1⟩
theorem cells_u8 : Try.prog.cellsOf 5 = 1 := by kernel_rfl
set_option maxRecDepth 100000 in
theorem bytes_of_trod {H : Type} {enc : TypeId × Value → H} {W : World} {base b0 : Nat} {held : Bool} {r : Reach} {v : Value} {d : DataW H} {p : List MemPlace} (hv : Value.okWide Try.prog W r b0 22 v)
    (h : DataW.Trod enc Try.prog W base (fun _ => true) held 22 v d p) : ∃ A n c xs, v = .slice A n c ∧ BytesAt W A n xs ∧ n ≤ maxLen := by
  obtain ⟨A, n, c, rfl⟩ := okWide_slice Try.underlying22 hv
  obtain ⟨fuel, hf⟩ := h
  rcases open_ints Try.underlying22 Try.underlying5 cells_u8 hf with ⟨hcs, _⟩ | ⟨x, l, c', zs, hcs, _, hl, hm, hz, _, hcell, hwz⟩
  · simp [Value.cells] at hcs
    obtain ⟨rfl, rfl, rfl⟩ := hcs
    exact ⟨_, _, _, [], rfl, ⟨rfl, fun k x hx => by simp at hx⟩, Nat.zero_le _⟩
  · simp [Value.cells] at hcs
    obtain ⟨rfl, rfl, rfl⟩ := hcs
    simp only [if_true] at hz
    refine ⟨_, _, _, zs.take n, rfl, ⟨by rw [List.length_take]; omega, fun k y hy => ?_⟩, Nat.le_trans hl hm⟩
    have hk : k < n := by
      rcases Nat.lt_or_ge k n with a | a
      · exact a
      · rw [List.getElem?_eq_none (by rw [List.length_take]; omega)] at hy; cases hy
    have hc := hcell k (by omega)
    obtain ⟨b, off, spot⟩ := x
    have hspot : spot = none := by
      have h0 := hcell 0 (by omega)
      simpa [Addr.add] using World.cell?_spot h0
    subst hspot
    rw [List.getElem?_take, if_pos hk] at hy
    have hw := hwz y (List.mem_of_getElem? hy)
    rw [List.getD_eq_getElem?_getD, hy] at hc
    have hr : 0 ≤ y ∧ y < 256 := by
      simp only [Lit.wf, Bool.and_eq_true, decide_eq_true_eq] at hw
      have h1 : IntKind.u8.min = 0 := rfl
      have h2 : IntKind.u8.max = 255 := rfl
      omega
    rw [Addr.add_lit] at hc
    exact ⟨hr, b, off, rfl, by rw [hc]; simp⟩

set_option maxRecDepth 100000 in
theorem a2Long_any (A B : Option Addr) (n c m d : Nat) (w : World) :
    Calls Try.prog 7 #[.slice A n c, .slice B m d] w fun e w' => e = .returned (.bool (decide (3000 < n) || decide (3000 < m))) ∧ w' = w := by
  by_cases h : 3000 < n
  · have h1 : decide ((3000 : Int) < (n : Int)) = true := by simp; omega
    go_enter Try.func7, Try.ntmps7
    go_wp2_with fail
    go_ret
    exact ⟨by simp [h], rfl⟩
  · have h1 : decide ((3000 : Int) < (n : Int)) = false := by simp; omega
    go_enter Try.func7, Try.ntmps7
    go_wp2_with fail
    go_ret
    exact ⟨ret_bool (by simp [h]; omega), rfl⟩

/-- What a2At answers. -/
def a2AtF (xs : List Int) (k : Nat) (n : Int) : Int := if k < xs.length ∧ 1 ≤ n then xs.getD k 0 % n else 0
theorem a2AtF_range {xs : List Int} {k : Nat} {n : Int} (hn : 1 ≤ n) : 0 ≤ a2AtF xs k n ∧ a2AtF xs k n < n := by
  unfold a2AtF
  split
  · exact ⟨Int.emod_nonneg _ (by omega), Int.emod_lt_of_pos _ (by omega)⟩
  · omega

set_option maxRecDepth 100000 in
theorem a2At_any (A : Option Addr) (n c k : Nat) (xs : List Int) (m : Int) (w : World) (h : BytesAt w A n xs) (hm : 1 ≤ m) (hm2 : m ≤ 4611686018427387904) (hk : k ≤ 4611686018427387904) :
    Calls Try.prog 8 #[.slice A n c, .int .i64 (k : Int), .int .i64 m] w fun e w' => e = .returned (.int .i64 (a2AtF xs k m)) ∧ w' = w := by
  have HL := Lib.hid h.1
  by_cases hlt : k < n
  · obtain ⟨x, b, off, hx, rfl, hc, hx0, hx1⟩ := h.at_ hlt
    have h1 : ¬ (n : Int) ≤ (k : Int) := by omega
    have h2 : ¬ m < 1 := by omega
    have h3 : (0 : Int) ≤ (k : Int) := by omega
    have h4 : (k : Int) < (n : Int) := by omega
    have h5 : IntKind.i64.wrap x = x := IntWalk.i64_in _ (by omega)
    have h6 : ¬ m = 0 := by omega
    have HX := Lib.hid hx
    clear h hx
    go_enter Try.func8, Try.ntmps8
    go_wp2_with fail
    go_ret
    refine ⟨ret_int ?_, rfl⟩
    unfold a2AtF
    rw [if_pos ⟨by rw [HL.out]; exact hlt, hm⟩, List.getD_eq_getElem?_getD, HX.out]
    rfl
  · have h1 : (n : Int) ≤ (k : Int) := by omega
    go_enter Try.func8, Try.ntmps8
    go_wp2_with fail
    go_ret
    refine ⟨ret_int ?_, rfl⟩
    unfold a2AtF
    rw [if_neg (by rw [HL.out]; exact fun h => hlt h.1)]

end Go.Proofs.Ytnnjcpihaobkaaa
