/-
  The words of this seat's proofs, and the contracts of the smallest functions: what a slice of numbers reads as, and what isBelow, areBelow, l00In, toInt64S and eqInt64S do.
-/
import Derived.Test.YtcglncepmieaaaaRows
import Derived.WalkKit
import Derived.ProofKit
import Derived.OpenShut
import Derived.Handy
import Derived.BigQuiet
import Derived.Deep.QuietTactic
import Derived.Deep.Draws
import Derived.Laws.OwnMore
import Derived.Lib.Hide
import Derived.Deep.OwnRows
import Derived.Outline
namespace Go.Proofs.Ytcglncepmieaaaa
open Go.RowKit Go.Deep Go.ChangeShapes Go.WideShapes

/-- The slice with the address A and the length n reads as the numbers xs in the world w. -/
def NumsAt (w : World) (A : Option Addr) (n : Nat) (xs : List Int) : Prop :=
  xs.length = n ∧ ∀ k x, xs[k]? = some x → ∃ b off, A = some ⟨b, off, none⟩ ∧ w.cell? ⟨b, off + k, none⟩ = some (.int .i64 x)

theorem NumsAt.len {w : World} {A : Option Addr} {n : Nat} {xs : List Int} (h : NumsAt w A n xs) : xs.length = n := h.1

theorem NumsAt.nil (w : World) (A : Option Addr) : NumsAt w A 0 [] := ⟨rfl, fun k x h => by simp at h⟩

theorem NumsAt.at_ {w : World} {A : Option Addr} {n : Nat} {xs : List Int} (h : NumsAt w A n xs) {k : Nat} (hk : k < n) :
    ∃ x b off, xs[k]? = some x ∧ A = some ⟨b, off, none⟩ ∧ w.cell? ⟨b, off + k, none⟩ = some (.int .i64 x) := by
  have hl : k < xs.length := by rw [h.1]; exact hk
  obtain ⟨b, off, e, hc⟩ := h.2 k xs[k] (List.getElem?_eq_getElem hl)
  exact ⟨_, b, off, List.getElem?_eq_getElem hl, e, hc⟩

theorem cell_lt {w : World} {a : Addr} {v : Value} (h : w.cell? a = some v) : a.block < w.heap.size := by
  rcases Nat.lt_or_ge a.block w.heap.size with hlt | hge
  · exact hlt
  · simp [World.cell?, Array.getElem?_eq_none hge] at h

theorem NumsAt.below {w w' : World} {A : Option Addr} {n : Nat} {xs : List Int} (h : NumsAt w A n xs) (hb : Below w.heap.size w w') : NumsAt w' A n xs :=
  ⟨h.1, fun k x hx => by
    obtain ⟨b, off, e, hc⟩ := h.2 k x hx
    exact ⟨b, off, e, (hb.cell (cell_lt hc)).trans hc⟩⟩

theorem NumsAt.drew {w : World} {A : Option Addr} {n : Nat} {xs : List Int} (h : NumsAt w A n xs) : NumsAt w.drew A n xs := h
theorem NumsAt.drewN {w : World} {A : Option Addr} {n : Nat} {xs : List Int} (h : NumsAt w A n xs) (k : Nat) : NumsAt (w.drewN k) A n xs := h

theorem below_drewN' {B : Nat} {a w : World} (h : Below B a w) (n : Nat) : Below B a (w.drewN n) := ⟨h.os, h.tape, h.output, h.size, h.block⟩

/-- What a call owns reads as its numbers. -/
theorem NumsAt.own {w : World} {base : Nat} {e : TypeId} {A : Option Addr} {n m c : Nat} {xs : List Int} (h : w.ownsRow base e 1 (.slice A n c) m (xs.map (Value.int .i64))) (hm : xs.length = m) (hn : n = m) : NumsAt w A n xs := by
  subst hn
  refine ⟨hm, fun k x hx => ?_⟩
  obtain ⟨_, hcase⟩ := h
  rcases hcase with ⟨hv, h0⟩ | ⟨g, cap', cur, hv, hg, hh, hn', hcap, hsz, htake⟩
  · simp only [Value.slice.injEq] at hv
    have : xs = [] := List.eq_nil_of_length_eq_zero (by omega)
    subst this
    simp at hx
  · simp only [Value.slice.injEq] at hv
    obtain ⟨rfl, _, rfl⟩ := hv
    refine ⟨g, 0, rfl, ?_⟩
    have h' : w.ownsRow base e 1 (.slice (some ⟨g, 0, none⟩) n c) n (xs.map (Value.int .i64)) := ⟨by simpa using hm, .inr ⟨g, c, cur, rfl, hg, hh, hn', hcap, hsz, htake⟩⟩
    have hk : k < xs.length := by
      rcases Nat.lt_or_ge k xs.length with hlt | hge
      · exact hlt
      · rw [List.getElem?_eq_none hge] at hx; cases hx
    rw [Nat.zero_add, h'.cellAt k (by omega), List.getElem?_map, hx]
    rfl

/-! ### Numbers within bounds -/
def inB (lo hi x : Int) : Bool := decide (lo ≤ x ∧ x ≤ hi)
def belowB (c x : Int) : Bool := decide (0 ≤ x ∧ x < c)
theorem inB_t {lo hi x : Int} (h : lo ≤ x ∧ x ≤ hi) : inB lo hi x = true := by simp [inB, h]
theorem inB_f {lo hi x : Int} (h : ¬ (lo ≤ x ∧ x ≤ hi)) : inB lo hi x = false := by simp only [inB, decide_eq_false_iff_not]; exact h
theorem belowB_t {c x : Int} (h : 0 ≤ x ∧ x < c) : belowB c x = true := by simp [belowB, h]
theorem belowB_f {c x : Int} (h : ¬ (0 ≤ x ∧ x < c)) : belowB c x = false := by simp only [belowB, decide_eq_false_iff_not]; exact h
theorem belowB_inB (c x : Int) : belowB c x = inB 0 (c - 1) x := by
  unfold belowB inB
  congr 1
  exact propext ⟨fun h => ⟨h.1, by omega⟩, fun h => ⟨h.1, by omega⟩⟩

theorem l00In_any (x lo hi : Int) (w : World) : Calls Try.prog 94 #[.int .i64 x, .int .i64 lo, .int .i64 hi] w fun e w' => e = .returned (.bool (inB lo hi x)) ∧ w = w' := by
  by_cases h1 : lo ≤ x
  · by_cases h2 : x ≤ hi
    · rw [inB_t ⟨h1, h2⟩]
      go_enter Try.func94, Try.ntmps94
      go_wp2
      go_ret
      exact ⟨rfl, rfl⟩
    · rw [inB_f (fun h => h2 h.2)]
      go_enter Try.func94, Try.ntmps94
      go_wp2
      go_ret
      exact ⟨rfl, rfl⟩
  · rw [inB_f (fun h => h1 h.1)]
    go_enter Try.func94, Try.ntmps94
    go_wp2
    go_ret
    exact ⟨rfl, rfl⟩

theorem isBelow_any (x c : Int) (w : World) : Calls Try.prog 82 #[.int .i64 x, .int .i64 c] w fun e w' => e = .returned (.bool (belowB c x)) ∧ w = w' := by
  by_cases h1 : 0 ≤ x
  · by_cases h2 : x < c
    · rw [belowB_t ⟨h1, h2⟩]
      go_enter Try.func82, Try.ntmps82
      go_wp2
      go_ret
      exact ⟨rfl, rfl⟩
    · rw [belowB_f (fun h => h2 h.2)]
      go_enter Try.func82, Try.ntmps82
      go_wp2
      go_ret
      exact ⟨rfl, rfl⟩
  · rw [belowB_f (fun h => h1 h.1)]
    go_enter Try.func82, Try.ntmps82
    go_wp2
    go_ret
    exact ⟨rfl, rfl⟩

/-! ### Lists -/
theorem ret_bool {a b : Bool} (h : a = b) : Ending.returned (.bool a) = .returned (.bool b) := by rw [h]
theorem ret_int {k : IntKind} {a b : Int} (h : a = b) : Ending.returned (.int k a) = .returned (.int k b) := by rw [h]
theorem ret_string {a b : ByteArray} (h : a = b) : Ending.returned (.string a) = .returned (.string b) := by rw [h]
theorem all_snoc {p : Int → Bool} {xs : List Int} {k : Nat} {x : Int} (h : (xs.take k).all p = true) (hx : xs[k]? = some x) (hp : p x = true) : (xs.take (k + 1)).all p = true := by
  rw [List.take_add_one, hx]
  simp [hp]
  simpa using h
theorem all_stop {p : Int → Bool} {xs : List Int} {k : Nat} {x : Int} (hx : xs[k]? = some x) (hp : p x = false) : xs.all p = false := by
  rw [List.all_eq_false]
  exact ⟨x, List.mem_of_getElem? hx, by simp [hp]⟩
theorem all_done {p : Int → Bool} {xs : List Int} {n : Nat} (hn : xs.length = n) (h : (xs.take n).all p = true) : xs.all p = true := by
  subst hn
  rwa [List.take_length] at h
theorem take_snoc {α : Type} {xs : List α} {k : Nat} {x : α} (hx : xs[k]? = some x) : xs.take (k + 1) = xs.take k ++ [x] := by
  rw [List.take_add_one, hx]; rfl

theorem areBelow_any (A : Option Addr) (n cap : Nat) (xs : List Int) (c : Int) (w : World) (h : NumsAt w A n xs) (hn : n ≤ 4611686018427387904) :
    Calls Try.prog 131 #[.slice A n cap, .int .i64 c] w fun e w' => e = .returned (.bool (xs.all (belowB c))) ∧ w = w' := by
  go_enter Try.func131, Try.ntmps131
  go_wp2
  go_loop [9] (fun i => ∃ k : Nat, k ≤ n ∧ i = .int .i64 k ∧ (xs.take k).all (belowB c) = true) (fun i => n - (intOf i).toNat)
  case atStart => exact ⟨0, Nat.zero_le _, rfl, by simp⟩
  case round =>
    obtain ⟨k, hk, rfl, hall⟩ := hrel
    have HA := Lib.hid hall
    clear hall
    by_cases hlt : k < n
    · obtain ⟨x, b, off, hx, rfl, hc⟩ := h.at_ hlt
      have HX := Lib.hid hx
      clear hx
      rcases hb : belowB c x with _ | _
      · go_wp2_with (go_at_call 82; refine (isBelow_any _ _ _).mono ?_; rintro e w' ⟨rfl, rfl⟩)
        go_ret
        exact ⟨ret_bool (all_stop HX.out hb).symm, rfl⟩
      · go_wp2_with (go_at_call 82; refine (isBelow_any _ _ _).mono ?_; rintro e w' ⟨rfl, rfl⟩)
        go_round
        case rel => exact ⟨k + 1, by omega, by go_num, all_snoc HA.out HX.out hb⟩
        case measure => simp [intOf]; omega
    · go_wp2
      go_ret
      have hkn : k = n := by omega
      subst hkn
      exact ⟨ret_bool (all_done h.1 HA.out).symm, rfl⟩

/-! ### eqInt64S -/
def sameB (xs ys : List Int) : Bool := decide (xs = ys)
theorem sameB_t {xs ys : List Int} (h : xs = ys) : sameB xs ys = true := by simp [sameB, h]
theorem sameB_f {xs ys : List Int} (h : ¬ xs = ys) : sameB xs ys = false := by simp [sameB, h]
theorem take_eq_snoc {xs ys : List Int} {k : Nat} {x : Int} (h : xs.take k = ys.take k) (hx : xs[k]? = some x) (hy : ys[k]? = some x) : xs.take (k + 1) = ys.take (k + 1) := by
  rw [List.take_add_one, List.take_add_one, h, hx, hy]
theorem take_eq_stop {xs ys : List Int} {k : Nat} {x y : Int} (hx : xs[k]? = some x) (hy : ys[k]? = some y) (hne : ¬ x = y) : ¬ xs = ys := by
  rintro rfl
  rw [hx] at hy
  exact hne (Option.some.inj hy)

theorem eqInt64S_any (A A' : Option Addr) (n n' cap cap' : Nat) (xs ys : List Int) (w : World) (h : NumsAt w A n xs) (h' : NumsAt w A' n' ys) (hn : n ≤ 4611686018427387904) (hn' : n' ≤ 4611686018427387904) :
    Calls Try.prog 22 #[.slice A n cap, .slice A' n' cap'] w fun e w' => e = .returned (.bool (sameB xs ys)) ∧ ∃ m, w' = w.drewN m := by
  by_cases hnn : n = n'
  · subst hnn
    go_enter Try.func22, Try.ntmps22
    go_wp2
    go_loopw [5] (fun i wr => ∃ k m : Nat, k ≤ n ∧ i = .int .i64 k ∧ wr = w.drewN m ∧ xs.take k = ys.take k) (fun i _ => n - (intOf i).toNat)
    case atStart => exact ⟨0, 0, Nat.zero_le _, rfl, rfl, by simp⟩
    case round =>
      obtain ⟨k, m, hk, rfl, rfl, htake⟩ := hrel
      have HT := Lib.hid htake
      clear htake
      by_cases hlt : k < n
      · obtain ⟨x, b, off, hx, rfl, hc⟩ := h.at_ hlt
        obtain ⟨y, b', off', hy, rfl, hc'⟩ := h'.at_ hlt
        have HX := Lib.hid hx
        have HY := Lib.hid hy
        clear hx hy
        have hk0 : (0 : Int) ≤ (k : Int) := by omega
        have hkn : (k : Int) < (n : Int) := by omega
        by_cases hxy : x = y
        · obtain rfl : x = y := hxy
          go_wp2_with fail
          go_quiet (fail)
          go_wp2_with fail
          go_roundw
          case rel => exact ⟨k + 1, _, by omega, by go_num, rfl, take_eq_snoc HT.out HX.out HY.out⟩
          case measure => simp [intOf]; omega
        · have hne : (x != y) = true := by simp [bne_iff_ne, hxy]
          go_wp2_with fail
          go_quiet (fail)
          go_wp2_with fail
          go_ret
          exact ⟨ret_bool (sameB_f (take_eq_stop HX.out HY.out hxy)).symm, _, World.drewN_drewN _ _ _⟩
      · go_wp2
        go_ret
        have hkn : k = n := by omega
        subst hkn
        have ht := HT.out
        rw [List.take_of_length_le (by rw [h.1]; exact Nat.le_refl _), List.take_of_length_le (by rw [h'.1]; exact Nat.le_refl _)] at ht
        exact ⟨ret_bool (sameB_t ht).symm, _, rfl⟩
  · have hne : ((n : Int) != (n' : Int)) = true := by rw [bne_iff_ne]; omega
    go_enter Try.func22, Try.ntmps22
    go_wp2
    go_ret
    exact ⟨ret_bool (sameB_f (by rintro rfl; exact hnn (h.1.symm.trans h'.1))).symm, 0, rfl⟩

/-! ### toInt64S: a copy in a new block -/
theorem info_int64 : (Try.prog.info? 2).map (fun i => (i.zero, i.size, i.bytes)) = some (some (.int .i64 0), 1, 8) := by kernel_rfl

theorem copied_start (xs : List Int) : (madeCells #[Value.int .i64 0] (xs.length * 1)).toList = (xs.take 0).map (Value.int .i64) ++ List.replicate (xs.length - 0) (.int .i64 0) := by
  rw [Nat.mul_one, toList_madeCells_one]; simp
theorem copied_step {xs : List Int} {k : Nat} {x : Int} (hx : xs[k]? = some x) :
    ((xs.take k).map (Value.int .i64) ++ List.replicate (xs.length - k) (Value.int .i64 0)).set k (.int .i64 x) = (xs.take (k + 1)).map (Value.int .i64) ++ List.replicate (xs.length - (k + 1)) (.int .i64 0) := by
  have hk : k < xs.length := by
    rcases Nat.lt_or_ge k xs.length with hlt | hge
    · exact hlt
    · rw [List.getElem?_eq_none hge] at hx; cases hx
  rw [take_snoc hx, show xs.length - k = (xs.length - (k + 1)) + 1 from by omega, List.replicate_succ, List.set_append_right _ _ (by simp; omega)]
  simp [Nat.min_eq_left (Nat.le_of_lt hk)]
theorem copied_done {xs : List Int} {n : Nat} (hn : xs.length = n) : (xs.take n).map (Value.int .i64) ++ List.replicate (xs.length - n) (Value.int .i64 0) = xs.map (Value.int .i64) := by
  subst hn
  simp

theorem toInt64S_any (A : Option Addr) (n cap : Nat) (xs : List Int) (w : World) (h : NumsAt w A n xs) (hn : n ≤ 1048576) :
    Calls Try.prog 96 #[.slice A n cap] w fun e w' => e = .returned (.slice (some ⟨w.heap.size, 0, none⟩) n n) ∧
      w'.ownsRow w.heap.size 2 1 (.slice (some ⟨w.heap.size, 0, none⟩) n n) n (xs.map (Value.int .i64)) ∧ Below w.heap.size w w' ∧ w'.heap.size = w.heap.size + 1 := by
  obtain ⟨i0, hi, hz0, hz1, hz2⟩ := info_parts info_int64
  have hlen := h.1
  have HL := Lib.hid hlen
  have HN := Lib.hid hn
  have hmk := run_make_row' (P := Try.prog) 35 2 (.int .i64 0) 8 Try.underlying35 info_int64 rfl .i64 .i64 n (by omega) (by omega)
  have hn' : n ≤ 4611686018427387904 := by omega
  clear hlen hn
  go_enter Try.func96, Try.ntmps96
  go_wp2
  clear hmk
  go_loopw [4] (fun i wr => ∃ k : Nat, k ≤ n ∧ i = .int .i64 k ∧ wr.ownsRow w.heap.size 2 1 (.slice (some ⟨w.heap.size, 0, none⟩) n n) n ((xs.take k).map (Value.int .i64) ++ List.replicate (xs.length - k) (.int .i64 0)) ∧
      Below w.heap.size w wr ∧ wr.heap.size = w.heap.size + 1) (fun i _ => n - (intOf i).toNat)
  case atStart =>
    refine ⟨0, Nat.zero_le _, rfl, ?_, (Below.refl _ _).alloc (Nat.le_refl _) _, by simp⟩
    rw [← copied_start, HL.out, Nat.mul_one]
    exact World.ownsRow_lit w _ n (Nat.le_refl _) (by have := HN.out; unfold maxLen; omega) (by rw [size_madeCells, Nat.mul_one])
  case round =>
    obtain ⟨k, hk, rfl, hown, hbel, hsz⟩ := hrel
    have HO := Lib.hid hown
    have HB := Lib.hid hbel
    have HZ := Lib.hid hsz
    by_cases hlt : k < n
    · obtain ⟨x, b, off, hx, rfl, hc⟩ := h.at_ hlt
      have HX := Lib.hid hx
      have hc' : wr.cell? ⟨b, off + k, none⟩ = some (.int .i64 x) := (hbel.cell (cell_lt hc)).trans hc
      obtain ⟨u, hu⟩ : ∃ u, wr.cell? ⟨w.heap.size, k, none⟩ = some u := by
        rw [hown.cellAt k (by omega)]
        exact ⟨_, List.getElem?_eq_getElem (by rw [hown.1]; omega)⟩
      have hf : wr.frozen? ⟨w.heap.size, k, none⟩ = false := hown.frozenAt k
      have hk0 : (0 : Int) ≤ (k : Int) := by omega
      have hkn : (k : Int) < (n : Int) := by omega
      clear hx hc hown hbel hsz
      go_wp2
      go_roundw
      case rel =>
        refine ⟨k + 1, by omega, by go_num, ?_, HB.out.setCell (Nat.le_refl _) _, by rw [World.size_setCell]; exact HZ.out⟩
        rw [← copied_step HX.out]
        exact (HO.out.stored k (.int .i64 x)).1
      case measure => simp [intOf]; omega
    · clear hown hbel hsz
      go_wp2
      go_ret
      have hkn : k = n := by omega
      subst hkn
      refine ⟨rfl, ?_, HB.out, HZ.out⟩
      have hown := HO.out
      rwa [copied_done HL.out] at hown

/-! ### markInt64S, heldInt64S: the numbers from k on are laid, and looked for -/
def marks (k : Int) (n : Nat) : List Int := (List.range n).map fun (j : Nat) => k + (j : Int)
theorem marks_length (k : Int) (n : Nat) : (marks k n).length = n := by simp [marks]
theorem marks_at (k : Int) {n j : Nat} (hj : j < n) : (marks k n)[j]? = some (k + (j : Int)) := by simp [marks, hj]
theorem marks_step {k : Int} {j : Nat} {cs : List Value} (hj : j < cs.length) :
    ((marks k j).map (Value.int .i64) ++ cs.drop j).set j (.int .i64 (k + (j : Int))) = (marks k (j + 1)).map (Value.int .i64) ++ cs.drop (j + 1) := by
  rw [List.set_append_right _ _ (by simp [marks]), List.length_map, marks_length, Nat.sub_self, List.drop_eq_getElem_cons hj, List.set_cons_zero]
  simp [marks, List.range_succ]
theorem own_addr {w : World} {base : Nat} {e : TypeId} {A : Option Addr} {n c : Nat} {cs : List Value} (h : w.ownsRow base e 1 (.slice A n c) n cs) (hn : 0 < n) : ∃ g, A = some ⟨g, 0, none⟩ := by
  rcases h.2 with ⟨hv, h0⟩ | ⟨g, cap', cur, hv, _⟩
  · omega
  · simp only [Value.slice.injEq] at hv
    exact ⟨g, hv.1⟩

theorem own_form {w : World} {base : Nat} {e : TypeId} {v : Value} {n : Nat} {cs : List Value} (h : w.ownsRow base e 1 v n cs) : ∃ A c, v = .slice A n c := by
  rcases h.2 with ⟨hv, h0⟩ | ⟨g, cap', cur, hv, _⟩
  · subst h0; exact ⟨_, _, hv⟩
  · exact ⟨_, _, hv⟩

theorem markInt64S_any (base : Nat) (A : Option Addr) (n c : Nat) (cs : List Value) (k0 : Int) (w : World) (h : w.ownsRow base 2 1 (.slice A n c) n cs) (hk0 : 0 ≤ k0) (hn : k0 + (n : Int) ≤ 4611686018427387904) :
    Calls Try.prog 23 #[.slice A n c, .int .i64 k0] w fun e w' => e = .returned (.int .i64 (k0 + (n : Int))) ∧
      w'.ownsRow base 2 1 (.slice A n c) n ((marks k0 n).map (Value.int .i64)) ∧ w.grownBy w' (Value.slice A n c).ownBlock ∧ w'.heap.size = w.heap.size := by
  by_cases h0 : n = 0
  · subst h0
    go_enter Try.func23, Try.ntmps23
    go_wp2
    refine wp_loop_rounds 1 ?_
    rw [rounds_succ]
    go_wp2
    go_ret
    refine ⟨ret_int (by simp), ?_, World.grownBy.refl _ _, rfl⟩
    have hcs : cs = [] := List.eq_nil_of_length_eq_zero (by simpa using h.1)
    subst hcs
    exact h
  · obtain ⟨g, rfl⟩ := own_addr h (by omega)
    have hlen : cs.length = n := by simpa using h.1
    have HL := Lib.hid hlen
    clear hlen
    go_enter Try.func23, Try.ntmps23
    go_wp2
    go_loopw [1, 5] (fun kv i wr => ∃ j : Nat, j ≤ n ∧ i = .int .i64 j ∧ kv = .int .i64 (k0 + (j : Int)) ∧ wr.ownsRow base 2 1 (.slice (some ⟨g, 0, none⟩) n c) n ((marks k0 j).map (Value.int .i64) ++ cs.drop j) ∧
        w.grownBy wr (some g) ∧ wr.heap.size = w.heap.size) (fun _ i _ => n - (intOf i).toNat)
    case atStart => exact ⟨0, Nat.zero_le _, rfl, by go_num, by simpa [marks] using h, World.grownBy.refl _ _, rfl⟩
    case round =>
      obtain ⟨j, hj, rfl, rfl, hown, hgrow, hsz⟩ := hrel
      have HO := Lib.hid hown
      have HG := Lib.hid hgrow
      have HZ := Lib.hid hsz
      by_cases hlt : j < n
      · obtain ⟨u, hu⟩ : ∃ u, wr.cell? ⟨g, j, none⟩ = some u := by
          rw [hown.cellAt j (by omega)]
          exact ⟨_, List.getElem?_eq_getElem (by rw [hown.1]; omega)⟩
        have hf : wr.frozen? ⟨g, j, none⟩ = false := hown.frozenAt j
        have hj0 : (0 : Int) ≤ (j : Int) := by omega
        have hjn : (j : Int) < (n : Int) := by omega
        clear hown hgrow hsz h
        go_wp2
        go_roundw
        case rel =>
          have hst := HO.out.stored j (.int .i64 (k0 + (j : Int)))
          refine ⟨j + 1, by omega, by go_num, by go_num, ?_, ⟨HG.out.os, HG.out.tape, HG.out.output, by rw [World.size_setCell]; exact HG.out.size, fun i hi hne => (hst.2.block i (by rw [HZ.out]; exact hi) hne).trans (HG.out.block i hi hne)⟩, by rw [World.size_setCell]; exact HZ.out⟩
          rw [← marks_step (by rw [HL.out]; exact hlt)]
          exact hst.1
        case measure => simp [intOf]; omega
      · clear hown hgrow hsz h
        go_wp2
        go_ret
        have hjn : j = n := by omega
        subst hjn
        have hown := HO.out
        rw [List.drop_of_length_le (by rw [HL.out]; exact Nat.le_refl _), List.append_nil] at hown
        exact ⟨rfl, hown, HG.out, HZ.out⟩

theorem heldInt64S_any (A : Option Addr) (n c : Nat) (k0 : Int) (w : World) (h : NumsAt w A n (marks k0 n)) (hk0 : 0 ≤ k0) (hn : k0 + (n : Int) ≤ 4611686018427387904) :
    Calls Try.prog 24 #[.slice A n c, .int .i64 k0] w fun e w' => e = .returned (.int .i64 (k0 + (n : Int))) ∧ w = w' := by
  go_enter Try.func24, Try.ntmps24
  go_wp2
  go_loop [1, 5] (fun kv i => ∃ j : Nat, j ≤ n ∧ i = .int .i64 j ∧ kv = .int .i64 (k0 + (j : Int))) (fun _ i => n - (intOf i).toNat)
  case atStart => exact ⟨0, Nat.zero_le _, rfl, by go_num⟩
  case round =>
    obtain ⟨j, hj, rfl, rfl⟩ := hrel
    by_cases hlt : j < n
    · obtain ⟨x, b, off, hx, rfl, hc⟩ := h.at_ hlt
      rw [marks_at k0 hlt] at hx
      obtain rfl := Option.some.inj hx
      clear hx
      have hj0 : (0 : Int) ≤ (j : Int) := by omega
      have hjn : (j : Int) < (n : Int) := by omega
      go_wp2
      go_round
      case rel => exact ⟨j + 1, by omega, by go_num, by go_num⟩
      case measure => simp [intOf]; omega
    · go_wp2
      go_ret
      have hjn : j = n := by omega
      subst hjn
      exact ⟨rfl, rfl⟩

/-! ### Arguments -/
theorem laidOut : laidOutB Try.prog = true := by kernel_rfl
theorem own : ownKnob Try.prog.godebug = none := by kernel_rfl
theorem cells_int64 : Try.prog.cellsOf 2 = 1 := by kernel_rfl

theorem nums_of_ints {w : World} {a : Addr} {len : Nat} {zs : List Int} (hl : len ≤ zs.length) (hcell : ∀ i, i < zs.length → w.cell? (a.add i) = some (.int .i64 (zs.getD i 0))) : NumsAt w (some a) len (zs.take len) := by
  refine ⟨by simp [Nat.min_eq_left hl], fun k x hx => ?_⟩
  have hk : k < len := by
    rcases Nat.lt_or_ge k len with h | h
    · exact h
    · rw [List.getElem?_take, if_neg (by omega)] at hx; cases hx
  have hc := hcell k (by omega)
  obtain ⟨b, off, spot⟩ := a
  have hspot : spot = none := by
    have h0 := hcell 0 (by omega)
    simpa [Addr.add] using World.cell?_spot h0
  subst hspot
  refine ⟨b, off, rfl, ?_⟩
  rw [List.getElem?_take, if_pos hk, List.getElem?_eq_getElem (by omega)] at hx
  obtain rfl := Option.some.inj hx
  rw [Addr.add_lit] at hc
  rw [hc]
  simp [List.getD, List.getElem?_eq_getElem (show k < zs.length by omega)]

theorem nums_of_trod {H : Type} {enc : TypeId × Value → H} {W : World} {base : Nat} {held : Bool} {A : Option Addr} {n c : Nat} {d : DataW H} {p : List MemPlace}
    (h : DataW.Trod enc Try.prog W base (fun _ => true) held 35 (.slice A n c) d p) : ∃ xs, NumsAt W A n xs ∧ n ≤ maxLen := by
  obtain ⟨fuel, hf⟩ := h
  rcases open_ints Try.underlying35 Try.underlying2 cells_int64 hf with ⟨hcs, _⟩ | ⟨x, l, c', zs, hcs, _, hl, hm, hz, _, hcell, hwz⟩
  · simp [Value.cells] at hcs
    obtain ⟨rfl, rfl, rfl⟩ := hcs
    exact ⟨[], NumsAt.nil _ _, Nat.zero_le _⟩
  · simp [Value.cells] at hcs
    obtain ⟨rfl, rfl, rfl⟩ := hcs
    simp only [if_true] at hz
    exact ⟨_, nums_of_ints (by omega) hcell, Nat.le_trans hl hm⟩

theorem below_then {a b c : World} (h : Below a.heap.size a b) (k : Below b.heap.size b c) : Below a.heap.size a c := h.trans (k.mono h.size)
theorem below_same {a b : World} (h : a = b) : Below a.heap.size a b := by subst h; exact Below.refl _ _

theorem own_below {w w' : World} {base : Nat} {e : TypeId} {v : Value} {n : Nat} {cs : List Value} (h : w.ownsRow base e 1 v n cs) (hb : Below w.heap.size w w') : w'.ownsRow base e 1 v n cs :=
  h.kept (row := none) ⟨hb.os, hb.tape, hb.output, hb.size, fun k hk _ => hb.block k hk⟩ (by
    rcases hv : v.ownBlock with _ | g
    · exact .inl rfl
    · exact .inr (by simp))
theorem own_grown {w w' : World} {base : Nat} {e : TypeId} {v : Value} {n : Nat} {cs : List Value} {row : Option Nat} {B : Nat} (h : w.ownsRow base e 1 v n cs) (hg : w.grownBy w' row) (hlt : ∀ k, v.ownBlock = some k → k < B) (hr : ∀ k, row = some k → B ≤ k) : w'.ownsRow base e 1 v n cs :=
  h.kept hg (by
    rcases hv : v.ownBlock with _ | g
    · exact .inl rfl
    · exact .inr (fun e => by have h1 := hlt g hv; have h2 := hr g e.symm; omega))
theorem below_grown {a w w' : World} {row : Option Nat} (h : Below a.heap.size a w) (hg : w.grownBy w' row) (hr : ∀ k, row = some k → a.heap.size ≤ k) : Below a.heap.size a w' := h.grown hg h.size hr

theorem own_base {w : World} {base base' : Nat} {e : TypeId} {v : Value} {n : Nat} {cs : List Value} (h : w.ownsRow base e 1 v n cs) (hb : base' ≤ base) : w.ownsRow base' e 1 v n cs := by
  obtain ⟨h1, h2⟩ := h
  refine ⟨h1, ?_⟩
  rcases h2 with h2 | ⟨g, cap, cur, hv, hg, rest⟩
  · exact .inl h2
  · exact .inr ⟨g, cap, cur, hv, Nat.le_trans hb hg, rest⟩

end Go.Proofs.Ytcglncepmieaaaa
