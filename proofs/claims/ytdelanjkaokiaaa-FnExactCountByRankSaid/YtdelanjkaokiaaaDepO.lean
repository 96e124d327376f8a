/-
  Depths of sets, the program's: the contract of depthsOf.
-/
import Derived.Test.YtdelanjkaokiaaaDepI
import Derived.Deep.DeepCutAuto
namespace Go.Proofs.Ytdelanjkaokiaaa
open Go.RowKit Go.Deep Go.ChangeShapes Go.WideShapes

theorem zero_deps : Try.zeroCells76 = Array.replicate 1024 (Value.int .i64 0) := by kernel_rfl
theorem info_setU : (Try.prog.info? 80).map (fun i => (i.zero, i.size, i.bytes)) = some (some (.int .u16 0), 1, 2) := by kernel_rfl
theorem deps_new (w : World) (base : Nat) (h : base ≤ w.heap.size) : DepAt (w.alloc (.cells (Array.replicate 1024 (Value.int .i64 0)) 76)) base w.heap.size (fun _ => 0) := by
  unfold DepAt
  have h1 : (rowF 1024 (fun _ => 0)).map (Value.int .i64) = (Array.replicate 1024 (Value.int .i64 0)).toList := by
    unfold rowF
    rw [List.map_map, Array.toList_replicate]
    exact List.map_const' .. |>.trans (by simp)
  rw [h1]
  exact World.ownsRow_lit w _ 1024 h (by unfold maxLen; omega) (by simp)

section
variable {mm : Nat} {bel : Nat → Nat → Nat → Nat}
/-- The table when what has a depth at most d is known: 1024 elsewhere. -/
def tabF (mm : Nat) (bel : Nat → Nat → Nat → Nat) (N d : Nat) : Nat → Int := fun c => if c < N then (if 0 ≤ depN mm bel d c then depN mm bel d c else 1024) else 0
/-- The sets below k that are not known at d. -/
def openN (mm : Nat) (bel : Nat → Nat → Nat → Nat) (d k : Nat) : List Nat := (List.range k).filter fun b => !decide (0 ≤ depN mm bel d b)
theorem openN_mem {d k b : Nat} : b ∈ openN mm bel d k ↔ b < k ∧ ¬ 0 ≤ depN mm bel d b := by
  unfold openN
  rw [List.mem_filter, List.mem_range]
  simp
theorem openN_succ (d k : Nat) : openN mm bel d (k + 1) = openN mm bel d k ++ if 0 ≤ depN mm bel d k then [] else [k] := by
  unfold openN
  rw [List.range_succ, List.filter_append]
  congr 1
  split
  · rename_i h; rw [List.filter_cons_of_neg (by simp [h])]; rfl
  · rename_i h; rw [List.filter_cons_of_pos (by simp [h])]; rfl
theorem openN_len_le (d k : Nat) : (openN mm bel d k).length ≤ k := by
  unfold openN
  exact Nat.le_trans (List.length_filter_le _ _) (by simp)
theorem len_splitO {p : Nat → Bool} : ∀ l : List Nat, (l.filter fun b => !p b).length + l.countP p = l.length
  | [] => rfl
  | x :: l => by
    have ih := len_splitO (p := p) l
    cases hp : p x with
    | true => rw [List.filter_cons_of_neg (by simp [hp]), List.countP_cons_of_pos hp, List.length_cons]; omega
    | false => rw [List.filter_cons_of_pos (by simp [hp]), List.countP_cons_of_neg (by simp [hp]), List.length_cons, List.length_cons]; omega
theorem openN_known (d N : Nat) : (openN mm bel d N).length + knownN mm bel N d = N := by
  unfold openN knownN
  have h := len_splitO (p := fun b => decide (0 ≤ depN mm bel d b)) (List.range N)
  rw [List.length_range] at h
  exact h
theorem openN_next (d N : Nat) : (openN mm bel d N).filter (fun b => !decide (0 ≤ depN mm bel (d + 1) b)) = openN mm bel (d + 1) N := by
  unfold openN
  rw [List.filter_filter]
  refine List.filter_congr (fun b _ => ?_)
  by_cases h1 : 0 ≤ depN mm bel d b
  · have h2 := depN_old h1
    simp [h1, h2]
  · simp [h1]
theorem tab_merged {k : Nat} (h : Lib.onesCount k ≤ 1) : ∀ c, tabF mm bel k 0 c = tabF mm bel (k + 1) 0 c := by
  intro c
  unfold tabF
  by_cases e : c = k
  · subst e
    have h0 : depN mm bel 0 c = 0 := depN_merged h 0
    rw [if_neg (Nat.lt_irrefl _), if_pos (Nat.lt_succ_self _), h0]
    rfl
  · by_cases hc : c < k
    · rw [if_pos hc, if_pos (show c < k + 1 by omega)]
    · rw [if_neg hc, if_neg (show ¬ c < k + 1 by omega)]
theorem tab_apart {k : Nat} (h : ¬ Lib.onesCount k ≤ 1) : ∀ c, (if c = k then 1024 else tabF mm bel k 0 c) = tabF mm bel (k + 1) 0 c := by
  intro c
  unfold tabF
  by_cases e : c = k
  · subst e
    rw [if_pos rfl, if_pos (Nat.lt_succ_self _), depN_0, if_neg h]
    rfl
  · rw [if_neg e]
    by_cases hc : c < k
    · rw [if_pos hc, if_pos (show c < k + 1 by omega)]
    · rw [if_neg hc, if_neg (show ¬ c < k + 1 by omega)]
/-- The table in the middle of a pass: the first k of the open sets have been looked at. -/
def passF (mm : Nat) (bel : Nat → Nat → Nat → Nat) (N d k : Nat) : Nat → Int := fun c => if c ∈ (openN mm bel d N).take k ∧ 0 ≤ depN mm bel (d + 1) c then ((d + 1 : Nat) : Int) else tabF mm bel N d c
theorem passF_0 (N d : Nat) : passF mm bel N d 0 = tabF mm bel N d := by funext c; simp [passF]
theorem passF_yes {N d k b : Nat} (hb : (openN mm bel d N)[k]? = some b) (h : 0 ≤ depN mm bel (d + 1) b) : (fun c => if c = b then ((d + 1 : Nat) : Int) else passF mm bel N d k c) = passF mm bel N d (k + 1) := by
  funext c
  unfold passF
  rw [List.take_add_one, hb]
  by_cases e : c = b
  · subst e; simp [h]
  · simp [e]
theorem passF_no {N d k b : Nat} (hb : (openN mm bel d N)[k]? = some b) (h : ¬ 0 ≤ depN mm bel (d + 1) b) : passF mm bel N d k = passF mm bel N d (k + 1) := by
  funext c
  unfold passF
  rw [List.take_add_one, hb]
  by_cases e : c = b
  · subst e; simp [h]
  · simp [e]
theorem passF_all (N d : Nat) : ∀ c, passF mm bel N d (openN mm bel d N).length c = tabF mm bel N (d + 1) c := by
  intro c
  unfold passF
  rw [List.take_length]
  unfold tabF
  by_cases hc : c < N
  · rw [if_pos hc, if_pos hc]
    by_cases h1 : 0 ≤ depN mm bel d c
    · rw [if_neg (fun h => (openN_mem.1 h.1).2 h1), depN_old h1]
    · by_cases h2 : 0 ≤ depN mm bel (d + 1) c
      · have hl : leadN mm bel d c := by
          rcases Classical.em (leadN mm bel d c) with h | h
          · exact h
          · rw [depN_no h1 h] at h2; omega
        rw [if_pos ⟨openN_mem.2 ⟨hc, h1⟩, h2⟩, if_pos h2, depN_new h1 hl]
      · rw [if_neg (fun h => h2 h.2), if_neg h1, if_neg h2]
  · rw [if_neg hc, if_neg (fun h => hc (openN_mem.1 h.1).1), if_neg hc]
theorem passF_tells {N d k : Nat} (hd : d + 1 ≤ 1024) : Tells mm bel N d (passF mm bel N d k) := by
  intro c hc
  unfold passF
  by_cases h1 : c ∈ (openN mm bel d N).take k ∧ 0 ≤ depN mm bel (d + 1) c
  · rw [if_pos h1]
    have h2 := (openN_mem.1 (List.mem_of_mem_take h1.1)).2
    constructor
    · intro h; omega
    · intro h; exact absurd h h2
  · rw [if_neg h1]
    unfold tabF
    rw [if_pos hc]
    by_cases h2 : 0 ≤ depN mm bel d c
    · rw [if_pos h2]
      have := depN_le (m := mm) (bel := bel) d c
      constructor
      · intro _; exact h2
      · intro _; omega
    · rw [if_neg h2]
      constructor
      · intro h; omega
      · intro h; exact absurd h h2
theorem lead_known {d b : Nat} (h : ¬ 0 ≤ depN mm bel d b) : leadN mm bel d b ↔ 0 ≤ depN mm bel (d + 1) b := by
  constructor
  · intro hl; rw [depN_new h hl]; omega
  · intro h2
    rcases Classical.em (leadN mm bel d b) with h3 | h3
    · exact h3
    · rw [depN_no h h3] at h2; omega
end

theorem knownN_mono {mm : Nat} {bel : Nat → Nat → Nat → Nat} (N d : Nat) : knownN mm bel N d ≤ knownN mm bel N (d + 1) := by
  unfold knownN
  refine List.countP_mono_left (fun x _ hx => ?_)
  simp only [decide_eq_true_eq] at hx ⊢
  rw [depN_old hx]; exact hx
theorem openN_le {mm : Nat} {bel : Nat → Nat → Nat → Nat} (d N : Nat) : (openN mm bel (d + 1) N).length ≤ (openN mm bel d N).length := by
  have h1 := openN_known (mm := mm) (bel := bel) d N
  have h2 := openN_known (mm := mm) (bel := bel) (d + 1) N
  have h3 := knownN_mono (mm := mm) (bel := bel) N d
  omega
theorem known_two {mm : Nat} {bel : Nat → Nat → Nat → Nat} {N : Nat} (hN : 2 ≤ N) : 2 ≤ knownN mm bel N 0 := by
  have h1 : (List.range 2).countP (fun b => decide (0 ≤ depN mm bel 0 b)) ≤ knownN mm bel N 0 := (List.range_sublist.2 hN).countP_le
  have h2 : (List.range 2).countP (fun b => decide (0 ≤ depN mm bel 0 b)) = 2 := by
    have e0 : depN mm bel 0 0 = 0 := by rw [depN_0, if_pos (by decide)]
    have e1 : depN mm bel 0 1 = 0 := by rw [depN_0, if_pos (by decide)]
    simp [List.range_succ, e0, e1]
  omega
theorem size_deps : (Try.prog.info? 76).map (·.size) = some 1024 := by kernel_rfl
theorem depAt_heap {w : World} {base G : Nat} {f : Nat → Int} (h : DepAt w base G f) : ∃ M : Array Value, w.heap[G]? = some (.cells M 76 (0, 0)) ∧ M.size = 1024 ∧ M.toList = (rowF 1024 f).map (Value.int .i64) := by
  rcases h.2 with ⟨h', _⟩ | ⟨g', cap', cur, h', hb, hg, hnc, hcm, hcs, htake⟩
  · simp at h'
  · simp only [Value.slice.injEq, Option.some.injEq, Addr.mk.injEq, and_true, true_and] at h'
    obtain ⟨rfl, rfl⟩ := h'
    refine ⟨cur, hg, by omega, ?_⟩
    rw [← htake, List.take_of_length_le (by rw [Array.length_toList]; omega)]
def lenV : Value → Nat
  | .slice _ n _ => n
  | _ => 0
/-- What stands when a pass begins: the open sets, the table, the depth's own block, how many sets were open before. -/
def LoopAt (O : Nat) (w : World) (ALL RES n mm : Nat) (A : Option Addr) (c : Nat) (B : Option Addr) (d : Nat) (bel : Nat → Nat → Nat → Nat) (N dd : Nat) (ov : Value) (PD lastN : Nat) (wr : World) : Prop :=
  ∃ (A4 : Option Addr) (m c4 : Nat), ov = .slice A4 m c4 ∧ m = (openN mm bel dd N).length ∧ wr.ownsRow O 80 1 (.slice A4 m c4) m ((openN mm bel dd N).map bitU) ∧ DepAt wr w.heap.size ALL (tabF mm bel N dd) ∧ LBox wr w.heap.size (n : Int) A mm c B n d ∧
    wr.heap[RES]? = some (.cells (Array.replicate 1024 (Value.int .i64 0)) 76 (0, 0)) ∧ wr.cell? ⟨PD, 0, none⟩ = some (.int .i64 ((dd + 1 : Nat) : Int)) ∧ wr.frozen? ⟨PD, 0, none⟩ = false ∧ O ≤ PD ∧ (∀ g, (Value.slice A4 m c4).ownBlock = some g → g ≠ PD) ∧
    (dd = 0 ∨ ∃ g, A4 = some ⟨g, 0, none⟩) ∧ ((dd = 0 ∧ lastN = 0) ∨ ∃ d', dd = d' + 1 ∧ lastN = (openN mm bel d' N).length ∧ d' + 2 ≤ knownN mm bel N d') ∧ Below w.heap.size w wr ∧ O ≤ wr.heap.size

set_option maxRecDepth 100000 in
set_option maxHeartbeats 8000000 in
theorem depthsOf_any (A : Option Addr) (n mm c : Nat) (xss : List (List Int)) (B : Option Addr) (d : Nat) (ls : List Int) (w : World) (hg : GoodL n mm xss ls) (h : RowsAt w A mm xss) (g : NumsAt w B n ls) :
    Calls Try.prog 96 #[.agg #[.int .i64 (n : Int), .slice A mm c, .slice B n d]] w fun e w' => ∃ M : Array Value, e = .returned (.agg M) ∧ M.toList = (rowF 1024 (tabF mm (belB n xss ls) (2 ^ n) 1024)).map (Value.int .i64) ∧ Below w.heap.size w w' := by
  obtain ⟨iI0, iI1, iI2, iI3, iI4⟩ := info_parts info_setU
  have hn10 : n ≤ 10 := hg.good.n10
  have hN : 2 ^ n ≤ 1024 := pow_le hn10
  have hN0 : 0 < 2 ^ n := Nat.two_pow_pos n
  obtain ⟨N, hNe⟩ : ∃ N, N = 2 ^ n := ⟨_, rfl⟩
  obtain ⟨bel, hbel⟩ : ∃ bel, bel = belB n xss ls := ⟨_, rfl⟩
  have HG := Lib.hid hg
  have HX := Lib.hid h
  have HY := Lib.hid g
  obtain ⟨W1, hW1⟩ : ∃ W1, W1 = w.alloc (.cells #[.int .i64 (n : Int), .slice A mm c, .slice B n d] 33) := ⟨_, rfl⟩
  obtain ⟨W2, hW2⟩ : ∃ W2, W2 = W1.alloc (.cells (Array.replicate 1024 (Value.int .i64 0)) 76) := ⟨_, rfl⟩
  obtain ⟨W3, hW3⟩ : ∃ W3, W3 = W2.alloc (.cells (Array.replicate 1024 (Value.int .i64 0)) 76) := ⟨_, rfl⟩
  have s1 : W1.heap.size = w.heap.size + 1 := by rw [hW1, World.size_alloc]
  have s2 : W2.heap.size = w.heap.size + 2 := by rw [hW2, World.size_alloc, s1]
  have s3 : W3.heap.size = w.heap.size + 3 := by rw [hW3, World.size_alloc, s2]
  have b1 : Below w.heap.size w W1 := by rw [hW1]; exact (Below.refl _ _).alloc (Nat.le_refl _) _
  have b2 : Below W1.heap.size W1 W2 := by rw [hW2]; exact (Below.refl _ _).alloc (Nat.le_refl _) _
  have b3 : Below W2.heap.size W2 W3 := by rw [hW3]; exact (Below.refl _ _).alloc (Nat.le_refl _) _
  have x1 : LBox W3 w.heap.size (n : Int) A mm c B n d := Box.below (Box.below (by rw [hW1]; exact Box.new _ _ _) b2) b3
  have x2 : W3.heap[w.heap.size + 1]? = some (.cells (Array.replicate 1024 (Value.int .i64 0)) 76 (0, 0)) := (b3.block _ (by omega)).trans (by rw [hW2, ← s1]; exact heap_alloc_new _ _)
  have x3 : DepAt W3 w.heap.size (w.heap.size + 2) (fun _ => 0) := by rw [hW3, ← s2]; exact deps_new W2 _ (by omega)
  have X1 := Lib.hid x1
  have X2 := Lib.hid x2
  have X3 := Lib.hid x3
  have S3 := Lib.hid s3
  have B3 := Lib.hid (below_then (below_then b1 b2) b3)
  have HW1 := Lib.hid hW1
  have HW2 := Lib.hid hW2
  have HW3 := Lib.hid hW3
  have HBE := Lib.hid hbel
  have HNE := Lib.hid hNe
  rw [← hNe] at hN hN0 ⊢
  rw [← hbel]
  clear hg h g s1 s2 s3 b1 b2 b3 x1 x2 x3 hW1 hW2 hW3 hbel hNe
  go_enter Try.func96, Try.ntmps96
  go_upto_region 2 with fail
  rw [zero_deps, ← HW1.out, ← HW2.out, ← HW3.out]
  have q0 := X1.out 0 _ rfl
  have q1 := X1.out 1 _ rfl
  obtain ⟨T, hT⟩ : ∃ T, T = 2 ^ n - 1 := ⟨_, rfl⟩
  have hadd : IntKind.u16.wrap ((T : Int) + 1) = (N : Int) := by
    rw [IntKind.wrap_u16]
    have h1 := HNE.out
    omega
  have HTT := Lib.hid hT
  clear hT
  go_wp2_with fail
  refine (allStates_any A n mm c W3 hn10).mono ?_
  rw [← HTT.out]
  rintro e w4 ⟨rfl, b4⟩
  have X14 := Lib.hid (show LBox w4 w.heap.size (n : Int) A mm c B n d from Box.below X1.out b4)
  have X24 := Lib.hid ((b4.block _ (block_ltL X2.out)).trans X2.out)
  have X34 := Lib.hid (show DepAt w4 w.heap.size (w.heap.size + 2) (tabF mm bel 0 0) by
    have h9 : DepAt w4 w.heap.size (w.heap.size + 2) (fun _ => 0) := own_below X3.out b4
    have e : tabF mm bel 0 0 = fun _ => 0 := by funext c; unfold tabF; rw [if_neg (Nat.not_lt_zero _)]
    rw [e]; exact h9)
  have B4 := Lib.hid (below_then B3.out b4)
  have S4 := Lib.hid (show w.heap.size + 3 ≤ w4.heap.size by have := b4.size; have := S3.out; omega)
  obtain ⟨ALL, hALL⟩ : ∃ ALL, ALL = w.heap.size + 2 := ⟨_, rfl⟩
  have HALL := Lib.hid hALL
  rw [← hALL] at X34
  rw [show w.heap.size + 1 + 1 = ALL from hALL.symm]
  obtain ⟨O, hO⟩ : ∃ O, O = w4.heap.size := ⟨_, rfl⟩
  have hOA : ALL + 1 ≤ O := by have := S4.out; omega
  have HO := Lib.hid hO
  clear b4 q0 q1 X1 X2 X3 hALL hO
  go_wp2_with fail
  clear hadd
  go_loopw [4, 12] (fun ov iv wr => ∃ (k : Nat) (os : List Nat), k ≤ N ∧ iv = .int .u16 k ∧ os = openN mm bel 0 k ∧ wr.ownsRow O 80 1 ov os.length (os.map bitU) ∧ DepAt wr w.heap.size ALL (tabF mm bel k 0) ∧ LBox wr w.heap.size (n : Int) A mm c B n d ∧ wr.heap[w.heap.size + 1]? = some (.cells (Array.replicate 1024 (Value.int .i64 0)) 76 (0, 0)) ∧ Below w.heap.size w wr ∧ O ≤ wr.heap.size) (fun _ iv _ => N - (intOf iv).toNat)
  case atStart => exact ⟨0, [], Nat.zero_le _, rfl, rfl, World.ownsRow_nil _ _ _ _, X34.out, X14.out, X24.out, B4.out, Nat.le_of_eq HO.out⟩
  case round =>
    obtain ⟨k, os, hk, rfl, hos, hown, hdep, hbox, hres, hbel, hsz⟩ := hrel
    obtain ⟨wo, hwo⟩ : ∃ wo, wo = wr := ⟨_, rfl⟩
    rw [← hwo] at hown hdep hbox hres hbel hsz ⊢
    clear hwo
    obtain ⟨A4, c4, rfl⟩ := own_form hown
    have HOS := Lib.hid hos
    have HOW := Lib.hid hown
    have HDE := Lib.hid hdep
    have HBX := Lib.hid hbox
    have HRE := Lib.hid hres
    have HB := Lib.hid hbel
    have HSZ := Lib.hid hsz
    have hosl : os.length ≤ 1024 := by rw [hos]; exact Nat.le_trans (openN_len_le _ _) (by omega)
    have hk0 : (0 : Int) ≤ (k : Int) := by omega
    clear hos hown hbox hres hbel hsz
    by_cases hlt : k < N
    · have hkN : (k : Int) < (N : Int) := by omega
      have hk10 : k < 1024 := by omega
      have hadd : IntKind.u16.wrap ((k : Int) + 1) = (k : Int) + 1 := by rw [IntKind.wrap_u16]; omega
      go_wp2_with fail
      refine (isMerged_any k wo hk10).mono ?_
      rintro e w5 ⟨rfl, k5, hk5⟩
      have b5 : Below wo.heap.size wo w5 := by rw [hk5]; exact below_drewN' (Below.refl _ _) _
      have HOW5 := Lib.hid (own_below HOW.out b5)
      have hdep5 : DepAt w5 w.heap.size ALL (tabF mm bel k 0) := own_below hdep b5
      have HDE5 := Lib.hid hdep5
      have HBX5 := Lib.hid (show LBox w5 w.heap.size (n : Int) A mm c B n d from Box.below HBX.out b5)
      have HRE5 := Lib.hid ((b5.block _ (block_ltL HRE.out)).trans HRE.out)
      have HB5 := Lib.hid (below_then HB.out b5)
      have HSZ5 := Lib.hid (show O ≤ w5.heap.size by have := HSZ.out; have := b5.size; omega)
      clear hk5 b5 hdep HOW HDE HBX HRE HB HSZ
      by_cases h1 : Lib.onesCount k ≤ 1
      · have H1 := Lib.hid h1
        rw [decide_eq_true h1]
        clear h1 hdep5
        go_wp2_with fail
        go_roundw
        case rel =>
          refine ⟨k + 1, os, by omega, by go_num, ?_, HOW5.out, ?_, HBX5.out, HRE5.out, HB5.out, HSZ5.out⟩
          · rw [openN_succ, if_pos (by rw [depN_merged H1.out 0]; exact Int.le_refl _), List.append_nil]; exact HOS.out
          · rw [show tabF mm bel (k + 1) 0 = tabF mm bel k 0 from funext fun c => (tab_merged H1.out c).symm]; exact HDE5.out
        case measure => simp [intOf]; omega
      · have H1 := Lib.hid h1
        have hck := hdep5.cell hk10
        have hfk := World.ownsRow.frozenAt hdep5 k
        obtain ⟨w6, hw6⟩ : ∃ w6, w6 = w5.setCell ⟨ALL, k, none⟩ (.int .i64 1024) := ⟨_, rfl⟩
        have HST := Lib.hid (show DepAt w6 w.heap.size ALL _ by rw [hw6]; exact hdep5.store (b := k) 1024)
        have HBX6 := Lib.hid (show LBox w6 w.heap.size (n : Int) A mm c B n d by rw [hw6]; exact Box.only HBX5.out (only_setCellL _ _ _ _) (.inl (by have := HALL.out; omega)))
        have HRE6 := Lib.hid (show w6.heap[w.heap.size + 1]? = some (.cells (Array.replicate 1024 (Value.int .i64 0)) 76 (0, 0)) by rw [hw6]; exact (heap_setCell_other w5 ⟨ALL, k, none⟩ (w.heap.size + 1) (.int .i64 1024) (by show w.heap.size + 1 ≠ ALL; have := HALL.out; omega)).trans HRE5.out)
        have HB6 := Lib.hid (show Below w.heap.size w w6 by rw [hw6]; exact HB5.out.setCell (p := ⟨ALL, k, none⟩) (by show w.heap.size ≤ ALL; have := HALL.out; omega) (.int .i64 1024))
        have HOW6 := Lib.hid (show w6.ownsRow O 80 1 (.slice A4 os.length c4) os.length (os.map bitU) by rw [hw6]; exact (only_setCellL w5 ALL k (.int .i64 1024)).own HOW5.out (fun g' hg' => .inr (by have := (HOW5.out.lt g' hg').1; omega)))
        have HSZ6 := Lib.hid (show O ≤ w6.heap.size by rw [hw6, World.size_setCell]; exact HSZ5.out)
        have HW6 := Lib.hid hw6
        rw [decide_eq_false h1]
        clear h1 hdep5 hw6
        go_upto_region 8 with fail
        rw [← HW6.out]
        clear hck hfk
        go_wp2_with (at_builtin; refine wpList_append_own _ rfl _ _ 148 rfl O 80 iI0 (.int .u16 0) 1 2 Try.underlying148 iI1 iI2 iI3 iI4 rfl (by decide) _ _ _ rfl (World.ownsRow.alloc (HOW6.out) _) ⟨_, 0, none⟩ 1 1 [.int .u16 (k : Int)] rfl rfl (cell_one_new _ _ _) (ones_bitU [k]) (by unfold maxLen; omega) (by omega) (by rw [World.size_alloc]; exact Nat.le_succ_of_le HSZ6.out) ?_)
        intro v' w7 hown' hgrow _
        have ba : Below w6.heap.size w6 (w6.alloc (.cells #[.int .u16 (k : Int)] 80)) := (Below.refl _ _).alloc (Nat.le_refl _) _
        have hb7 : Below O w6 w7 := (ba.mono HSZ6.out).grown hgrow (by rw [World.size_alloc]; exact Nat.le_succ_of_le HSZ6.out) (fun g hg => (HOW6.out.lt g hg).1)
        have HO7 := Lib.hid hown'
        have HB7 := Lib.hid (HB6.out.trans (hb7.mono (by have := HALL.out; omega)))
        have HS7 := Lib.hid (Nat.le_trans HSZ6.out hb7.size)
        have HRE7 := Lib.hid ((hb7.block (w.heap.size + 1) (by have := HALL.out; omega)).trans HRE6.out)
        have on7 : Only O w6.heap.size w6 w7 := ⟨hb7.os, hb7.tape, hb7.output, hb7.size, fun i hi hb => hb7.block i (by omega)⟩
        have HBX7 := Lib.hid (show LBox w7 w.heap.size (n : Int) A mm c B n d from Box.only HBX6.out on7 (.inl (by have := HALL.out; omega)))
        have HST7 := Lib.hid (show DepAt w7 w.heap.size ALL _ from on7.own HST.out (fun g' hg' => .inl (by have e : ALL = g' := Option.some.inj hg'; omega)))
        clear hown' hgrow ba hb7 on7
        go_wp2_with fail
        go_roundw
        case rel =>
          refine ⟨k + 1, os ++ [k], by omega, by go_num, ?_, by rw [List.length_append, List.map_append]; exact HO7.out, ?_, HBX7.out, HRE7.out, HB7.out, HS7.out⟩
          · rw [openN_succ, if_neg (by rw [depN_0, if_neg H1.out]; decide), HOS.out]
          · rw [show tabF mm bel (k + 1) 0 = fun c => if c = k then 1024 else tabF mm bel k 0 c from funext fun c => (tab_apart H1.out c).symm]; exact HST7.out
        case measure => simp [intOf]; omega
    · have hkN : k = N := by omega
      have HOSN := Lib.hid (show os = openN mm bel 0 N by rw [← hkN]; exact HOS.out)
      have HDN := Lib.hid (show DepAt wo w.heap.size ALL (tabF mm bel N 0) by rw [← hkN]; exact HDE.out)
      clear hkN hdep
      obtain ⟨W8, hW8⟩ : ∃ W8, W8 = wo.alloc (.cells #[.int .i64 1] 2) := ⟨_, rfl⟩
      have hb8 : Below wo.heap.size wo W8 := by rw [hW8]; exact (Below.refl _ _).alloc (Nat.le_refl _) _
      have hc8 : W8.heap[wo.heap.size]? = some (.cells #[.int .i64 1] 2 (0, 0)) := by rw [hW8]; exact heap_alloc_new _ _
      have HI8 := Lib.hid (show LoopAt O w ALL (w.heap.size + 1) n mm A c B d bel N 0 (.slice A4 os.length c4) wo.heap.size 0 W8 from by
        refine ⟨A4, os.length, c4, rfl, by rw [HOSN.out], ?_, ?_, ?_, ?_, ?_, ?_, HSZ.out, ?_, .inl rfl, .inl ⟨rfl, rfl⟩, ?_, ?_⟩
        · have := own_below HOW.out hb8; rw [← HOSN.out]; exact this
        · exact own_below HDN.out hb8
        · exact Box.below HBX.out hb8
        · exact (hb8.block _ (block_ltL HRE.out)).trans HRE.out
        · exact cell_of_row _ _ 0 _ _ _ hc8
        · exact frozen_of_row _ _ 0 _ _ hc8
        · intro g hg; exact Nat.ne_of_lt (HOW.out.lt g hg).2
        · exact below_then HB.out hb8
        · exact Nat.le_trans HSZ.out hb8.size)
      have HW8 := Lib.hid hW8
      have hmf : ∀ (fn : Fn) (first cap : Array Value) (w : World), (Instr.makeFunc fn first cap).run Try.prog w = .ok (.func fn first cap) w := fun _ _ _ _ => rfl
      clear hb8 hc8 hW8 HOW HBX HRE HB HSZ HOSN HDN HOS HDE
      go_wp2_with fail
      rw [← HW8.out]
      go_loopw [4, 6, 7] (fun ov pv lv wr => ∃ (dd PD lastN : Nat) (LI : Int), pv = .pointer (some ⟨PD, 0, none⟩) ∧ lv = .int .i64 LI ∧ LI = (lastN : Int) ∧ LoopAt O w ALL (w.heap.size + 1) n mm A c B d bel N dd ov PD lastN wr) (fun ov _ lv _ => 2 * lenV ov + (if intOf lv = (lenV ov : Int) then 0 else 1))
      case atStart => exact ⟨0, _, 0, 0, rfl, rfl, rfl, HI8.out⟩
      case round =>
        obtain ⟨dd, PD, lastN, LI, rfl, rfl, hLI, A4, m, c4, rfl, hm, hown, hdep, hbox, hres, hpd, hpf, hPO, hne, haddr, hq, hbel, hsz⟩ := hrel
        obtain ⟨wi, hwi⟩ : ∃ wi, wi = wr := ⟨_, rfl⟩
        rw [← hwi] at hown hdep hbox hres hpd hpf hbel hsz ⊢
        clear hwi
        have hmN : m ≤ N := by rw [hm]; exact openN_len_le _ _
        have hbl : ∀ b x v, b < N → x < mm → v < 4 → bel b x v < N := by
          intro b x v _ hx _
          rw [HBE.out, HNE.out]
          exact belB_lt HG.out b x v hx
        have HBL := Lib.hid hbl
        have HM := Lib.hid hm
        have HOW := Lib.hid hown
        have HDE := Lib.hid hdep
        have HBX := Lib.hid hbox
        have HRE := Lib.hid hres
        have HPD := Lib.hid hpd
        have HPF := Lib.hid hpf
        have HNEQ := Lib.hid hne
        have HAD := Lib.hid haddr
        have HQ := Lib.hid hq
        have HB := Lib.hid hbel
        have HSZ := Lib.hid hsz
        have HLI := Lib.hid hLI
        by_cases heq : lastN = m
        · have hst : ∀ c, tabF mm bel N dd c = tabF mm bel N 1024 c := by
            have key : ∃ d', d' ≤ 1024 ∧ d' ≤ dd ∧ ∀ b, b < N → ¬ 0 ≤ depN mm bel d' b → ¬ leadN mm bel d' b := by
              rcases hq with ⟨h1, h2⟩ | ⟨d', h1, h2, h3⟩
              · refine ⟨0, by omega, by omega, fun b hb h4 _ => ?_⟩
                have h5 : b ∈ openN mm bel 0 N := openN_mem.2 ⟨hb, h4⟩
                rw [h1] at hm
                rw [List.eq_nil_of_length_eq_zero (l := openN mm bel 0 N) (by omega)] at h5
                cases h5
              · refine ⟨d', by have := knownN_le (m := mm) (bel := bel) N d'; omega, by omega, fun b hb h4 h5 => ?_⟩
                have h6 := knownN_lt hb h4 h5
                have h7 := openN_known (mm := mm) (bel := bel) d' N
                have h8 := openN_known (mm := mm) (bel := bel) (d' + 1) N
                rw [h1] at hm
                omega
            obtain ⟨d', h1, h2, h3⟩ := key
            intro c
            unfold tabF
            by_cases hc : c < N
            · have e1 : depN mm bel dd c = depN mm bel d' c := by
                rw [show dd = d' + (dd - d') from by omega]; exact depN_stable h3 hbl _ c hc
              have e2 : depN mm bel 1024 c = depN mm bel d' c := (depF_of h3 hbl h1 hc).symm
              rw [e1, e2]
            · rw [if_neg hc, if_neg hc]
          have hfin : DepAt wi w.heap.size ALL (tabF mm bel N 1024) := by
            rw [show tabF mm bel N 1024 = tabF mm bel N dd from funext fun c => (hst c).symm]; exact hdep
          have hli : ((LI : Int) != (m : Int)) = false := by rw [hLI, heq]; simp
          obtain ⟨M, hM1, hM2, hM3⟩ := depAt_heap hfin
          have K2 := Lib.hid hM1
          have MS := Lib.hid hM2
          have MT := Lib.hid hM3
          have MO := Lib.hid (show M.all (·.oneCell') = true by
            rw [← Array.all_toList, hM3, List.all_eq_true]
            intro u hu
            obtain ⟨y, _, rfl⟩ := List.mem_map.1 hu
            rfl)
          have ZS := Lib.hid (show (Array.replicate 1024 (Value.int .i64 0)).size = 1024 by simp)
          clear hst hfin hM1 hM2 hM3 hm hown hdep hbox hres hpd hpf hPO hne haddr hq hbel hsz hbl hLI heq
          go_wp2_with (first
            | (refine wpList_load_row rfl 76 _ rfl ALL rfl 76 M (0, 0) _ K2.out Try.underlying76 rfl (by rw [MS.out]; exact size_deps) ?_)
            | (refine wpList_store_mid rfl 76 _ _ rfl (w.heap.size + 1) 0 M rfl rfl (there_of HRE.out (by rw [MS.out, ZS.out]; exact Nat.le_refl 1024)) (by rw [MS.out]; exact size_deps) MO.out ?_))
          have hw := setCells_whole (vs := M.toList) HRE.out (by rw [Array.length_toList, MS.out, ZS.out])
          rw [Array.toArray_toList] at hw
          exact bodyPost_ret (v := .agg M) (results_cell_row rfl _ _ (w.heap.size + 1) 76 _ (0, 0) _ rfl hw Try.underlying76 rfl (by rw [MS.out]; exact size_deps)) rfl ⟨M, rfl, MT.out, setCells_below (by omega) _ _ _ HB.out⟩
        · have hli : ((LI : Int) != (m : Int)) = true := by rw [bne_iff_ne, hLI]; omega
          obtain ⟨g, rfl⟩ : ∃ g, A4 = some ⟨g, 0, none⟩ := by
            rcases haddr with h1 | h1
            · rcases hq with ⟨_, h2⟩ | ⟨d', h2, _⟩
              · exact own_addr hown (by omega)
              · omega
            · exact h1
          have hd2 : dd + 2 ≤ knownN mm bel N dd := by
            rcases hq with ⟨h1, _⟩ | ⟨d', h1, h2, h3⟩
            · rw [h1]
              exact known_two (by rw [HNE.out]; have := Nat.pow_le_pow_right (show 0 < 2 by decide) HG.out.good.n1; omega)
            · have h4 := openN_known (mm := mm) (bel := bel) d' N
              have h5 := openN_known (mm := mm) (bel := bel) (d' + 1) N
              have h6 := knownN_mono (mm := mm) (bel := bel) N d'
              rw [h1] at hm ⊢
              omega
          have hkN := knownN_le (m := mm) (bel := bel) N dd
          have hgO := (hown.lt g rfl)
          have hgPD : g ≠ PD := hne g rfl
          have HD2 := Lib.hid hd2
          have HOK := Lib.hid (show DelOk 127 #[.pointer (some ⟨ALL, 0, none⟩), .pointer (some ⟨w.heap.size, 0, none⟩), .pointer (some ⟨PD, 0, none⟩)] (fun b => decide (0 ≤ depN mm bel (dd + 1) b))
              (fun W k => DepAt W w.heap.size ALL (passF mm bel N dd k) ∧ LBox W w.heap.size (n : Int) A mm c B n d ∧ W.cell? ⟨PD, 0, none⟩ = some (.int .i64 ((dd + 1 : Nat) : Int)) ∧ Below w.heap.size w W) g (openN mm bel dd N) ALL (ALL + 1) from by
            refine ⟨fun _ _ => rfl, .inr (by omega), ?_, ?_⟩
            · rintro k b W hb ⟨j1, j2, j3, j4⟩
              have hbm := openN_mem.1 (List.mem_of_getElem? hb)
              refine (takes_any w.heap.size ALL w.heap.size PD (passF mm bel N dd k) ((dd + 1 : Nat) : Int) A n mm c xss B d ls b W HG.out (HX.out.below j4) (HY.out.below j4) j1 j2 j3 (by omega)).mono ?_
              rw [← HBE.out]
              rintro e w' ⟨rfl, d1, o1⟩
              have hiff := (tells_lead (passF_tells (mm := mm) (bel := bel) (N := N) (d := dd) (k := k) (by omega)) (by have := HG.out.good.m1; omega) hbm.1 hbl).trans (lead_known hbm.2)
              refine ⟨ret_bool (decide_eq_decide.2 hiff), ⟨?_, ?_, ?_, ?_⟩, o1⟩
              · by_cases h9 : 0 ≤ depN mm bel (dd + 1) b
                · rw [if_pos (hiff.2 h9), passF_yes hb h9] at d1; exact d1
                · rw [if_neg (fun k => h9 (hiff.1 k)), passF_no hb h9] at d1; exact d1
              · exact Box.only j2 o1 (.inl (by have := HALL.out; omega))
              · exact (o1.cell (cell_lt j3) (.inr (by show ALL + 1 ≤ PD; omega))).trans j3
              · exact Only.below j4 o1 (by have := HALL.out; omega) j4.size
            · rintro W W' k ⟨j1, j2, j3, j4⟩ on
              refine ⟨on.own j1 (fun g' hg' => .inl (by have e : ALL = g' := Option.some.inj hg'; omega)), Box.only j2 on (.inl (by have := HALL.out; omega)), (on.cell (cell_lt j3) (by show PD < g ∨ g + 1 ≤ PD; omega)).trans j3, Only.below j4 on (by have := HALL.out; omega) j4.size⟩)
          have HJ0 := Lib.hid (show DepAt wi w.heap.size ALL (passF mm bel N dd 0) by rw [passF_0]; exact hdep)
          have hDI : ((dd + 1 : Nat) : Int) ≤ 1025 := by omega
          obtain ⟨DD, hDD⟩ : ∃ DD : Int, DD = ((dd + 1 : Nat) : Int) := ⟨_, rfl⟩
          have HDD := Lib.hid hDD
          have hDD1 : 1 ≤ DD := by omega
          have hDD2 : DD ≤ 1025 := by omega
          clear hm hown hdep hbox hres hpd hpf haddr hq hbel hsz hbl hLI hd2 hkN hne hDI hDD
          go_wp2_with fail
          refine (deleteFuncU_any 127 _ (fun b => decide (0 ≤ depN mm bel (dd + 1) b)) _ 80 g ALL (ALL + 1) O m c4 (openN mm bel dd N) wi HOK.out (by omega) HM.out.symm HOW.out ⟨HJ0.out, HBX.out, HPD.out, HB.out⟩).mono ?_
          rintro e w9 ⟨m9, hm9, rfl, o9, ⟨j1, j2, j3, j4⟩, on9⟩
          rw [openN_next] at hm9 o9
          rw [← HDD.out] at j3
          have HM9 := Lib.hid hm9
          have HO9 := Lib.hid o9
          have hon : Only ALL wi.heap.size wi w9 := on9 ALL wi.heap.size (Nat.le_refl _) (by omega) (by omega) hgO.2
          have HJ1 := Lib.hid (show DepAt w9 w.heap.size ALL (tabF mm bel N (dd + 1)) by
            rw [show tabF mm bel N (dd + 1) = passF mm bel N dd m from funext fun c => by rw [HM.out]; exact (passF_all N dd c).symm]; exact j1)
          have HJ2 := Lib.hid j2
          have HJ4 := Lib.hid j4
          have HR9 := Lib.hid ((hon.block (w.heap.size + 1) (block_ltL HRE.out) (.inl (by have := HALL.out; omega))).trans HRE.out)
          have HZ9 := Lib.hid hon.size
          have hg9 := (o9.lt g rfl).2
          have hm9m : m9 ≤ m := by rw [hm9, HM.out]; exact openN_le dd N
          clear hm9 o9 j1 j2 j4 on9 hon
          go_wp2_with fail
          have hb : Below w9.heap.size w9 (w9.alloc (.cells #[.int .i64 (DD + 1)] 2)) := (Below.refl _ _).alloc (Nat.le_refl _) _
          have hc := heap_alloc_new w9 (.cells #[.int .i64 (DD + 1)] 2)
          refine ⟨⟨dd + 1, w9.heap.size, m, (m : Int), rfl, rfl, rfl, some ⟨g, 0, none⟩, m9, c4, rfl, HM9.out, own_below HO9.out hb, own_below HJ1.out hb, Box.below HJ2.out hb, (hb.block _ (block_ltL HR9.out)).trans HR9.out, ?_, frozen_of_row _ _ 0 _ _ hc, by have := HSZ.out; have := HZ9.out; omega, fun g' hg' => ?_, .inr ⟨g, rfl⟩, .inr ⟨dd, rfl, HM.out, HD2.out⟩, below_then HJ4.out hb, by have := HSZ.out; have := HZ9.out; have := hb.size; omega⟩, ?_⟩
          · rw [cell_of_row _ _ 0 _ _ _ hc]
            have e : DD + 1 = ((dd + 1 + 1 : Nat) : Int) := by rw [HDD.out]; push_cast; rfl
            rw [e]; rfl
          · have e : g = g' := Option.some.inj hg'
            omega
          · have h1 : ¬ LI = (m : Int) := by rw [HLI.out]; omega
            show 2 * m9 + (if (m : Int) = (m9 : Int) then 0 else 1) < 2 * m + (if LI = (m : Int) then 0 else 1)
            rw [if_neg h1]
            by_cases h2 : m9 = m
            · rw [h2, if_pos rfl]; omega
            · rw [if_neg (by omega)]; omega

end Go.Proofs.Ytdelanjkaokiaaa
