/-
  The program's PreimageOf.
-/
import Derived.Test.YtnnjcpihaobkaaaPre
namespace Go.Proofs.Ytnnjcpihaobkaaa
open Go.RowKit Go.Deep Go.ChangeShapes Go.WideShapes

/-- The states below k from which the word leads to the set, as marks. -/
def preM (xss : List (List Int)) (set ws : List Int) (k : Nat) : Nat → Bool := fun q => decide (q < k) && hasB set ((toS xss ws q : Nat) : Int)
theorem preM_0 (xss : List (List Int)) (set ws : List Int) : preM xss set ws 0 = fun _ => false := by funext q; simp [preM]
theorem preM_step (xss : List (List Int)) (set ws : List Int) (k : Nat) : upd (preM xss set ws k) k (hasB set ((toS xss ws k : Nat) : Int)) = preM xss set ws (k + 1) := by
  funext q
  unfold upd preM
  by_cases h : q = k
  · subst h; simp
  · have e : decide (q < k + 1) = decide (q < k) := by congr 1; exact propext ⟨fun _ => by omega, fun _ => by omega⟩
    rw [if_neg h, e]
theorem setL_pre {xss : List (List Int)} {set ws : List Int} {n : Nat} (hn : n ≤ 10) : setL (preM xss set ws n) 10 = backL xss set ws n := by
  obtain ⟨d, hd⟩ : ∃ d, 10 = n + d := ⟨10 - n, by omega⟩
  rw [hd]
  unfold setL backL
  congr 1
  clear hd
  induction d with
  | zero =>
    apply List.filter_congr
    intro q hq
    have : q < n := by simpa using hq
    simp [preM, this]
  | succ d ih =>
    rw [show n + (d + 1) = (n + d) + 1 from rfl, List.range_succ, List.filter_append, ih]
    have : ¬ n + d < n := by omega
    simp [preM, this]

/-- What the blocks of PreimageOf hold: the action, the set's marks, the marks so far. -/
structure PreAt (w : World) (G9 G10 G11 : Nat) (act : List Int) (F f : Nat → Bool) (wr : World) : Prop where
  act : wr.heap[G9]? = some (.cells (arr act) 89 (0, 0))
  mks : wr.heap[G10]? = some (.cells (marr F) 94 (0, 0))
  pre : wr.heap[G11]? = some (.cells (marr f) 94 (0, 0))
  bel : Below w.heap.size w wr
theorem preAt_step {w wr : World} {G9 G10 G11 : Nat} {act : List Int} {F f : Nat → Bool} {k : Nat} (h : PreAt w G9 G10 G11 act F f wr) (h1 : G9 ≠ G11) (h2 : G10 ≠ G11) (h3 : w.heap.size ≤ G11) (hk : k < 10) (b : Bool) :
    PreAt w G9 G10 G11 act F (upd f k b) (wr.setCell ⟨G11, k, none⟩ (.bool b)) := by
  refine ⟨?_, ?_, ?_, h.bel.setCell h3 _⟩
  · rw [heap_setCell_other wr ⟨G11, k, none⟩ G9 _ h1]; exact h.act
  · rw [heap_setCell_other wr ⟨G11, k, none⟩ G10 _ h2]; exact h.mks
  · rw [heap_setCell_same wr G11 k _ _ _ h.pre, marr_set f hk]

set_option maxRecDepth 100000 in
set_option maxHeartbeats 4000000 in
theorem implPreimageOf_any (s : Int) (A A2 A' : Option Addr) (m cap l2 cap2 l cap' : Nat) (xss : List (List Int)) (set ws : List Int) (w : World) (h : RowsAt w A m xss) (hs : NumsAt w A2 l2 set) (h' : NumsAt w A' l ws) (hm : m ≤ 4611686018427387904) (hl2 : l2 ≤ 4611686018427387904) (hl : l ≤ 4611686018427387904)
    (hrows : ∀ (r : Nat) (xs : List Int), xss[r]? = some xs → xs.length ≤ 4611686018427387904) :
    Calls Try.prog 25 #[.agg #[.int .i64 s, .slice A m cap], .slice A2 l2 cap2, .slice A' l cap'] w (ListsTo (preimageOf s xss set ws) w) := by
  have HR := Lib.hid hrows
  have HM := Lib.hid h.1
  have b0 : Below w.heap.size w (w.alloc (.cells #[.int .i64 s, .slice A m cap] 27)) := (Below.refl _ _).alloc (Nat.le_refl _) _
  have H0 := Lib.hid (h.below b0)
  have H0' := Lib.hid (h'.below b0)
  have HS := Lib.hid (hs.below b0)
  have B0 := Lib.hid b0
  clear hrows b0
  obtain ⟨c, hc⟩ : ∃ c, c = codeB s xss set ws := ⟨_, rfl⟩
  by_cases hc0 : c = 0
  · subst hc0
    have HF := Lib.hid (preimageOf_0 hc.symm)
    obtain ⟨hok, hse, hwd⟩ := code_parts hc.symm
    obtain ⟨n, hsn, hg⟩ := good_of hok HM.out
    subst hsn
    rw [HM.out] at hwd
    have HG := Lib.hid hg
    have hn10 : n ≤ 10 := hg.n10
    have HWL := Lib.hid (word_letters hwd)
    have HSM := Lib.hid (setB_mem hse)
    have hA := actK_is hg ws (word_letters hwd) ws.length (Nat.le_refl _)
    rw [List.take_length] at hA
    obtain ⟨a0, a1, a2, a3, a4, a5, a6, a7, a8, a9, hten⟩ := ten hA.1
    have hT := Lib.hid hten
    have hAQ := Lib.hid hA.2
    have HC := Lib.hid hc
    obtain ⟨F, hF⟩ : ∃ F : Nat → Bool, F = fun q : Nat => hasB set (q : Int) := ⟨_, rfl⟩
    have HFF := Lib.hid hF
    clear hok hse hwd hg hA hten hc hF
    go_enter Try.func25, Try.ntmps25
    go_wp2_with fail
    refine (checkSetAndWord_any (n : Int) A A' A2 m cap l cap' l2 cap2 xss set ws _ H0.out HS.out H0'.out hm hl hl2 HR.out).mono ?_
    rw [← HC.out]
    rintro e w1 ⟨rfl, b1⟩
    have d0 : w1.cell? ⟨w.heap.size, 0, none⟩ = some (.int .i64 (n : Int)) := (b1.cell (by simp)).trans (by go_cell)
    have d1 : w1.cell? ⟨w.heap.size, 1, none⟩ = some (.slice A m cap) := (b1.cell (by simp)).trans (by go_cell)
    have H1 := Lib.hid (H0.out.below b1)
    have H1' := Lib.hid (H0'.out.below b1)
    have S1 := Lib.hid (HS.out.below b1)
    have B1 := Lib.hid (below_then B0.out b1)
    clear b1
    go_wp2_with fail
    refine (wordAction_any A A' n m cap l cap' xss ws _ HG.out H1.out H1'.out HWL.out hl).mono ?_
    rw [hT.out, show arr [a0, a1, a2, a3, a4, a5, a6, a7, a8, a9] = #[.int .i64 a0, .int .i64 a1, .int .i64 a2, .int .i64 a3, .int .i64 a4, .int .i64 a5, .int .i64 a6, .int .i64 a7, .int .i64 a8, .int .i64 a9] from rfl]
    rintro e w2 ⟨rfl, b2⟩
    have e0 : w2.cell? ⟨w.heap.size, 0, none⟩ = some (.int .i64 (n : Int)) := (b2.cell (cell_lt d0)).trans d0
    have S2 := Lib.hid (S1.out.below b2)
    have B2 := Lib.hid (below_then B1.out b2)
    have hlt2 : w.heap.size < w2.heap.size := cell_lt e0
    have HLT2 := Lib.hid hlt2
    clear b2 d0 d1 hlt2
    go_wp2_with fail
    refine (markSet_any A2 l2 cap2 set _ (S2.out.below ((Below.refl _ _).alloc (Nat.le_refl _) _)) hl2 (fun x hx => by have := HSM.out x hx; omega)).mono ?_
    rw [← HFF.out, show marr F = #[.bool (F 0), .bool (F 1), .bool (F 2), .bool (F 3), .bool (F 4), .bool (F 5), .bool (F 6), .bool (F 7), .bool (F 8), .bool (F 9)] from rfl]
    rintro e w3 ⟨rfl, b3⟩
    have hlt3 : w2.heap.size < w3.heap.size := by have := b3.size; simp at this; omega
    have hx9 : w3.heap[w2.heap.size]? = some (.cells (arr [a0, a1, a2, a3, a4, a5, a6, a7, a8, a9]) 89 (0, 0)) := by
      rw [b3.block _ (by simp)]
      exact heap_alloc_new _ _
    have B3 := Lib.hid (below_then (B2.out.alloc B2.out.size _) b3)
    have e0' : w3.cell? ⟨w.heap.size, 0, none⟩ = some (.int .i64 (n : Int)) := (b3.cell (by simp; have := HLT2.out; omega)).trans ((World.cell?_alloc_past _ _ _ (cell_lt e0)).trans e0)
    have h0 : PreAt w w2.heap.size w3.heap.size (w3.heap.size + 1) [a0, a1, a2, a3, a4, a5, a6, a7, a8, a9] F (preM xss set ws 0) ((w3.alloc (.cells (marr F) 94)).alloc (.cells (marr fun _ => false) 94)) := by
      have B3s := B3.out.size
      rw [preM_0]
      refine ⟨?_, ?_, ?_, (B3.out.alloc B3s _).alloc (by simp; omega) _⟩
      · rw [Below.heap_alloc _ _ _ (by simp; omega), Below.heap_alloc _ _ _ hlt3]; exact hx9
      · rw [Below.heap_alloc _ _ _ (by simp)]; exact heap_alloc_new _ _
      · have := heap_alloc_new (w3.alloc (.cells (marr F) 94)) (.cells (marr fun _ => false) 94)
        rw [World.size_alloc] at this
        exact this
    have e1 : ((w3.alloc (.cells (marr F) 94)).alloc (.cells (marr fun _ => false) 94)).cell? ⟨w.heap.size, 0, none⟩ = some (.int .i64 (n : Int)) := by
      rw [World.cell?_alloc_past _ _ _ (by have := cell_lt e0'; simp at this ⊢; omega), World.cell?_alloc_past _ _ _ (cell_lt e0')]
      exact e0'
    rw [show marr F = #[.bool (F 0), .bool (F 1), .bool (F 2), .bool (F 3), .bool (F 4), .bool (F 5), .bool (F 6), .bool (F 7), .bool (F 8), .bool (F 9)] from rfl, show (marr fun _ => false) = #[.bool false, .bool false, .bool false, .bool false, .bool false, .bool false, .bool false, .bool false, .bool false, .bool false] from rfl] at e1
    have P0 := Lib.hid h0
    have HLT3 := Lib.hid hlt3
    clear b3 e0 hlt3 hx9 h0
    go_wp2_with fail
    go_loopw [27] (fun i wr => ∃ k : Nat, k ≤ n ∧ i = .int .i64 k ∧ PreAt w w2.heap.size w3.heap.size (w3.heap.size + 1) [a0, a1, a2, a3, a4, a5, a6, a7, a8, a9] F (preM xss set ws k) wr) (fun i _ => n - (intOf i).toNat)
    case atStart => exact ⟨0, Nat.zero_le _, rfl, P0.out⟩
    case round =>
      obtain ⟨k, hk, rfl, hat⟩ := hrel
      have HT := Lib.hid hat
      clear hat P0 e0' e1
      by_cases hlt : k < n
      · have hq := hAQ.out k hlt
        rw [hT.out] at hq
        have hto := HG.out.to ws k HWL.out hlt
        obtain ⟨r, hr⟩ : ∃ r, r = toS xss ws k := ⟨_, rfl⟩
        rw [← hr] at hq hto
        have hr10 : r < 10 := by omega
        have hc9 : wr.cell? ⟨w2.heap.size, k, none⟩ = some (.int .i64 (r : Int)) := by
          rw [cell_of_row wr w2.heap.size k _ _ _ HT.out.act, arr_at, hq]; rfl
        have hc10 : wr.cell? ⟨w3.heap.size, r, none⟩ = some (.bool (F r)) := by
          rw [cell_of_row wr w3.heap.size r _ _ _ HT.out.mks, marr_at _ hr10]
        have hc11 : wr.cell? ⟨w3.heap.size + 1, k, none⟩ = some (.bool (preM xss set ws k k)) := by
          rw [cell_of_row wr (w3.heap.size + 1) k _ _ _ HT.out.pre, marr_at _ (show k < 10 by omega)]
        have hf11 : wr.frozen? ⟨w3.heap.size + 1, k, none⟩ = false := frozen_of_row wr (w3.heap.size + 1) k _ _ HT.out.pre
        have HRR := Lib.hid hr
        have hk10 : k < 10 := by omega
        have HK10 := Lib.hid hk10
        have i1 : (0 : Int) ≤ (k : Int) := by omega
        have i2 : (k : Int) < (n : Int) := by omega
        have i3 : (k : Int) < 10 := by omega
        have i4 : (0 : Int) ≤ (r : Int) := by omega
        have i5 : (r : Int) < 10 := by omega
        clear hq hto hr hk10 hr10
        go_wp2_with fail
        go_roundw
        case rel =>
          refine ⟨k + 1, by omega, by go_num, ?_⟩
          rw [← preM_step, ← HRR.out, ← show F r = hasB set (r : Int) by rw [HFF.out]]
          exact preAt_step HT.out (by have := HLT3.out; omega) (by omega) (by have := HLT3.out; have := HLT2.out; omega) HK10.out _
        case measure => simp [intOf]; omega
      · have hkn : k = n := by omega
        subst hkn
        have hlp := setL_pre (xss := xss) (set := set) (ws := ws) hn10
        have HLP := Lib.hid hlp
        clear hlp
        go_wp2_with (refine wpList_load_row rfl 94 _ rfl (w3.heap.size + 1) rfl 94 (marr (preM xss set ws k)) (0, 0) _ HT.out.pre Try.underlying94 rfl size_marks ?_)
        refine (marksSet_any (preM xss set ws k) wr).mono ?_
        rw [HLP.out]
        rintro e w4 ⟨v, rfl, o4, b4⟩
        have O4 := Lib.hid o4
        have B4 := Lib.hid (below_then HT.out.bel b4)
        clear o4 b4
        go_wp2_with fail
        go_ret2
        exact listsTo_mk HF.out (own_base O4.out HT.out.bel.size) B4.out
  · have HF := Lib.hid (preimageOf_no hc.symm hc0)
    have hne : (c == 0) = false := by rw [beq_eq_false_iff_ne]; exact hc0
    have HC := Lib.hid hc
    clear hc hc0
    go_enter Try.func25, Try.ntmps25
    go_wp2_with fail
    refine (checkSetAndWord_any s A A' A2 m cap l cap' l2 cap2 xss set ws _ H0.out HS.out H0'.out hm hl hl2 HR.out).mono ?_
    rw [← HC.out]
    rintro e w1 ⟨rfl, b1⟩
    have B1 := Lib.hid (below_then B0.out b1)
    clear b1
    go_wp2_with fail
    go_ret2
    exact listsTo_mk HF.out (World.ownsRow_nil _ _ _ _) B1.out

end Go.Proofs.Ytnnjcpihaobkaaa
