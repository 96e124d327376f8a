/-
  ImageOf: the contracts of l01Image and of both ImageOf.
-/
import Derived.Test.YtnnjcpihaobkaaaPut
namespace Go.Proofs.Ytnnjcpihaobkaaa
open Go.RowKit Go.Deep Go.ChangeShapes Go.WideShapes

/-- The states to which a word leads from the first k of a set, as marks. -/
def imM (xss : List (List Int)) (set ws : List Int) (k : Nat) : Nat → Bool := fun q => (set.take k).any fun x => decide (toS xss ws x.toNat = q)
theorem imM_0 (xss : List (List Int)) (set ws : List Int) : imM xss set ws 0 = fun _ => false := by funext q; simp [imM]
theorem imM_step {xss : List (List Int)} {set ws : List Int} {k y : Nat} (hx : set[k]? = some (y : Int)) : upd (imM xss set ws k) (toS xss ws y) true = imM xss set ws (k + 1) := by
  funext q
  unfold imM upd
  rw [take_snoc hx]
  by_cases h : q = toS xss ws y
  · simp [h]
  · have : ¬ toS xss ws y = q := fun e => h e.symm
    simp [h, this]
def imageL (xss : List (List Int)) (set ws : List Int) : List Int := setL (imM xss set ws set.length) 10
/-- What ImageOf answers. -/
def imageOf (s : Int) (xss : List (List Int)) (set ws : List Int) : List Int × Int :=
  if codeB s xss set ws = 0 then (imageL xss set ws, 0) else ([], codeB s xss set ws)
theorem imageOf_no {s : Int} {xss : List (List Int)} {set ws : List Int} {c : Int} (h : codeB s xss set ws = c) (hc : ¬ c = 0) : imageOf s xss set ws = ([], c) := by
  unfold imageOf; rw [h, if_neg hc]
theorem imageOf_0 {s : Int} {xss : List (List Int)} {set ws : List Int} (h : codeB s xss set ws = 0) : imageOf s xss set ws = (imageL xss set ws, 0) := by
  unfold imageOf; rw [if_pos h]
theorem imageOf_len (s : Int) (xss : List (List Int)) (set ws : List Int) : (imageOf s xss set ws).1.length ≤ 10 := by
  unfold imageOf
  split
  · exact setL_len _ _
  · simp

/-- What the blocks of ImageOf hold: the action, the marks so far. -/
structure ImAt (w : World) (G9 G10 : Nat) (act : List Int) (f : Nat → Bool) (wr : World) : Prop where
  act : wr.heap[G9]? = some (.cells (arr act) 89 (0, 0))
  pre : wr.heap[G10]? = some (.cells (marr f) 94 (0, 0))
  bel : Below w.heap.size w wr
theorem imAt_step {w wr : World} {G9 G10 : Nat} {act : List Int} {f : Nat → Bool} {k : Nat} (h : ImAt w G9 G10 act f wr) (h1 : G9 ≠ G10) (h3 : w.heap.size ≤ G10) (hk : k < 10) (b : Bool) :
    ImAt w G9 G10 act (upd f k b) (wr.setCell ⟨G10, k, none⟩ (.bool b)) := by
  refine ⟨?_, ?_, h.bel.setCell h3 _⟩
  · rw [heap_setCell_other wr ⟨G10, k, none⟩ G9 _ h1]; exact h.act
  · rw [heap_setCell_same wr G10 k _ _ _ h.pre, marr_set f hk]

set_option maxRecDepth 100000 in
set_option maxHeartbeats 4000000 in
theorem implImageOf_any (s : Int) (A A2 A' : Option Addr) (m cap l2 cap2 l cap' : Nat) (xss : List (List Int)) (set ws : List Int) (w : World) (h : RowsAt w A m xss) (hs : NumsAt w A2 l2 set) (h' : NumsAt w A' l ws) (hm : m ≤ 4611686018427387904) (hl2 : l2 ≤ 4611686018427387904) (hl : l ≤ 4611686018427387904)
    (hrows : ∀ (r : Nat) (xs : List Int), xss[r]? = some xs → xs.length ≤ 4611686018427387904) :
    Calls Try.prog 24 #[.agg #[.int .i64 s, .slice A m cap], .slice A2 l2 cap2, .slice A' l cap'] w (ListsTo (imageOf s xss set ws) w) := by
  have HR := Lib.hid hrows
  have HM := Lib.hid h.1
  have b0 : Below w.heap.size w (w.alloc (.cells #[.int .i64 s, .slice A m cap] 27)) := (Below.refl _ _).alloc (Nat.le_refl _) _
  have H0 := Lib.hid (h.below b0)
  have H0' := Lib.hid (h'.below b0)
  have HS := Lib.hid (hs.below b0)
  have B0 := Lib.hid b0
  clear hrows b0
  obtain ⟨c, hc⟩ : ∃ c, c = codeB s xss set ws := ⟨_, rfl⟩
  by_cases hc0 : c = 0
  · subst hc0
    have HF := Lib.hid (imageOf_0 hc.symm)
    obtain ⟨hok, hse, hwd⟩ := code_parts hc.symm
    obtain ⟨n, hsn, hg⟩ := good_of hok HM.out
    subst hsn
    rw [HM.out] at hwd
    have HG := Lib.hid hg
    have hn10 : n ≤ 10 := hg.n10
    have HWL := Lib.hid (word_letters hwd)
    have HSM := Lib.hid (setB_mem hse)
    have hA := actK_is hg ws (word_letters hwd) ws.length (Nat.le_refl _)
    rw [List.take_length] at hA
    obtain ⟨a0, a1, a2, a3, a4, a5, a6, a7, a8, a9, hten⟩ := ten hA.1
    have hT := Lib.hid hten
    have hAQ := Lib.hid hA.2
    have HC := Lib.hid hc
    clear hok hse hwd hg hA hten hc
    go_enter Try.func24, Try.ntmps24
    go_wp2_with fail
    refine (checkSetAndWord_any (n : Int) A A' A2 m cap l cap' l2 cap2 xss set ws _ H0.out HS.out H0'.out hm hl hl2 HR.out).mono ?_
    rw [← HC.out]
    rintro e w1 ⟨rfl, b1⟩
    have d0 : w1.cell? ⟨w.heap.size, 0, none⟩ = some (.int .i64 (n : Int)) := (b1.cell (by simp)).trans (by go_cell)
    have d1 : w1.cell? ⟨w.heap.size, 1, none⟩ = some (.slice A m cap) := (b1.cell (by simp)).trans (by go_cell)
    have H1 := Lib.hid (H0.out.below b1)
    have H1' := Lib.hid (H0'.out.below b1)
    have S1 := Lib.hid (HS.out.below b1)
    have B1 := Lib.hid (below_then B0.out b1)
    clear b1
    go_wp2_with fail
    refine (wordAction_any A A' n m cap l cap' xss ws _ HG.out H1.out H1'.out HWL.out hl).mono ?_
    rw [hT.out, show arr [a0, a1, a2, a3, a4, a5, a6, a7, a8, a9] = #[.int .i64 a0, .int .i64 a1, .int .i64 a2, .int .i64 a3, .int .i64 a4, .int .i64 a5, .int .i64 a6, .int .i64 a7, .int .i64 a8, .int .i64 a9] from rfl]
    rintro e w2 ⟨rfl, b2⟩
    have e0 : w2.cell? ⟨w.heap.size, 0, none⟩ = some (.int .i64 (n : Int)) := (b2.cell (cell_lt d0)).trans d0
    have B2 := Lib.hid (below_then B1.out b2)
    have hlt2 : w.heap.size < w2.heap.size := cell_lt e0
    have HLT2 := Lib.hid hlt2
    clear b2 d0 d1 hlt2
    go_wp2_with fail
    have hx9 : (w2.alloc (.cells (arr [a0, a1, a2, a3, a4, a5, a6, a7, a8, a9]) 89)).heap[w2.heap.size]? = some (.cells (arr [a0, a1, a2, a3, a4, a5, a6, a7, a8, a9]) 89 (0, 0)) := heap_alloc_new _ _
    have h0 : ImAt w w2.heap.size (w2.heap.size + 1) [a0, a1, a2, a3, a4, a5, a6, a7, a8, a9] (imM xss set ws 0) ((w2.alloc (.cells (arr [a0, a1, a2, a3, a4, a5, a6, a7, a8, a9]) 89)).alloc (.cells (marr fun _ => false) 94)) := by
      rw [imM_0]
      refine ⟨?_, ?_, (B2.out.alloc B2.out.size _).alloc (by have := B2.out.size; simp; omega) _⟩
      · rw [Below.heap_alloc _ _ _ (by simp)]; exact hx9
      · have := heap_alloc_new (w2.alloc (.cells (arr [a0, a1, a2, a3, a4, a5, a6, a7, a8, a9]) 89)) (.cells (marr fun _ => false) 94)
        rw [World.size_alloc] at this
        exact this
    have P0 := Lib.hid h0
    clear hx9 h0 e0
    go_loopw [25] (fun i wr => ∃ k : Nat, k ≤ l2 ∧ i = .int .i64 k ∧ ImAt w w2.heap.size (w2.heap.size + 1) [a0, a1, a2, a3, a4, a5, a6, a7, a8, a9] (imM xss set ws k) wr) (fun i _ => l2 - (intOf i).toNat)
    case atStart => exact ⟨0, Nat.zero_le _, rfl, P0.out⟩
    case round =>
      obtain ⟨k, hk, rfl, hat⟩ := hrel
      have HT := Lib.hid hat
      clear hat P0
      by_cases hlt : k < l2
      · obtain ⟨x, b, off, hx, rfl, hcx⟩ := (hs.below HT.out.bel).at_ hlt
        have hxn := HSM.out x (List.mem_of_getElem? hx)
        obtain ⟨y, rfl⟩ : ∃ y : Nat, x = (y : Int) := ⟨x.toNat, by omega⟩
        have hyn : y < n := by omega
        have hq := hAQ.out y hyn
        rw [hT.out] at hq
        have hto := HG.out.to ws y HWL.out hyn
        have hstep := imM_step (xss := xss) (ws := ws) hx
        obtain ⟨r, hr⟩ : ∃ r, r = toS xss ws y := ⟨_, rfl⟩
        rw [← hr] at hq hto hstep
        have hr10 : r < 10 := by omega
        have hc9 : wr.cell? ⟨w2.heap.size, y, none⟩ = some (.int .i64 (r : Int)) := by
          rw [cell_of_row wr w2.heap.size y _ _ _ HT.out.act, arr_at, hq]; rfl
        have hc10 : wr.cell? ⟨w2.heap.size + 1, r, none⟩ = some (.bool (imM xss set ws k r)) := by
          rw [cell_of_row wr (w2.heap.size + 1) r _ _ _ HT.out.pre, marr_at _ hr10]
        have hf10 : wr.frozen? ⟨w2.heap.size + 1, r, none⟩ = false := frozen_of_row wr (w2.heap.size + 1) r _ _ HT.out.pre
        have HSTEP := Lib.hid hstep
        have HR10 := Lib.hid hr10
        have i1 : (0 : Int) ≤ (k : Int) := by omega
        have i2 : (k : Int) < (l2 : Int) := by omega
        have i3 : (0 : Int) ≤ (y : Int) := by omega
        have i4 : (y : Int) < 10 := by omega
        have i5 : (0 : Int) ≤ (r : Int) := by omega
        have i6 : (r : Int) < 10 := by omega
        clear hx hxn hyn hq hto hr hr10 hstep
        go_wp2_with fail
        go_roundw
        case rel =>
          refine ⟨k + 1, by omega, by go_num, ?_⟩
          rw [← HSTEP.out]
          exact imAt_step HT.out (by omega) (by have := HLT2.out; omega) HR10.out _
        case measure => simp [intOf]; omega
      · have hkn : k = l2 := by omega
        subst hkn
        go_wp2_with (refine wpList_load_row rfl 94 _ rfl (w2.heap.size + 1) rfl 94 (marr (imM xss set ws k)) (0, 0) _ HT.out.pre Try.underlying94 rfl size_marks ?_)
        refine (marksSet_any (imM xss set ws k) wr).mono ?_
        rintro e w4 ⟨v, rfl, o4, b4⟩
        have O4 := Lib.hid o4
        have B4 := Lib.hid (below_then HT.out.bel b4)
        clear o4 b4
        go_wp2_with fail
        go_ret2
        have hf := HF.out
        unfold imageL at hf
        rw [hs.1] at hf
        exact listsTo_mk hf (own_base O4.out HT.out.bel.size) B4.out
  · have HF := Lib.hid (imageOf_no hc.symm hc0)
    have hne : (c == 0) = false := by rw [beq_eq_false_iff_ne]; exact hc0
    have HC := Lib.hid hc
    clear hc hc0
    go_enter Try.func24, Try.ntmps24
    go_wp2_with fail
    refine (checkSetAndWord_any s A A' A2 m cap l cap' l2 cap2 xss set ws _ H0.out HS.out H0'.out hm hl hl2 HR.out).mono ?_
    rw [← HC.out]
    rintro e w1 ⟨rfl, b1⟩
    have B1 := Lib.hid (below_then B0.out b1)
    clear b1
    go_wp2_with fail
    go_ret2
    exact listsTo_mk HF.out (World.ownsRow_nil _ _ _ _) B1.out

end Go.Proofs.Ytnnjcpihaobkaaa
