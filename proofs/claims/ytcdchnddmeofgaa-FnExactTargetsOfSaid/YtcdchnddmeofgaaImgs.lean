/-
  All sets that the program's search tells: the contract of imagesOf.
-/
import Derived.Test.YtcdchnddmeofgaaFirst
namespace Go.Proofs.Ytcdchnddmeofgaa
open Go.RowKit Go.Deep Go.ChangeShapes Go.WideShapes

namespace Srch
open Hunt Room

theorem info_set : (Try.prog.info? 57).map (fun i => (i.zero, i.size, i.bytes)) = some (some (.int .u16 0), 1, 2) := by kernel_rfl
def setVs (T : List Fnd) : List Value := T.map fun f => Value.int .u16 (f.set : Int)
theorem setVs_len (T : List Fnd) : (setVs T).length = T.length := List.length_map _
theorem setVs_snoc (T : List Fnd) (f : Fnd) : setVs (T ++ [f]) = setVs T ++ [.int .u16 (f.set : Int)] := by simp [setVs]
/-- A row of another type that is appended to does not matter to the search. -/
theorem Holds.grown {base pq pk g : Nat} {Z : List Nat} {kn : Nat → Bool} {L : List Fnd} {w w' : World} {row : Option Nat} {t' : TypeId} (h : Holds base pq pk g Z kn L w) (hgr : w.grownBy w' row) (ht : 2 ≠ t') (hrow : ∀ q, row = some q → (∃ c, w.heap[q]? = some (.cells c t' (0, 0))) ∧ q ≠ pq ∧ q ≠ pk ∧ q ≠ g) : Holds base pq pk g Z kn L w' := by
  obtain ⟨v, us, h1, h2, h3, h4⟩ := h.queue
  obtain ⟨K, k1, k2, k3⟩ := h.known
  have hoth : ∀ b, b < w.heap.size → row ≠ some b → w'.heap[b]? = w.heap[b]? := fun b hb hne => hgr.block b hb (Ne.symm hne)
  refine ⟨⟨v, us, (hoth _ (block_lt h1) (fun e => (hrow _ e).2.1 rfl)).trans h1, h2, q_kept h3 (hoth g (q_lt h3) (fun e => (hrow _ e).2.2.2 rfl)), fun j e u he hu => ⟨own_kept (h4 j e u he hu).1 (fun q hq => hoth q ((h4 j e u he hu).1.lt q hq).2 (fun e' => ?_)), (h4 j e u he hu).2⟩⟩, ⟨K, (hoth _ (block_lt k1) (fun e => (hrow _ e).2.2.1 rfl)).trans k1, k2, k3⟩, h.le, h.ne, fun y hy => ⟨Nat.lt_of_lt_of_le (h.still y hy).1 hgr.size, (h.still y hy).2⟩⟩
  obtain ⟨c, hc⟩ := (hrow q e').1
  exact own_type (h4 j e u he hu).1 hc ht hq
theorem Told.grown {base pq pk pe pa g n m cap b0 i : Nat} {A : Option Addr} {xss : List (List Int)} {ok : Bool} {s : Nat} {u : Value} {W W' : World} {row : Option Nat} (h : Told base pq pe pk pa g n m cap b0 i A xss ok s u W) (hgr : W.grownBy W' row) (hrow : ∀ q, row = some q → (∃ c, W.heap[q]? = some (.cells c 57 (0, 0))) ∧ q ≠ pq ∧ q ≠ pk ∧ q ≠ g) : Told base pq pe pk pa g n m cap b0 i A xss ok s u W' := by
  rcases h with h | ⟨h1, f, h2, h3, h4, h5, h6, h7⟩
  · exact .inl h
  · have hoth : ∀ b, b < W.heap.size → row ≠ some b → W'.heap[b]? = W.heap[b]? := fun b hb hne => hgr.block b hb (Ne.symm hne)
    refine .inr ⟨h1, f, h2, h3, own_kept h4 (fun q hq => hoth q (h4.lt q hq).2 (fun e => ?_)), h5.grown hgr (t' := 57) (by decide) hrow, (hoth _ (block_lt h6) (fun e => ?_)).trans h6, (hoth _ (block_lt h7) (fun e => ?_)).trans h7⟩
    · obtain ⟨c, hc⟩ := (hrow q e).1
      exact own_type h4 hc (by decide) hq
    · obtain ⟨c, hc⟩ := (hrow _ e).1
      rw [hc] at h6; simp at h6
    · obtain ⟨c, hc⟩ := (hrow _ e).1
      rw [hc] at h7; simp at h7

set_option maxRecDepth 100000 in
set_option maxHeartbeats 8000000 in
theorem imagesOf_any (A : Option Addr) (n m cap b0 : Nat) (xss : List (List Int)) (w : World) (hg : Good n m xss) (hR : RowsAt w A m xss) (hb0 : b0 < 1024) :
    Calls Try.prog 66 #[.agg #[.int .i64 (n : Int), .slice A m cap], .int .u16 (b0 : Int)] w fun e w' => ∃ u, e = .returned u ∧
      w'.ownsRow w.heap.size 57 1 u (fnd n m xss 400 b0).length (setVs (fnd n m xss 400 b0)) ∧ Below w.heap.size w w' := by
  obtain ⟨iS0, iS1, iS2, iS3, iS4⟩ := info_parts info_set
  have HG := Lib.hid hg
  have HR := Lib.hid hR
  obtain ⟨FN, hFN⟩ : ∃ FN, FN = fnd n m xss 400 b0 := ⟨_, rfl⟩
  rw [← hFN]
  have HFN := Lib.hid hFN
  clear hR hFN
  go_enter Try.func66, Try.ntmps66
  go_wp2_with fail
  obtain ⟨w1, hw1⟩ : ∃ w1, w1 = w.alloc (.cells #[.int .i64 (n : Int), .slice A m cap] 29) := ⟨_, rfl⟩
  rw [← hw1]
  have b1 : Below w.heap.size w w1 := by rw [hw1]; exact (Below.refl _ _).alloc (Nat.le_refl _) _
  refine (searchFrom_any A n m cap b0 xss w1 hb0).mono ?_
  rintro e w2 ⟨pq, pe, pk, pa, g0, rfl, hpq, hgo, b2⟩
  go_wp2_with fail
  refine (search_one w1.heap.size pq pe pk pa g0 n m cap b0 0 A xss w2 hg (fun W' hb => HR.out.below (below_then b1 (b2.trans hb))) hgo b2.size hb0).mono ?_
  rintro e w3 ⟨g1, ok, s, Au, lu, cu, rfl, ht, htold, hl1, hl2, hl3⟩
  go_wp2_with fail
  have b3 : Below w.heap.size w w3 := below_then b1 (b2.trans ht.below)
  have hb13 : w1.heap.size ≤ w3.heap.size := (b2.trans ht.below).size
  have T1 := Lib.hid htold
  have HW1 := Lib.hid (show w1.heap.size = w.heap.size + 1 by rw [hw1, World.size_alloc])
  have B3 := Lib.hid b3
  have HB13 := Lib.hid hb13
  have HP := Lib.hid (show pq < w3.heap.size ∧ pk < w3.heap.size ∧ g1 < w3.heap.size from ⟨Nat.lt_of_lt_of_le hl1 ht.below.size, Nat.lt_of_lt_of_le hl2 ht.below.size, hl3⟩)
  clear htold ht b1 b2 b3 hgo hpq hw1 hb13 hl1 hl2 hl3
  go_loopg [5, 7, 8] 1026 (fun k ov tb tk wr => ∃ (i B gx : Nat) (ok : Bool) (s : Nat) (Au : Option Addr) (lu cu : Nat), tb = .pointer (some ⟨B, 0, none⟩) ∧ tk = .bool ok ∧ k + i = 1026 ∧ wr.heap[B]? = some (.cells #[.int .u16 (s : Int), .slice Au lu cu] 62 (0, 0)) ∧
      Told w1.heap.size pq pe pk pa gx n m cap b0 i A xss ok s (.slice Au lu cu) wr ∧ (B ≠ pq ∧ B ≠ pk ∧ B ≠ gx) ∧ w1.heap.size ≤ B ∧ i ≤ (told n m xss b0 i).length ∧
      wr.ownsRow w1.heap.size 57 1 ov i (setVs ((told n m xss b0 i).take i)) ∧ (∀ q, ov.ownBlock = some q → q ≠ pq ∧ q ≠ pk ∧ q ≠ gx) ∧ pq < wr.heap.size ∧ pk < wr.heap.size ∧ gx < wr.heap.size ∧ Below w.heap.size w wr)
  case atStart =>
    have hnew : Below w3.heap.size w3 (w3.alloc (.cells #[.int .u16 (s : Int), .slice Au lu cu] 62)) := (Below.refl _ _).alloc (Nat.le_refl _) _
    obtain ⟨l1, l2, l3⟩ := HP.out
    have hsz := hnew.size
    exact ⟨0, w3.heap.size, g1, ok, s, Au, lu, cu, rfl, rfl, rfl, heap_alloc_new _ _, T1.out.below hnew, ⟨by omega, by omega, by omega⟩, HB13.out, Nat.zero_le _, World.ownsRow_nil _ _ _ _, fun q hq => by simp [Value.ownBlock] at hq, by omega, by omega, by omega, below_then B3.out hnew⟩
  case round =>
    obtain ⟨i, B, gx, ok, s, Au, lu, cu, rfl, rfl, hki, hb, ht, hn, hle, hil, hown, hap, hp1, hp2, hp3, hbel⟩ := hrel
    obtain ⟨A3, C3, rfl⟩ := own_form hown
    have HKI := Lib.hid hki
    have HB := Lib.hid hb
    have HT := Lib.hid ht
    have HN := Lib.hid hn
    have HLE := Lib.hid hle
    have HIL := Lib.hid hil
    have HO := Lib.hid hown
    have HAP := Lib.hid hap
    have HPS := Lib.hid (show pq < wr.heap.size ∧ pk < wr.heap.size ∧ gx < wr.heap.size from ⟨hp1, hp2, hp3⟩)
    have HBW := Lib.hid hbel
    have c0 : wr.cell? ⟨B, 0, none⟩ = some (.int .u16 (s : Int)) := cell_of_row _ B 0 _ _ _ hb
    have c1 : wr.cell? ⟨B, 1, none⟩ = some (.slice Au lu cu) := cell_of_row _ B 1 _ _ _ hb
    clear hki hb ht hn hle hil hown hap hp1 hp2 hp3 hbel
    rcases ok with _ | _
    · have hall : FN = (told n m xss b0 i).take i ∧ FN.length = i := by
        rcases HT.out with ⟨_, _, _, h4⟩ | ⟨h4, _⟩
        · have hl := List.getElem?_eq_none_iff.1 h4
          have he : told n m xss b0 i = fnd n m xss 400 b0 := Hunt.all_stop (small hg hb0) hl
          have hi := HIL.out
          refine ⟨?_, by rw [HFN.out, ← he]; omega⟩
          rw [HFN.out, ← he, List.take_of_length_le hl]
        · cases h4
      have HALL := Lib.hid hall
      clear hall
      go_wp2_with fail
      go_ret
      refine ⟨_, rfl, ?_, HBW.out⟩
      have h1 := HO.out
      rw [← HALL.out.1] at h1
      rw [HALL.out.2]
      exact own_base h1 (by have := HW1.out; omega)
    · obtain ⟨f, hf, hs, hu, hgo⟩ : ∃ f, (told n m xss b0 i)[i]? = some f ∧ s = f.set ∧ wr.ownsRow w1.heap.size 2 1 (.slice Au lu cu) f.word.length (f.word.map (Value.int .i64)) ∧ Going w1.heap.size pq pe pk pa gx n m cap b0 (i + 1) A xss wr := by
        rcases HT.out with ⟨h4, _⟩ | ⟨_, h⟩
        · cases h4
        · exact h
      have HF := Lib.hid hf
      have HS := Lib.hid hs
      have hil10 : i < 1024 := by have h1 := lt_of_at hf; have h2 := toldL_len (i := i) hg hb0; omega
      clear hf hs hu hgo
      have hbase1 : w1.heap.size ≤ wr.heap.size := by have h1 := HLE.out; have h2 := block_lt HB.out; omega
      go_wp2_with (at_builtin; refine wpList_append_own_at _ rfl _ _ 93 rfl w1.heap.size 57 iS0 (.int .u16 0) 1 2 Try.underlying93 iS1 iS2 iS3 iS4 rfl (by decide) _ _ _ rfl (World.ownsRow.alloc HO.out _) ⟨_, 0, none⟩ 1 1 [.int .u16 (s : Int)] rfl rfl (cell_one_new _ _ _) (by intro z hz; simp at hz; subst hz; rfl) (by unfold maxLen; omega) (by omega) (by rw [World.size_alloc]; exact Nat.le_succ_of_le hbase1) ?_)
      intro v' w5 hown' hgrow _ hat
      have ba : Below wr.heap.size wr (wr.alloc (.cells #[.int .u16 (s : Int)] 57)) := (Below.refl _ _).alloc (Nat.le_refl _) _
      have hrow : ∀ q, (Value.slice A3 i C3).ownBlock = some q → (∃ c, (wr.alloc (.cells #[.int .u16 (s : Int)] 57)).heap[q]? = some (.cells c 57 (0, 0))) ∧ q ≠ pq ∧ q ≠ pk ∧ q ≠ gx := fun q hq => by
        refine ⟨?_, HAP.out q hq⟩
        rcases HO.out.2 with ⟨e0, _⟩ | ⟨gg, cap', cur, e0, _, hh, _⟩
        · rw [e0] at hq; simp [Value.ownBlock] at hq
        · rw [e0] at hq
          simp [Value.ownBlock] at hq
          subst hq
          exact ⟨cur, (ba.block _ (block_lt hh)).trans hh⟩
      have hs4 := ba.size
      have hs5 := hgrow.size
      have T5 := Lib.hid ((HT.out.below ba).grown hgrow hrow)
      have hBn : (Value.slice A3 i C3).ownBlock ≠ some B := fun e => by
        obtain ⟨c, hc⟩ := (hrow B e).1
        rw [ba.block _ (block_lt HB.out), HB.out] at hc
        simp at hc
      have hb5 : w5.heap[B]? = some (.cells #[.int .u16 (s : Int), .slice Au lu cu] 62 (0, 0)) := (hgrow.block _ (Nat.lt_of_lt_of_le (block_lt HB.out) hs4) (Ne.symm hBn)).trans ((ba.block _ (block_lt HB.out)).trans HB.out)
      have HB5 := Lib.hid hb5
      have HBW5 := Lib.hid (below_grown (below_then HBW.out ba) hgrow (fun q hq => by have h1 := (HO.out.lt q hq).1; have h2 := HW1.out; omega))
      have HO5 := Lib.hid hown'
      have HAP5 := Lib.hid (show ∀ q, v'.ownBlock = some q → q ≠ pq ∧ q ≠ pk ∧ q ≠ gx from fun q hq => by
        rcases hat with h1 | h1
        · exact HAP.out q (h1.symm.trans hq)
        · rw [h1] at hq
          have h2 : wr.heap.size + 1 = q := by simpa using hq
          obtain ⟨p1, p2, p3⟩ := HPS.out
          omega)
      obtain ⟨A5, C5, rfl⟩ := own_form hown'
      have c0' : w5.cell? ⟨B, 0, none⟩ = some (.int .u16 (s : Int)) := cell_of_row _ B 0 _ _ _ hb5
      have c1' : w5.cell? ⟨B, 1, none⟩ = some (.slice Au lu cu) := cell_of_row _ B 1 _ _ _ hb5
      have hwr5 : wr.heap.size ≤ w5.heap.size := by omega
      clear c0 c1 hown' hgrow hat ba hrow hs4 hs5 hBn hb5
      go_wp2_with fail
      obtain ⟨w6, hw6⟩ : ∃ w6, w6 = w5.alloc (.cells #[.int .u16 (s : Int), .slice Au lu cu] 62) := ⟨_, rfl⟩
      rw [← hw6]
      have b6 : Below w5.heap.size w5 w6 := by rw [hw6]; exact (Below.refl _ _).alloc (Nat.le_refl _) _
      have x6 : w6.heap[w5.heap.size]? = some (.cells #[.int .u16 (s : Int), .slice Au lu cu] 62 (0, 0)) := by rw [hw6]; exact heap_alloc_new _ _
      have hgo6 : Going w1.heap.size pq pe pk pa gx n m cap b0 (i + 1) A xss w6 := by
        rcases T5.out.below b6 with ⟨h4, _⟩ | ⟨_, f', _, _, _, h5⟩
        · cases h4
        · exact h5
      have hsz := HW1.out
      have hle := HLE.out
      have hblt : B < w5.heap.size := block_lt HB5.out
      have hs56 := b6.size
      refine (search_one w1.heap.size pq pe pk pa gx n m cap b0 (i + 1) A xss w6 hg (fun W' hb => HR.out.below ((below_then HBW5.out b6).trans (hb.mono (by omega)))) hgo6 (by omega) hb0).mono ?_
      rintro e w7 ⟨g7, ok7, s7, A7, l7, c7, rfl, t7, told7, m1, m2, m3⟩
      obtain ⟨n1, n2, n3⟩ := HPS.out
      have hx7 : w5.heap.size < w6.heap.size := block_lt x6
      have hs67 := t7.below.size
      have x7 : w7.heap[w5.heap.size]? = some (.cells #[.int .u16 (s : Int), .slice Au lu cu] 62 (0, 0)) := (t7.same _ hx7 (by omega) (by omega) (by omega)).trans x6
      have d0 : w7.cell? ⟨w5.heap.size, 0, none⟩ = some (.int .u16 (s : Int)) := cell_of_row _ _ 0 _ _ _ x7
      have d1 : w7.cell? ⟨w5.heap.size, 1, none⟩ = some (.slice Au lu cu) := cell_of_row _ _ 1 _ _ _ x7
      have f0 : w7.frozen? ⟨w5.heap.size, 0, none⟩ = false := frozen_of_row _ _ 0 _ _ x7
      have f1 : w7.frozen? ⟨w5.heap.size, 1, none⟩ = false := frozen_of_row _ _ 1 _ _ x7
      have hne7 : w5.heap.size ≠ pq ∧ w5.heap.size ≠ pk ∧ w5.heap.size ≠ g7 := ⟨by omega, by omega, by rcases t7.new with e | e <;> omega⟩
      have x8 : (w7.setCell ⟨w5.heap.size, 0, none⟩ (.int .u16 (s7 : Int))).heap[w5.heap.size]? = some (.cells #[.int .u16 (s7 : Int), .slice Au lu cu] 62 (0, 0)) := heap_setCell_same w7 _ 0 _ _ _ x7
      have hoth : ∀ b, b ≠ w5.heap.size → ((w7.setCell ⟨w5.heap.size, 0, none⟩ (.int .u16 (s7 : Int))).setCell ⟨w5.heap.size, 1, none⟩ (.slice A7 l7 c7)).heap[b]? = w7.heap[b]? := fun b hb => (heap_setCell_other _ ⟨w5.heap.size, 1, none⟩ b _ hb).trans (heap_setCell_other w7 ⟨w5.heap.size, 0, none⟩ b _ hb)
      have X9 := Lib.hid (show ((w7.setCell ⟨w5.heap.size, 0, none⟩ (.int .u16 (s7 : Int))).setCell ⟨w5.heap.size, 1, none⟩ (.slice A7 l7 c7)).heap[w5.heap.size]? = some (.cells #[.int .u16 (s7 : Int), .slice A7 l7 c7] 62 (0, 0)) from heap_setCell_same _ _ 1 _ _ _ x8)
      have T9 := Lib.hid ((told7.aside (o := 0) (x := .int .u16 (s7 : Int)) x7 hne7).aside (o := 1) (x := .slice A7 l7 c7) x8 hne7)
      have HH := HBW5.out.size
      have B9 := Lib.hid (show Below w.heap.size w ((w7.setCell ⟨w5.heap.size, 0, none⟩ (.int .u16 (s7 : Int))).setCell ⟨w5.heap.size, 1, none⟩ (.slice A7 l7 c7)) from (((below_then HBW5.out b6).trans (t7.below.mono (by omega))).setCell (by exact HH) _).setCell (by exact HH) _)
      have S9 := Lib.hid (show ((w7.setCell ⟨w5.heap.size, 0, none⟩ (.int .u16 (s7 : Int))).setCell ⟨w5.heap.size, 1, none⟩ (.slice A7 l7 c7)).heap.size = w7.heap.size by rw [World.size_setCell, World.size_setCell])
      have O9 := Lib.hid (show ((w7.setCell ⟨w5.heap.size, 0, none⟩ (.int .u16 (s7 : Int))).setCell ⟨w5.heap.size, 1, none⟩ (.slice A7 l7 c7)).ownsRow w1.heap.size 57 1 (.slice A5 (i + 1) C5) (i + 1) (setVs ((told n m xss b0 i).take i) ++ [.int .u16 (s : Int)]) from
        own_kept HO5.out (fun q hq => by
          have h1 := (HO5.out.lt q hq).2
          obtain ⟨a1, a2, a3⟩ := HAP5.out q hq
          rw [hoth q (by omega), t7.same q (by omega) a1 a2 a3, b6.block q h1]))
      have AP9 := Lib.hid (show ∀ q, (Value.slice A5 (i + 1) C5).ownBlock = some q → q ≠ pq ∧ q ≠ pk ∧ q ≠ g7 from fun q hq => by
        have h1 := (HO5.out.lt q hq).2
        obtain ⟨a1, a2, a3⟩ := HAP5.out q hq
        exact ⟨a1, a2, by rcases t7.new with e | e <;> omega⟩)
      have HNE7 := Lib.hid hne7
      have HLE9 := Lib.hid (show w1.heap.size ≤ w5.heap.size by omega)
      have HP9 := Lib.hid (show pq < w7.heap.size ∧ pk < w7.heap.size ∧ g7 < w7.heap.size from ⟨by omega, by omega, m3⟩)
      clear HH b6 x6 hgo6 hsz hle hblt hs56 t7 told7 m1 m2 m3 n1 n2 n3 hx7 hs67 x7 hne7 x8 hoth hw6 c0' c1'
      go_wp2_with fail
      go_roundg (gk - 1)
      case measure => have := HKI.out; omega
      case rel =>
        have hlt := lt_of_at HF.out
        obtain ⟨N, hN⟩ := run_succ (aftF n xss) m 400 b0 i
        have hN' : told n m xss b0 (i + 1) = told n m xss b0 i ++ N := hN
        obtain ⟨p1, p2, p3⟩ := HP9.out
        have hs9 := S9.out
        refine ⟨i + 1, w5.heap.size, g7, ok7, s7, A7, l7, c7, rfl, rfl, by have := HKI.out; omega, X9.out, T9.out, HNE7.out, HLE9.out, by rw [hN', List.length_append]; omega, ?_, AP9.out, by omega, by omega, by omega, B9.out⟩
        have h1 := O9.out
        rw [HS.out, ← setVs_snoc] at h1
        rw [hN', List.take_append_of_le_length (by omega), take_snoc HF.out]
        exact h1
end Srch

end Go.Proofs.Ytcdchnddmeofgaa
