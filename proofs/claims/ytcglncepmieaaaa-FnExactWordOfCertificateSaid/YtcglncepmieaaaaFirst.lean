/-
  The contract of firstWord, for whatever function tells the goal.
-/
import Derived.Test.YtcglncepmieaaaaStart
import Derived.Deep.LoopGhost
namespace Go.Proofs.Ytcglncepmieaaaa
open Go.RowKit Go.Deep Go.ChangeShapes Go.WideShapes

namespace Srch
open Hunt Room

/-- What a call of the search tells: the set s and the word u, or that there is none. -/
def Told (base pq pe pk pa g n m cap b0 i : Nat) (A : Option Addr) (xss : List (List Int)) (ok : Bool) (s : Nat) (u : Value) (W : World) : Prop :=
  (ok = false ∧ s = 0 ∧ u = .slice none 0 0 ∧ (told n m xss b0 i)[i]? = none) ∨
  (ok = true ∧ ∃ f, (told n m xss b0 i)[i]? = some f ∧ s = f.set ∧ W.ownsRow base 2 1 u f.word.length (f.word.map (Value.int .i64)) ∧ Going base pq pe pk pa g n m cap b0 (i + 1) A xss W)
theorem Told.form {base pq pe pk pa g n m cap b0 i : Nat} {A : Option Addr} {xss : List (List Int)} {ok : Bool} {s : Nat} {u : Value} {W : World} (h : Told base pq pe pk pa g n m cap b0 i A xss ok s u W) : ∃ Au lu cu, u = .slice Au lu cu := by
  rcases h with ⟨_, _, rfl, _⟩ | ⟨_, f, _, _, h, _⟩
  · exact ⟨_, _, _, rfl⟩
  · obtain ⟨A, c, rfl⟩ := own_form h; exact ⟨_, _, _, rfl⟩
theorem search_one (base pq pe pk pa g n m cap b0 i : Nat) (A : Option Addr) (xss : List (List Int)) (W : World) (hg : Good n m xss) (hR : ∀ W', Below base W W' → RowsAt W' A m xss) (hG : Going base pq pe pk pa g n m cap b0 i A xss W) (hbase : base ≤ W.heap.size) (hb0 : b0 < 1024) :
    Calls Try.prog 151 #[.pointer (some ⟨pq, 0, none⟩), .pointer (some ⟨pe, 0, none⟩)] W fun en W' => ∃ (g' : Nat) (ok : Bool) (s : Nat) (Au : Option Addr) (lu cu : Nat), en = .returned (.tuple #[.agg #[.int .u16 (s : Int), .slice Au lu cu], .bool ok]) ∧ Turned base pq pk g g' W W' ∧ Told base pq pe pk pa g' n m cap b0 i A xss ok s (.slice Au lu cu) W' ∧ pq < W.heap.size ∧ pk < W.heap.size ∧ g' < W'.heap.size := by
  refine (search_any base pq pe pk pa g n m cap b0 i A xss W hg hR hG hbase hb0).mono ?_
  obtain ⟨v, us, p1, _, p3, _⟩ := hG.1.queue
  obtain ⟨K, k1, _⟩ := hG.1.known
  rintro en W' ⟨g', ht, ⟨h1, rfl, rfl⟩ | ⟨f, u, h1, rfl, h2, h3⟩⟩
  · exact ⟨g', false, 0, none, 0, 0, rfl, ht, .inl ⟨rfl, rfl, rfl, h1⟩, block_lt p1, block_lt k1, Nat.lt_of_lt_of_le (q_lt p3) ht.below.size⟩
  · obtain ⟨Au, cu, rfl⟩ := own_form h2
    obtain ⟨_, _, _, _, p3', _⟩ := h3.1.queue
    exact ⟨g', true, f.set, Au, _, cu, rfl, ht, .inr ⟨rfl, f, h1, rfl, h2, h3⟩, block_lt p1, block_lt k1, q_lt p3'⟩
/-- A cell beside the search's memory does not matter. -/
theorem Told.aside {base pq pe pk pa g n m cap b0 i z o : Nat} {A : Option Addr} {xss : List (List Int)} {ok : Bool} {s : Nat} {u : Value} {W : World} {c : Array Value} {x : Value} (h : Told base pq pe pk pa g n m cap b0 i A xss ok s u W) (hz : W.heap[z]? = some (.cells c 167 (0, 0))) (hn : z ≠ pq ∧ z ≠ pk ∧ z ≠ g) :
    Told base pq pe pk pa g n m cap b0 i A xss ok s u (W.setCell ⟨z, o, none⟩ x) := by
  rcases h with h | ⟨h1, f, h2, h3, h4, h5, h6, h7⟩
  · exact .inl h
  · have hoth : ∀ b, b ≠ z → (W.setCell ⟨z, o, none⟩ x).heap[b]? = W.heap[b]? := fun b hb => heap_setCell_other W ⟨z, o, none⟩ b _ hb
    refine .inr ⟨h1, f, h2, h3, own_kept h4 (fun q hq => hoth q (fun e => own_type h4 hz (by decide) (e ▸ hq))), h5.aside hz (by decide) hn, ?_, ?_⟩
    · refine (hoth pe (fun e => ?_)).trans h6
      rw [e, hz] at h6; simp at h6
    · refine (hoth pa (fun e => ?_)).trans h7
      rw [e, hz] at h7; simp at h7
theorem Told.below {base pq pe pk pa g n m cap b0 i : Nat} {A : Option Addr} {xss : List (List Int)} {ok : Bool} {s : Nat} {u : Value} {W W' : World} (h : Told base pq pe pk pa g n m cap b0 i A xss ok s u W) (hb : Below W.heap.size W W') : Told base pq pe pk pa g n m cap b0 i A xss ok s u W' := by
  rcases h with h | ⟨h1, f, h2, h3, h4, h5, h6, h7⟩
  · exact .inl h
  · exact .inr ⟨h1, f, h2, h3, own_below h4 hb, h5.below hb, (hb.block _ (block_lt h6)).trans h6, (hb.block _ (block_lt h7)).trans h7⟩

set_option maxRecDepth 100000 in
set_option maxHeartbeats 8000000 in
theorem firstWord_any (F : Nat) (first caps : Array Value) (gl : Nat → Bool) (A : Option Addr) (n m cap b0 : Nat) (xss : List (List Int)) (w : World) (hg : Good n m xss) (hR : RowsAt w A m xss) (hb0 : b0 < 1024)
    (henter : ∀ (args : Array Value) (W : World), (callFunc F args).run Try.prog W = .ok (.enter F args) W)
    (hgoal : ∀ b, b < 1024 → ∀ W', Below w.heap.size w W' → Calls Try.prog F (first ++ #[.int .u16 (b : Int)] ++ caps) W' fun e w' => e = .returned (.bool (gl b)) ∧ Below W'.heap.size W' w') :
    Calls Try.prog 114 #[.agg #[.int .i64 (n : Int), .slice A m cap], .int .u16 (b0 : Int), .func (.func F) first caps] w fun e w' => ∃ u, e = .returned (.tuple #[u, .int .i64 (toldW (firstF gl (fnd n m xss 400 b0))).2]) ∧
      w'.ownsRow w.heap.size 2 1 u (toldW (firstF gl (fnd n m xss 400 b0))).1.length ((toldW (firstF gl (fnd n m xss 400 b0))).1.map (Value.int .i64)) ∧ Below w.heap.size w w' := by
  have HGO := Lib.hid hgoal
  have HEN := Lib.hid henter
  have HG := Lib.hid hg
  have HR := Lib.hid hR
  clear hgoal henter hR
  go_enter Try.func114, Try.ntmps114
  go_wp2_with fail
  obtain ⟨w1, hw1⟩ : ∃ w1, w1 = w.alloc (.cells #[.int .i64 (n : Int), .slice A m cap] 28) := ⟨_, rfl⟩
  rw [← hw1]
  have b1 : Below w.heap.size w w1 := by rw [hw1]; exact (Below.refl _ _).alloc (Nat.le_refl _) _
  refine (searchFrom_any A n m cap b0 xss w1 hb0).mono ?_
  rintro e w2 ⟨pq, pe, pk, pa, g0, rfl, hpq, hgo, b2⟩
  go_wp2_with fail
  refine (search_one w1.heap.size pq pe pk pa g0 n m cap b0 0 A xss w2 hg (fun W' hb => HR.out.below (below_then b1 (b2.trans hb))) hgo b2.size hb0).mono ?_
  rintro e w3 ⟨g1, ok, s, Au, lu, cu, rfl, ht, htold, hl1, hl2, hl3⟩
  go_wp2_with fail
  have b3 : Below w.heap.size w w3 := below_then b1 (b2.trans ht.below)
  have hb13 : w1.heap.size ≤ w3.heap.size := (b2.trans ht.below).size
  have T1 := Lib.hid htold
  have HW1 := Lib.hid (show w1.heap.size = w.heap.size + 1 by rw [hw1, World.size_alloc])
  have B1 := Lib.hid b1
  have B3 := Lib.hid b3
  have HB13 := Lib.hid hb13
  have HP := Lib.hid (show pq < w3.heap.size ∧ pk < w3.heap.size ∧ g1 < w3.heap.size from ⟨Nat.lt_of_lt_of_le hl1 ht.below.size, Nat.lt_of_lt_of_le hl2 ht.below.size, hl3⟩)
  clear htold ht b1 b2 b3 hgo hpq hw1 hb13 hl1 hl2 hl3
  go_loopg [9, 10] 1026 (fun k tb tk wr => ∃ (i B gx : Nat) (ok : Bool) (s : Nat) (Au : Option Addr) (lu cu : Nat), tb = .pointer (some ⟨B, 0, none⟩) ∧ tk = .bool ok ∧ k + i = 1026 ∧ wr.heap[B]? = some (.cells #[.int .u16 (s : Int), .slice Au lu cu] 167 (0, 0)) ∧
      Told w1.heap.size pq pe pk pa gx n m cap b0 i A xss ok s (.slice Au lu cu) wr ∧ (B ≠ pq ∧ B ≠ pk ∧ B ≠ gx) ∧ w1.heap.size ≤ B ∧ (∀ (k : Nat) e, k < i → (told n m xss b0 i)[k]? = some e → gl e.set = false) ∧ Below w.heap.size w wr)
  case atStart =>
    have hnew : Below w3.heap.size w3 (w3.alloc (.cells #[.int .u16 (s : Int), .slice Au lu cu] 167)) := (Below.refl _ _).alloc (Nat.le_refl _) _
    obtain ⟨l1, l2, l3⟩ := HP.out
    exact ⟨0, w3.heap.size, g1, ok, s, Au, lu, cu, rfl, rfl, rfl, heap_alloc_new _ _, T1.out.below hnew, ⟨by omega, by omega, by omega⟩, HB13.out, fun k e hk => by omega, below_then B3.out hnew⟩
  case round =>
    obtain ⟨i, B, gx, ok, s, Au, lu, cu, rfl, rfl, hki, hb, ht, hn, hle, hno, hbel⟩ := hrel
    have HKI := Lib.hid hki
    have HB := Lib.hid hb
    have HT := Lib.hid ht
    have HN := Lib.hid hn
    have HLE := Lib.hid hle
    have HNO := Lib.hid hno
    have HBW := Lib.hid hbel
    have c0 : wr.cell? ⟨B, 0, none⟩ = some (.int .u16 (s : Int)) := cell_of_row _ B 0 _ _ _ hb
    have c1 : wr.cell? ⟨B, 1, none⟩ = some (.slice Au lu cu) := cell_of_row _ B 1 _ _ _ hb
    clear hki hb ht hn hle hno hbel
    rcases ok with _ | _
    · have hnone : firstF gl (fnd n m xss 400 b0) = none := by
        rcases HT.out with ⟨_, _, _, h4⟩ | ⟨h4, _⟩
        · have hl := List.getElem?_eq_none_iff.1 h4
          have he : told n m xss b0 i = fnd n m xss 400 b0 := Hunt.all_stop (small hg hb0) hl
          rw [← he]
          exact first_miss fun k f hk => HNO.out k f (by have := lt_of_at hk; omega) hk
        · cases h4
      have HF := Lib.hid hnone
      clear hnone
      go_wp2_with fail
      go_ret2
      refine ⟨_, by rw [HF.out]; rfl, ?_, HBW.out⟩
      rw [HF.out]
      exact World.ownsRow_nil _ _ _ _
    · obtain ⟨f, hf, hs, hu, hgo⟩ : ∃ f, (told n m xss b0 i)[i]? = some f ∧ s = f.set ∧ wr.ownsRow w1.heap.size 2 1 (.slice Au lu cu) f.word.length (f.word.map (Value.int .i64)) ∧ Going w1.heap.size pq pe pk pa gx n m cap b0 (i + 1) A xss wr := by
        rcases HT.out with ⟨h4, _⟩ | ⟨_, h⟩
        · cases h4
        · exact h
      have HF := Lib.hid hf
      have HS := Lib.hid hs
      have HU := Lib.hid hu
      have HGG := Lib.hid hgo
      have hs10 : s < 1024 := by rw [hs]; exact toldL_set hg hb0 (List.mem_of_getElem? hf)
      clear hf hs hu hgo
      go_wp2_with fail
      rw [HEN.out, Oper.upon_enter]
      refine (HGO.out s hs10 wr HBW.out).mono ?_
      rintro e w5 ⟨rfl, b5⟩
      have hb5 := (b5.block _ (block_lt HB.out)).trans HB.out
      have HB5 := Lib.hid hb5
      have HU5 := Lib.hid (own_below HU.out b5)
      have HBW5 := Lib.hid (below_then HBW.out b5)
      have c0' : w5.cell? ⟨B, 0, none⟩ = some (.int .u16 (s : Int)) := cell_of_row _ B 0 _ _ _ hb5
      have c1' : w5.cell? ⟨B, 1, none⟩ = some (.slice Au lu cu) := cell_of_row _ B 1 _ _ _ hb5
      have HBB := Lib.hid b5
      clear c0 c1 b5 hb5
      rcases hgl : gl s with _ | _
      · have HGL := Lib.hid hgl
        clear hgl
        go_wp2_with fail
        obtain ⟨w6, hw6⟩ : ∃ w6, w6 = w5.alloc (.cells #[.int .u16 (s : Int), .slice Au lu cu] 167) := ⟨_, rfl⟩
        rw [← hw6]
        have b6 : Below w5.heap.size w5 w6 := by rw [hw6]; exact (Below.refl _ _).alloc (Nat.le_refl _) _
        have x6 : w6.heap[w5.heap.size]? = some (.cells #[.int .u16 (s : Int), .slice Au lu cu] 167 (0, 0)) := by rw [hw6]; exact heap_alloc_new _ _
        have hgo6 : Going w1.heap.size pq pe pk pa gx n m cap b0 (i + 1) A xss w6 := by
          obtain ⟨g1, g2, g3⟩ := HGG.out
          have bb := below_then HBB.out b6
          exact ⟨g1.below bb, (bb.block _ (block_lt g2)).trans g2, (bb.block _ (block_lt g3)).trans g3⟩
        have hsz := HW1.out
        have hle := HLE.out
        have hblt : B < w5.heap.size := block_lt HB5.out
        have hs56 := b6.size
        refine (search_one w1.heap.size pq pe pk pa gx n m cap b0 (i + 1) A xss w6 hg (fun W' hb => HR.out.below ((below_then HBW5.out b6).trans (hb.mono (by omega)))) hgo6 (by omega) hb0).mono ?_
        rintro e w7 ⟨g7, ok7, s7, A7, l7, c7, rfl, t7, told7, m1, m2, m3⟩
        have hq6 : pq < w5.heap.size ∧ pk < w5.heap.size ∧ gx < w5.heap.size := by
          obtain ⟨v, us, p1, _, p3, _⟩ := HGG.out.1.queue
          obtain ⟨K, k1, _⟩ := HGG.out.1.known
          have h1 := block_lt p1
          have h2 := block_lt k1
          have h3 := q_lt p3
          have h4 := HBB.out.size
          omega
        obtain ⟨n1, n2, n3⟩ := hq6
        have hx7 : w5.heap.size < w6.heap.size := block_lt x6
        have x7 : w7.heap[w5.heap.size]? = some (.cells #[.int .u16 (s : Int), .slice Au lu cu] 167 (0, 0)) := (t7.same _ hx7 (by omega) (by omega) (by omega)).trans x6
        have d0 : w7.cell? ⟨w5.heap.size, 0, none⟩ = some (.int .u16 (s : Int)) := cell_of_row _ _ 0 _ _ _ x7
        have d1 : w7.cell? ⟨w5.heap.size, 1, none⟩ = some (.slice Au lu cu) := cell_of_row _ _ 1 _ _ _ x7
        have f0 : w7.frozen? ⟨w5.heap.size, 0, none⟩ = false := frozen_of_row _ _ 0 _ _ x7
        have f1 : w7.frozen? ⟨w5.heap.size, 1, none⟩ = false := frozen_of_row _ _ 1 _ _ x7
        have hne7 : w5.heap.size ≠ pq ∧ w5.heap.size ≠ pk ∧ w5.heap.size ≠ g7 := ⟨by omega, by omega, by rcases t7.new with e | e <;> omega⟩
        have x8 : (w7.setCell ⟨w5.heap.size, 0, none⟩ (.int .u16 (s7 : Int))).heap[w5.heap.size]? = some (.cells #[.int .u16 (s7 : Int), .slice Au lu cu] 167 (0, 0)) := heap_setCell_same w7 _ 0 _ _ _ x7
        have X9 := Lib.hid (show ((w7.setCell ⟨w5.heap.size, 0, none⟩ (.int .u16 (s7 : Int))).setCell ⟨w5.heap.size, 1, none⟩ (.slice A7 l7 c7)).heap[w5.heap.size]? = some (.cells #[.int .u16 (s7 : Int), .slice A7 l7 c7] 167 (0, 0)) from heap_setCell_same _ _ 1 _ _ _ x8)
        have T9 := Lib.hid ((told7.aside (o := 0) (x := .int .u16 (s7 : Int)) x7 hne7).aside (o := 1) (x := .slice A7 l7 c7) x8 hne7)
        have HH := HBW5.out.size
        have B9 := Lib.hid (show Below w.heap.size w ((w7.setCell ⟨w5.heap.size, 0, none⟩ (.int .u16 (s7 : Int))).setCell ⟨w5.heap.size, 1, none⟩ (.slice A7 l7 c7)) from (((below_then HBW5.out b6).trans (t7.below.mono (by omega))).setCell (by exact HH) _).setCell (by exact HH) _)
        have HNE7 := Lib.hid hne7
        have HLE9 := Lib.hid (show w1.heap.size ≤ w5.heap.size by omega)
        have hik : i < 1024 := by have h1 := lt_of_at HF.out; have h2 := toldL_len (i := i) hg hb0; omega
        clear HH b6 x6 hgo6 hsz hle hblt hs56 t7 told7 m1 m2 m3 n1 n2 n3 hx7 x7 hne7 x8 hw6 c0' c1'
        go_wp2_with fail
        go_roundg (gk - 1)
        case measure => have := HKI.out; omega
        case rel =>
          refine ⟨i + 1, w5.heap.size, g7, ok7, s7, A7, l7, c7, rfl, rfl, by have := HKI.out; omega, X9.out, T9.out, HNE7.out, HLE9.out, fun k e hk he => ?_, B9.out⟩
          have hlt := lt_of_at HF.out
          obtain ⟨N, hN⟩ := run_succ (aftF n xss) m 400 b0 i
          have hN' : told n m xss b0 (i + 1) = told n m xss b0 i ++ N := hN
          rw [hN', List.getElem?_append_left (by omega)] at he
          rcases Nat.lt_or_ge k i with a | a
          · exact HNO.out k e a he
          · obtain rfl : k = i := by omega
            rw [HF.out] at he
            obtain rfl := Option.some.inj he
            rw [← HS.out]; exact HGL.out
      · have hsome : firstF gl (fnd n m xss 400 b0) = some f := by
          refine first_hit (j := i) (all_at (small hg hb0) HF.out) (by rw [← HS.out]; exact hgl) fun k e hk he => ?_
          have hlt := lt_of_at HF.out
          obtain ⟨e', he'⟩ : ∃ e', (told n m xss b0 i)[k]? = some e' := ⟨_, List.getElem?_eq_getElem (by omega)⟩
          have h1 : (fnd n m xss 400 b0)[k]? = some e' := all_at (small hg hb0) he'
          rw [he] at h1
          obtain rfl := Option.some.inj h1
          exact HNO.out k e hk he'
        have HFS := Lib.hid hsome
        clear hsome hgl
        go_wp2_with fail
        go_ret2
        refine ⟨_, by rw [HFS.out]; rfl, ?_, HBW5.out⟩
        rw [HFS.out]
        exact own_base HU5.out (by have := HW1.out; omega)
end Srch

end Go.Proofs.Ytcglncepmieaaaa
