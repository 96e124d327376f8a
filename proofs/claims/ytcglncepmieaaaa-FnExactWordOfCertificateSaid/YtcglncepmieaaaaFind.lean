/-
  The program's search: the contracts of searchFrom and of the function that it hands back.
-/
import Derived.Test.YtcglncepmieaaaaExt
import Derived.Deep.DeepCutAuto
import Derived.Handy
namespace Go.Proofs.Ytcglncepmieaaaa
open Go.RowKit Go.Deep Go.ChangeShapes Go.WideShapes

namespace Srch
open Hunt Room

/-- What has been found when i sets have been told. -/
def told (n m : Nat) (xss : List (List Int)) (b0 i : Nat) : List Fnd := runF (aftF n xss) m 400 b0 i
/-- The search stands at its i-th set. -/
def Going (base pq pe pk pa g n m cap b0 i : Nat) (A : Option Addr) (xss : List (List Int)) (W : World) : Prop :=
  Holds base pq pk g [pa, pe] (knownB (told n m xss b0 i)) ((told n m xss b0 i).drop i) W ∧
    W.heap[pe]? = some (.cells #[.func (.func 150) #[] #[.pointer (some ⟨pa, 0, none⟩), .pointer (some ⟨pk, 0, none⟩), .pointer (some ⟨pq, 0, none⟩)]] 176 (0, 0)) ∧
    W.heap[pa]? = some (.cells #[.int .i64 (n : Int), .slice A m cap] 28 (0, 0))
theorem toldL_len {n m b0 i : Nat} {xss : List (List Int)} (hg : Good n m xss) (hb : b0 < 1024) : (told n m xss b0 i).length ≤ 1024 := run_len (aftF_lt hg) hb
theorem toldL_set {n m b0 i : Nat} {xss : List (List Int)} (hg : Good n m xss) (hb : b0 < 1024) {f : Fnd} (hf : f ∈ told n m xss b0 i) : f.set < 1024 := by
  obtain ⟨h1, h2⟩ := (inv_run (aftF n xss) m 400 b0 i).word f hf
  rw [h1]
  exact goW_lt (aftF_lt hg) hb _ h2
theorem toldL_word {n m b0 i : Nat} {xss : List (List Int)} (hg : Good n m xss) (hb : b0 < 1024) {f : Fnd} (hf : f ∈ told n m xss b0 i) : f.word.length ≤ 1024 := by
  obtain ⟨j, hj⟩ := mem_at hf
  have h1 := word_le (inv_run (aftF n xss) m 400 b0 i) j f hj
  have h2 : j < (told n m xss b0 i).length := lt_of_at hj
  have h3 := toldL_len (n := n) (m := m) (i := i) (xss := xss) hg hb
  omega

theorem ext_pre' {aft : Nat → Nat → Nat} {i : Nat} {e : Fnd} {T : List Fnd} {x : Nat} : ∀ {m : Nat}, x ≤ m → ∃ N, extX aft i e T m = extX aft i e T x ++ N ∧ True
  | 0, h => ⟨[], by obtain rfl : x = 0 := by omega
                    simp, trivial⟩
  | m + 1, h => by
    rcases Nat.eq_or_lt_of_le h with rfl | a
    · exact ⟨[], by simp, trivial⟩
    · obtain ⟨N, hN, _⟩ := ext_pre' (aft := aft) (i := i) (e := e) (T := T) (x := x) (m := m) (by omega)
      rcases hk : knownB (extX aft i e T m) (aft e.set m) with _ | _
      · exact ⟨N ++ [newF aft i e m], by rw [ext_new hk, hN, List.append_assoc], trivial⟩
      · exact ⟨N, by rw [ext_old hk, hN], trivial⟩
theorem own_type {w : World} {base z k n : Nat} {t t' : TypeId} {u : Value} {cs : List Value} {c : Array Value} (h : w.ownsRow base t k u n cs) (hz : w.heap[z]? = some (.cells c t' (0, 0))) (ht : t ≠ t') : u.ownBlock ≠ some z := by
  intro e
  rcases h.2 with ⟨rfl, _⟩ | ⟨g, cap, cur, rfl, hg, hh, _⟩
  · simp [Value.ownBlock] at e
  · simp [Value.ownBlock] at e
    subst e
    rw [hh] at hz
    simp at hz
    exact ht hz.2
theorem Holds.aside {base pq pk g z o : Nat} {Z : List Nat} {kn : Nat → Bool} {L : List Fnd} {w : World} {c : Array Value} {t' : TypeId} {x : Value} (h : Holds base pq pk g Z kn L w) (hz : w.heap[z]? = some (.cells c t' (0, 0))) (ht : 2 ≠ t') (hn : z ≠ pq ∧ z ≠ pk ∧ z ≠ g) : Holds base pq pk g Z kn L (w.setCell ⟨z, o, none⟩ x) := by
  obtain ⟨v, us, h1, h2, h3, h4⟩ := h.queue
  obtain ⟨K, k1, k2, k3⟩ := h.known
  have hoth : ∀ b, b ≠ z → (w.setCell ⟨z, o, none⟩ x).heap[b]? = w.heap[b]? := fun b hb => heap_setCell_other w ⟨z, o, none⟩ b _ hb
  exact ⟨⟨v, us, (hoth _ (Ne.symm hn.1)).trans h1, h2, q_kept h3 (hoth _ (Ne.symm hn.2.2)), fun j e u he hu => ⟨own_kept (h4 j e u he hu).1 (fun q hq => hoth q (fun e' => own_type (h4 j e u he hu).1 hz ht (e' ▸ hq))), (h4 j e u he hu).2⟩⟩, ⟨K, (hoth _ (Ne.symm hn.2.1)).trans k1, k2, k3⟩, h.le, h.ne, fun y hy => by rw [World.size_setCell]; exact h.still y hy⟩

theorem Turned.put {base pq pk g g' o : Nat} {w w' : World} {x : Value} (h : Turned base pq pk g g' w w') (hb : base ≤ w.heap.size) : Turned base pq pk g g' w (w'.setCell ⟨w.heap.size, o, none⟩ x) :=
  ⟨h.below.setCell (by exact hb) _, fun b hb' h1 h2 h3 => (heap_setCell_other w' ⟨w.heap.size, o, none⟩ b _ (by simp; omega)).trans (h.same b hb' h1 h2 h3), h.new⟩
theorem ne_of_gt {a b : Nat} (h : a < b) : b ≠ a := by omega
theorem answered {base pq pk pa pe g n m cap b0 i z : Nat} {A : Option Addr} {xss : List (List Int)} {f : Fnd} {u : Value} {w : World} (h : Holds base pq pk g [pa, pe] (knownB (told n m xss b0 (i + 1))) ((told n m xss b0 (i + 1)).drop (i + 1)) w) (hu : WordV base [pq, pk, g] w u f.word)
    (hz : w.heap[z]? = some (.cells #[.int .u16 0, .slice none 0 0] 167 (0, 0)))
    (he : w.heap[pe]? = some (.cells #[.func (.func 150) #[] #[.pointer (some ⟨pa, 0, none⟩), .pointer (some ⟨pk, 0, none⟩), .pointer (some ⟨pq, 0, none⟩)]] 176 (0, 0)))
    (ha : w.heap[pa]? = some (.cells #[.int .i64 (n : Int), .slice A m cap] 28 (0, 0))) (hn : z ≠ pq ∧ z ≠ pk ∧ z ≠ g) (hze : z ≠ pe) (hza : z ≠ pa) {x y : Value} :
    ((w.setCell ⟨z, 0, none⟩ x).setCell ⟨z, 1, none⟩ y).ownsRow base 2 1 u f.word.length (f.word.map (Value.int .i64)) ∧ Going base pq pe pk pa g n m cap b0 (i + 1) A xss ((w.setCell ⟨z, 0, none⟩ x).setCell ⟨z, 1, none⟩ y) := by
  have h1 : (w.setCell ⟨z, 0, none⟩ x).heap[z]? = some (.cells (#[.int .u16 0, .slice none 0 0].setIfInBounds 0 x) 167 (0, 0)) := heap_setCell_same w z 0 _ _ _ hz
  have hoth : ∀ b, b ≠ z → ((w.setCell ⟨z, 0, none⟩ x).setCell ⟨z, 1, none⟩ y).heap[b]? = w.heap[b]? := fun b hb => (heap_setCell_other _ ⟨z, 1, none⟩ b _ hb).trans (heap_setCell_other w ⟨z, 0, none⟩ b _ hb)
  refine ⟨own_kept hu.1 (fun q hq => hoth q (fun e' => own_type hu.1 hz (by decide) (e' ▸ hq))), (h.aside (o := 0) (x := x) hz (by decide) hn).aside (o := 1) (x := y) h1 (by decide) hn, (hoth pe (Ne.symm hze)).trans he, (hoth pa (Ne.symm hza)).trans ha⟩

set_option maxRecDepth 100000 in
set_option maxHeartbeats 8000000 in
theorem search_any (base pq pe pk pa g n m cap b0 i : Nat) (A : Option Addr) (xss : List (List Int)) (W : World) (hg : Good n m xss) (hR : ∀ W', Below base W W' → RowsAt W' A m xss) (hG : Going base pq pe pk pa g n m cap b0 i A xss W) (hbase : base ≤ W.heap.size) (hb0 : b0 < 1024) :
    Calls Try.prog 151 #[.pointer (some ⟨pq, 0, none⟩), .pointer (some ⟨pe, 0, none⟩)] W fun en W' => ∃ g', Turned base pq pk g g' W W' ∧
      (((told n m xss b0 i)[i]? = none ∧ g' = g ∧ en = .returned (.tuple #[.agg #[.int .u16 0, .slice none 0 0], .bool false])) ∨
       ∃ f u, (told n m xss b0 i)[i]? = some f ∧ en = .returned (.tuple #[.agg #[.int .u16 (f.set : Int), u], .bool true]) ∧ W'.ownsRow base 2 1 u f.word.length (f.word.map (Value.int .i64)) ∧ Going base pq pe pk pa g' n m cap b0 (i + 1) A xss W') := by
  obtain ⟨hh, he, ha⟩ := hG
  have hb1 : Below W.heap.size W (W.alloc (.cells #[.int .u16 0, .slice none 0 0] 167)) := (Below.refl _ _).alloc (Nat.le_refl _) _
  rcases hf : (told n m xss b0 i)[i]? with _ | f
  · have hl : (told n m xss b0 i).drop i = [] := List.drop_eq_nil_of_le (List.getElem?_eq_none_iff.1 hf)
    rw [hl] at hh
    obtain ⟨v, us, q1, q2, q3, q4⟩ := hh.queue
    obtain ⟨off, cq, rfl, _, _⟩ := q_cells q3
    have c0 : (W.alloc (.cells #[.int .u16 0, .slice none 0 0] 167)).cell? ⟨pq, 0, none⟩ = some (.slice (some ⟨g, off, none⟩) 0 cq) := cell_of_row _ pq 0 _ _ _ ((hb1.block _ (block_lt q1)).trans q1)
    clear q1 q2 q3 q4 hh he ha hl hb1
    go_enter Try.func151, Try.ntmps151
    go_wp2_with fail
    go_returns
    exact ⟨g, Turned.of_below ((Below.refl _ _).alloc (Nat.le_refl _) _) hbase, .inl ⟨trivial, rfl, rfl⟩⟩
  · have hi := lt_of_at hf
    have hl : (told n m xss b0 i).drop i = f :: (told n m xss b0 i).drop (i + 1) := by
      rw [List.drop_eq_getElem_cons hi, show (told n m xss b0 i)[i] = f by rw [List.getElem?_eq_getElem hi] at hf; exact Option.some.inj hf]
    rw [hl] at hh
    have HLT := Lib.hid (show pq < W.heap.size ∧ pk < W.heap.size ∧ g < W.heap.size from by
      obtain ⟨v, us, p1, _, p3, _⟩ := hh.queue
      obtain ⟨K, k1, _⟩ := hh.known
      exact ⟨block_lt p1, block_lt k1, q_lt p3⟩)
    have HPE := Lib.hid (hh.still pe (by simp))
    have HPA := Lib.hid (hh.still pa (by simp))
    have HE := Lib.hid ((hb1.block _ (block_lt he)).trans he)
    have HA := Lib.hid ((hb1.block _ (block_lt ha)).trans ha)
    obtain ⟨W1, hW1⟩ : ∃ W1, W1 = W.alloc (.cells #[.int .u16 0, .slice none 0 0] 167) := ⟨_, rfl⟩
    rw [← hW1] at hb1 HE HA
    have HB1 := Lib.hid hb1
    have hh1 := hh.below hb1
    have x1 : W1.heap[W.heap.size]? = some (.cells #[.int .u16 0, .slice none 0 0] 167 (0, 0)) := by rw [hW1]; exact heap_alloc_new _ _
    obtain ⟨off, cq, u, q1, q2, q3, q4, q5, q6⟩ := hh1.pop
    have c0 : W1.cell? ⟨pq, 0, none⟩ = some (.slice (some ⟨g, off, none⟩) (((told n m xss b0 i).drop (i + 1)).length + 1) (cq + 1)) := cell_of_row _ pq 0 _ _ _ q1
    have f0 : W1.frozen? ⟨pq, 0, none⟩ = false := frozen_of_row _ pq 0 _ _ q1
    obtain ⟨L, hL⟩ : ∃ L, L = ((told n m xss b0 i).drop (i + 1)).length := ⟨_, rfl⟩
    rw [← hL] at c0 q1 q5
    have hlpq : pq < W1.heap.size := block_lt q1
    have hlg : g < W1.heap.size := cell_lt q2
    obtain ⟨Au, cu, rfl⟩ := own_form q4.1
    have HW1 := Lib.hid hW1
    have Q1 := Lib.hid q1
    have Q4 := Lib.hid q4
    have Q5 := Lib.hid q5
    have Q6 := Lib.hid q6
    have X1 := Lib.hid x1
    have HL := Lib.hid hL
    rw [hW1] at c0 f0 q2 q3
    clear q1 q4 q5 q6 x1 hL hh hh1 hW1 he ha hb1 hl
    go_enter Try.func151, Try.ntmps151
    go_upto_region 4 with fail
    rw [← HW1.out]
    clear c0 f0 q2 q3
    obtain ⟨W2, hW2⟩ : ∃ W2, W2 = W1.alloc (.cells #[.int .u16 (f.set : Int), .slice Au f.word.length cu] 167) := ⟨_, rfl⟩
    have b2 : Below W1.heap.size W1 W2 := by rw [hW2]; exact (Below.refl _ _).alloc (Nat.le_refl _) _
    have hz1 : W1.heap.size = W.heap.size + 1 := by rw [HW1.out, World.size_alloc]
    have x2 : W2.heap[W.heap.size + 1]? = some (.cells #[.int .u16 (f.set : Int), .slice Au f.word.length cu] 167 (0, 0)) := by rw [hW2, ← hz1]; exact heap_alloc_new _ _
    have c0 : W2.cell? ⟨pq, 0, none⟩ = some (.slice (some ⟨g, off, none⟩) (L + 1) (cq + 1)) := (b2.cell hlpq).trans (cell_of_row _ pq 0 _ _ _ Q1.out)
    have f0 : W2.frozen? ⟨pq, 0, none⟩ = false := frozen_of_row _ pq 0 _ _ ((b2.block _ hlpq).trans Q1.out)
    rw [← hW2]
    have B2 := Lib.hid b2
    have X2 := Lib.hid x2
    have HZ1 := Lib.hid hz1
    clear hW2 b2 x2 hz1
    go_upto_region 5 with fail
    obtain ⟨v3, hv3⟩ : ∃ v3, v3 = Value.slice (if cq = 0 then some { block := g, off := off } else some { block := g, off := off + 2 }) L cq := ⟨_, rfl⟩
    rw [← hv3]
    obtain ⟨h3, t3⟩ := Q6.out W2 v3 B2.out (by
      rw [← HL.out, hv3]
      by_cases h0 : cq = 0
      · subst h0; exact .inr ⟨rfl, by rw [if_pos rfl]⟩
      · exact .inl (by rw [if_neg h0]))
    obtain ⟨W3, hW3⟩ : ∃ W3, W3 = W2.setCell ⟨pq, 0, none⟩ v3 := ⟨_, rfl⟩
    rw [← hW3] at h3 t3 ⊢
    clear hW3 hv3 c0 f0
    have hs1 := HB1.out.size
    have hs2 := B2.out.size
    have hz := HZ1.out
    obtain ⟨l1, l2, l3⟩ := HLT.out
    have hl2 : W.heap.size + 1 < W2.heap.size := block_lt X2.out
    have x3 : W3.heap[W.heap.size + 1]? = some (.cells #[.int .u16 (f.set : Int), .slice Au f.word.length cu] 167 (0, 0)) := (t3.same _ (by omega) (by omega) (by omega) (by omega)).trans X2.out
    have y3 : W3.heap[W.heap.size]? = some (.cells #[.int .u16 0, .slice none 0 0] 167 (0, 0)) := (t3.same _ (by omega) (by omega) (by omega) (by omega)).trans ((B2.out.block _ (by omega)).trans X1.out)
    obtain ⟨e1, e2, e3, e4⟩ := HPE.out
    obtain ⟨a1, a2, a3, a4⟩ := HPA.out
    have he3 := (t3.same pe (by omega) e2 e3 e4).trans ((B2.out.block pe (by omega)).trans HE.out)
    have ha3 := (t3.same pa (by omega) a2 a3 a4).trans ((B2.out.block pa (by omega)).trans HA.out)
    have hu3 := t3.word (Q4.out.below B2.out)
    have hbel3 : Below base W W3 := (HB1.out.trans (B2.out.mono (by omega))).mono hbase |>.trans t3.below
    have c1 : W3.cell? ⟨W.heap.size + 1, 0, none⟩ = some (.int .u16 (f.set : Int)) := cell_of_row _ _ 0 _ _ _ x3
    have c2 : W3.cell? ⟨W.heap.size + 1, 1, none⟩ = some (.slice Au f.word.length cu) := cell_of_row _ _ 1 _ _ _ x3
    have c3 : W3.cell? ⟨pe, 0, none⟩ = some (.func (.func 150) #[] #[.pointer (some ⟨pa, 0, none⟩), .pointer (some ⟨pk, 0, none⟩), .pointer (some ⟨pq, 0, none⟩)]) := cell_of_row _ pe 0 _ _ _ he3
    have H3 := Lib.hid h3
    have T3 := Lib.hid t3
    have X3 := Lib.hid x3
    have Y3 := Lib.hid y3
    have HE3 := Lib.hid he3
    have HA3 := Lib.hid ha3
    have HU3 := Lib.hid hu3
    have HB3 := Lib.hid hbel3
    have hbs3 : base ≤ W3.heap.size := Nat.le_trans hbase hbel3.size
    have HT30 := Lib.hid ((Turned.of_below (pq := pq) (pk := pk) (g := g) (HB1.out.trans (B2.out.mono (by omega))) hbase).trans t3)
    clear h3 t3 x3 y3 he3 ha3 hu3 hbel3 l1 l2 l3 hl2 e1 e2 e3 e4 a1 a2 a3 a4 hs1 hs2 hz
    by_cases hlen : f.word.length < 400
    · have hlen' : (f.word.length : Int) < 400 := by omega
      go_wp2_with fail
      have hrun := run_ext (aft := aftF n xss) (m := m) (b0 := b0) hf hlen
      refine (extend_any base pq pk g pa i [pa, pe] A n m cap xss (told n m xss b0 i) f (.slice Au f.word.length cu) W3 hg (fun W' hb => hR W' (HB3.out.trans hb)) (fun W' hb hz => cell_of_row _ pa 1 _ _ _ ((hz pa (by simp)).trans HA3.out)) H3.out hi HU3.out hlen (toldL_set hg hb0 (List.mem_of_getElem? hf)) (fun x hx => ?_) hbs3).mono ?_
      · obtain ⟨N, hN, _⟩ := ext_pre' (aft := aftF n xss) (i := i) (e := f) (T := told n m xss b0 i) hx
        have h1 := toldL_len (i := i + 1) hg hb0
        unfold told at h1 hN ⊢
        rw [hrun, hN, List.length_append] at h1
        omega
      · rintro en W4 ⟨vv, rfl, g4, h4, t4⟩
        have hwt : told n m xss b0 (i + 1) = extX (aftF n xss) i f (told n m xss b0 i) m := hrun
        rw [← hwt] at h4
        have hs3 := HB3.out.size
        have hx3 : W.heap.size + 1 < W3.heap.size := block_lt X3.out
        obtain ⟨l1, l2, l3⟩ := HLT.out
        have y4 : W4.heap[W.heap.size]? = some (.cells #[.int .u16 0, .slice none 0 0] 167 (0, 0)) := (t4.same _ (by omega) (by omega) (by omega) (by omega)).trans Y3.out
        have x4 : W4.heap[W.heap.size + 1]? = some (.cells #[.int .u16 (f.set : Int), .slice Au f.word.length cu] 167 (0, 0)) := (t4.same _ hx3 (by omega) (by omega) (by omega)).trans X3.out
        have c5 : W4.cell? ⟨W.heap.size + 1, 0, none⟩ = some (.int .u16 (f.set : Int)) := cell_of_row _ _ 0 _ _ _ x4
        have c6 : W4.cell? ⟨W.heap.size + 1, 1, none⟩ = some (.slice Au f.word.length cu) := cell_of_row _ _ 1 _ _ _ x4
        have d0 : W4.cell? ⟨W.heap.size, 0, none⟩ = some (.int .u16 0) := cell_of_row _ _ 0 _ _ _ y4
        have d1 : W4.cell? ⟨W.heap.size, 1, none⟩ = some (.slice none 0 0) := cell_of_row _ _ 1 _ _ _ y4
        have f0 : W4.frozen? ⟨W.heap.size, 0, none⟩ = false := frozen_of_row _ _ 0 _ _ y4
        have f1 : W4.frozen? ⟨W.heap.size, 1, none⟩ = false := frozen_of_row _ _ 1 _ _ y4
        have HH4 := Lib.hid h4
        have Y4 := Lib.hid y4
        have HE4 := Lib.hid ((t4.same pe (Nat.lt_of_lt_of_le HPE.out.1 hs3) HPE.out.2.1 HPE.out.2.2.1 HPE.out.2.2.2).trans HE3.out)
        have HA4 := Lib.hid ((t4.same pa (Nat.lt_of_lt_of_le HPA.out.1 hs3) HPA.out.2.1 HPA.out.2.2.1 HPA.out.2.2.2).trans HA3.out)
        have HU4 := Lib.hid (t4.word HU3.out)
        have HB4 := Lib.hid (HT30.out.trans t4)
        have HN4 := Lib.hid (show W.heap.size ≠ pq ∧ W.heap.size ≠ pk ∧ W.heap.size ≠ g4 from ⟨by omega, by omega, by rcases t4.new with e | e <;> omega⟩)
        clear h4 t4 y4 x4 hs3 l1 l2 l3 hwt hrun
        go_wp2_with fail
        obtain ⟨W5, hW5⟩ : ∃ W5, W5 = (W4.setCell ⟨W.heap.size, 0, none⟩ (.int .u16 (f.set : Int))).setCell ⟨W.heap.size, 1, none⟩ (.slice Au f.word.length cu) := ⟨_, rfl⟩
        have k1 : W5.heap[W.heap.size]? = some (.cells #[.int .u16 (f.set : Int), .slice Au f.word.length cu] 167 (0, 0)) := by rw [hW5]; exact heap_setCell_same _ _ 1 _ _ _ (heap_setCell_same W4 W.heap.size 0 _ _ _ Y4.out)
        have k2 : W5.cell? ⟨W.heap.size, 0, none⟩ = some (.int .u16 (f.set : Int)) := cell_of_row _ _ 0 _ _ _ k1
        have k3 : W5.cell? ⟨W.heap.size, 1, none⟩ = some (.slice Au f.word.length cu) := cell_of_row _ _ 1 _ _ _ k1
        rw [← hW5]
        (try simp only [Exit.inBlock, Exit.then])
        refine bodyPost_ret (by simp [results, Try.results151, go_sem, k2, k3]; try rfl) rfl ?_
        rw [hW5]
        exact ⟨g4, (HB4.out.put hbase).put hbase, .inr ⟨f, _, rfl, rfl, answered HH4.out HU4.out Y4.out HE4.out HA4.out HN4.out (ne_of_gt HPE.out.1) (ne_of_gt HPA.out.1)⟩⟩
    · have hlen' : ¬ (f.word.length : Int) < 400 := by omega
      have d0 : W3.cell? ⟨W.heap.size, 0, none⟩ = some (.int .u16 0) := cell_of_row _ _ 0 _ _ _ Y3.out
      have d1 : W3.cell? ⟨W.heap.size, 1, none⟩ = some (.slice none 0 0) := cell_of_row _ _ 1 _ _ _ Y3.out
      have f0 : W3.frozen? ⟨W.heap.size, 0, none⟩ = false := frozen_of_row _ _ 0 _ _ Y3.out
      have f1 : W3.frozen? ⟨W.heap.size, 1, none⟩ = false := frozen_of_row _ _ 1 _ _ Y3.out
      have HT := Lib.hid (show told n m xss b0 (i + 1) = told n m xss b0 i from run_cap hf hlen)
      have HN4 := Lib.hid (show W.heap.size ≠ pq ∧ W.heap.size ≠ pk ∧ W.heap.size ≠ g from ⟨ne_of_gt HLT.out.1, ne_of_gt HLT.out.2.1, ne_of_gt HLT.out.2.2⟩)
      have HH4 := Lib.hid (show Holds base pq pk g [pa, pe] (knownB (told n m xss b0 (i + 1))) ((told n m xss b0 (i + 1)).drop (i + 1)) W3 by rw [HT.out]; exact H3.out)
      go_wp2_with fail
      obtain ⟨W5, hW5⟩ : ∃ W5, W5 = (W3.setCell ⟨W.heap.size, 0, none⟩ (.int .u16 (f.set : Int))).setCell ⟨W.heap.size, 1, none⟩ (.slice Au f.word.length cu) := ⟨_, rfl⟩
      have k1 : W5.heap[W.heap.size]? = some (.cells #[.int .u16 (f.set : Int), .slice Au f.word.length cu] 167 (0, 0)) := by rw [hW5]; exact heap_setCell_same _ _ 1 _ _ _ (heap_setCell_same W3 W.heap.size 0 _ _ _ Y3.out)
      have k2 : W5.cell? ⟨W.heap.size, 0, none⟩ = some (.int .u16 (f.set : Int)) := cell_of_row _ _ 0 _ _ _ k1
      have k3 : W5.cell? ⟨W.heap.size, 1, none⟩ = some (.slice Au f.word.length cu) := cell_of_row _ _ 1 _ _ _ k1
      rw [← hW5]
      (try simp only [Exit.inBlock, Exit.then])
      refine bodyPost_ret (by simp [results, Try.results151, go_sem, k2, k3]; try rfl) rfl ?_
      rw [hW5]
      exact ⟨g, (HT30.out.put hbase).put hbase, ⟨_, rfl, answered HH4.out HU3.out Y3.out HE3.out HA3.out HN4.out (ne_of_gt HPE.out.1) (ne_of_gt HPA.out.1)⟩⟩
end Srch

end Go.Proofs.Ytcglncepmieaaaa
