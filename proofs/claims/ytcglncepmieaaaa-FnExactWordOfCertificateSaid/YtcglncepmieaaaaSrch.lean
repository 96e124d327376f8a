/-
  The program's search: what it holds between two calls (what searchFrom hands back, and each call of it changes).
-/
import Derived.Test.YtcglncepmieaaaaRoom
import Derived.Test.YtcglncepmieaaaaBits
import Derived.Test.YtcglncepmieaaaaShr
namespace Go.Proofs.Ytcglncepmieaaaa
open Go.RowKit Go.Deep Go.ChangeShapes Go.WideShapes

namespace Srch
open Hunt Room

/-- A word that the search has told: a row of its own memory, in none of the blocks X. -/
def WordV (base : Nat) (X : List Nat) (w : World) (u : Value) (ws : List Int) : Prop :=
  w.ownsRow base 2 1 u ws.length (ws.map (Value.int .i64)) ∧ ∀ q, u.ownBlock = some q → q ∉ X
theorem own_kept {w w' : World} {base : Nat} {t : TypeId} {k n : Nat} {u : Value} {cs : List Value} (h : w.ownsRow base t k u n cs) (hb : ∀ q, u.ownBlock = some q → w'.heap[q]? = w.heap[q]?) : w'.ownsRow base t k u n cs := by
  obtain ⟨hl, h2⟩ := h
  refine ⟨hl, ?_⟩
  rcases h2 with h0 | ⟨g, cap, cur, rfl, hg, hh, rest⟩
  · exact .inl h0
  · exact .inr ⟨g, cap, cur, rfl, hg, (hb g rfl).trans hh, rest⟩
theorem WordV.kept {base : Nat} {X X' : List Nat} {w w' : World} {u : Value} {ws : List Int} (h : WordV base X w u ws) (hb : ∀ q, q < w.heap.size → q ∉ X → w'.heap[q]? = w.heap[q]?) (hX : ∀ q, q < w.heap.size → q ∉ X → q ∉ X') : WordV base X' w' u ws := by
  obtain ⟨h1, h2⟩ := h
  have hlt : ∀ q, u.ownBlock = some q → q < w.heap.size := fun q hq => (h1.lt q hq).2
  exact ⟨own_kept h1 fun q hq => hb q (hlt q hq) (h2 q hq), fun q hq => hX q (hlt q hq) (h2 q hq)⟩
theorem WordV.below {base : Nat} {X : List Nat} {w w' : World} {u : Value} {ws : List Int} (h : WordV base X w u ws) (hb : Below w.heap.size w w') : WordV base X w' u ws :=
  h.kept (fun q hq _ => hb.block q hq) (fun _ _ hx => hx)
theorem WordV.nil {base : Nat} {X : List Nat} {w : World} : WordV base X w (.slice none 0 0) [] :=
  ⟨World.ownsRow_nil _ _ _ _, fun q hq => by simp [Value.ownBlock] at hq⟩

/-- The cells of what is still to be told. -/
def flat : List Fnd → List Value → List Value
  | e :: L, u :: us => .int .u16 (e.set : Int) :: u :: flat L us
  | _, _ => []
theorem flat_len : ∀ {L : List Fnd} {us : List Value}, us.length = L.length → (flat L us).length = L.length * 2
  | [], [], _ => rfl
  | [], u :: us, h => by simp at h
  | e :: L, [], h => by simp at h
  | e :: L, u :: us, h => by
    have := flat_len (L := L) (us := us) (by simpa using h)
    simp only [flat, List.length_cons, this]; omega
theorem flat_snoc {e : Fnd} {u : Value} : ∀ {L : List Fnd} {us : List Value}, us.length = L.length → flat (L ++ [e]) (us ++ [u]) = flat L us ++ [.int .u16 (e.set : Int), u]
  | [], [], _ => rfl
  | [], v :: us, h => by simp at h
  | f :: L, [], h => by simp at h
  | f :: L, v :: us, h => by
    have := flat_snoc (e := e) (u := u) (L := L) (us := us) (by simpa using h)
    simp only [List.cons_append, flat, this]

/-- What the search holds: its queue (the variable at pq), what is known (the array at pk). L: what is still to be told; g: the queue's block; Z: blocks that it does not change. -/
structure Holds (base pq pk g : Nat) (Z : List Nat) (kn : Nat → Bool) (L : List Fnd) (w : World) : Prop where
  queue : ∃ (v : Value) (us : List Value), w.heap[pq]? = some (.cells #[v] 174 (0, 0)) ∧ us.length = L.length ∧ qAt 167 2 w v g (flat L us) L.length ∧ ∀ (j : Nat) (e : Fnd) (u : Value), L[j]? = some e → us[j]? = some u → WordV base [pq, pk, g] w u e.word
  known : ∃ K : Array Value, w.heap[pk]? = some (.cells K 175 (0, 0)) ∧ K.size = 1024 ∧ ∀ b, b < 1024 → K[b]? = some (.bool (kn b))
  le : base ≤ pq ∧ base ≤ pk ∧ base ≤ g
  ne : g ≠ pq ∧ g ≠ pk ∧ pq ≠ pk
  still : ∀ z ∈ Z, z < w.heap.size ∧ z ≠ pq ∧ z ≠ pk ∧ z ≠ g
theorem Holds.below {base pq pk g : Nat} {Z : List Nat} {kn : Nat → Bool} {L : List Fnd} {w w' : World} (h : Holds base pq pk g Z kn L w) (hb : Below w.heap.size w w') : Holds base pq pk g Z kn L w' := by
  obtain ⟨v, us, h1, h2, h3, h4⟩ := h.queue
  obtain ⟨K, k1, k2, k3⟩ := h.known
  exact ⟨⟨v, us, (hb.block _ (block_lt h1)).trans h1, h2, q_below h3 hb, fun j e u he hu => (h4 j e u he hu).below hb⟩, ⟨K, (hb.block _ (block_lt k1)).trans k1, k2, k3⟩, h.le, h.ne, fun z hz => ⟨Nat.lt_of_lt_of_le (h.still z hz).1 hb.size, (h.still z hz).2⟩⟩
/-- What has changed in the search's memory alone. -/
structure Turned (base pq pk g g' : Nat) (w w' : World) : Prop where
  below : Below base w w'
  same : ∀ b, b < w.heap.size → b ≠ pq → b ≠ pk → b ≠ g → w'.heap[b]? = w.heap[b]?
  new : g' = g ∨ w.heap.size ≤ g'
theorem Turned.word {base pq pk g g' : Nat} {w w' : World} {u : Value} {ws : List Int} (h : Turned base pq pk g g' w w') (hw : WordV base [pq, pk, g] w u ws) : WordV base [pq, pk, g'] w' u ws :=
  hw.kept (fun q hq hx => by simp at hx; exact h.same q hq hx.1 hx.2.1 hx.2.2) (fun q hq hx => by
    simp at hx ⊢
    refine ⟨hx.1, hx.2.1, ?_⟩
    rcases h.new with e | e
    · rw [e]; exact hx.2.2
    · omega)
theorem Turned.trans {base pq pk g g' g2 : Nat} {w w' w2 : World} (h : Turned base pq pk g g' w w') (k : Turned base pq pk g' g2 w' w2) : Turned base pq pk g g2 w w2 := by
  have hs := h.below.size
  refine ⟨h.below.trans k.below, fun b hb h1 h2 h3 => ?_, ?_⟩
  · rw [k.same b (by omega) h1 h2 (by rcases h.new with e | e <;> omega), h.same b hb h1 h2 h3]
  · rcases k.new with e | e
    · rw [e]; exact h.new
    · exact .inr (by omega)
theorem Turned.refl (base pq pk g : Nat) (w : World) : Turned base pq pk g g w w := ⟨Below.refl _ _, fun _ _ _ _ _ => rfl, .inl rfl⟩
theorem Turned.of_below {base pq pk g : Nat} {w w' : World} (h : Below w.heap.size w w') (hb : base ≤ w.heap.size) : Turned base pq pk g g w w' := ⟨h.mono hb, fun b hb _ _ _ => h.block b hb, .inl rfl⟩
theorem knownB_snoc (T : List Fnd) (f : Fnd) (b : Nat) : knownB (T ++ [f]) b = (knownB T b || f.set == b) := by
  simp [knownB]
theorem Holds.mark {base pq pk g t : Nat} {Z : List Nat} {T : List Fnd} {f : Fnd} {L : List Fnd} {w : World} (h : Holds base pq pk g Z (knownB T) L w) (ht : t < 1024) (hf : f.set = t) :
    Holds base pq pk g Z (knownB (T ++ [f])) L (w.setCell ⟨pk, t, none⟩ (.bool true)) ∧ Turned base pq pk g g w (w.setCell ⟨pk, t, none⟩ (.bool true)) := by
  obtain ⟨v, us, h1, h2, h3, h4⟩ := h.queue
  obtain ⟨K, k1, k2, k3⟩ := h.known
  have hoth : ∀ b, b ≠ pk → (w.setCell ⟨pk, t, none⟩ (.bool true)).heap[b]? = w.heap[b]? := fun b hb => heap_setCell_other w ⟨pk, t, none⟩ b _ hb
  refine ⟨⟨⟨v, us, (hoth _ h.ne.2.2).trans h1, h2, q_kept h3 (hoth _ h.ne.2.1), fun j e u he hu => (h4 j e u he hu).kept (fun q _ hx => by simp at hx; exact hoth q hx.2.1) (fun _ _ hx => hx)⟩, ⟨K.setIfInBounds t (.bool true), heap_setCell_same w pk t K _ _ k1, by rw [Array.size_setIfInBounds]; exact k2, fun b hb => ?_⟩, h.le, h.ne, fun z hz => by rw [World.size_setCell]; exact h.still z hz⟩, ⟨(Below.refl _ _).setCell (by exact h.le.2.1) _, fun b _ _ h2 _ => hoth b h2, .inl rfl⟩⟩
  rw [knownB_snoc, hf]
  by_cases hbt : t = b
  · subst hbt
    rw [Array.getElem?_setIfInBounds_self_of_lt (by omega)]
    simp
  · rw [Array.getElem?_setIfInBounds_ne hbt, k3 b hb, show (t == b) = false by simpa using hbt, Bool.or_false]
theorem Holds.push {base pq pk g g' : Nat} {Z : List Nat} {kn : Nat → Bool} {L : List Fnd} {f : Fnd} {w w5 w6 : World} {v v' un : Value} {us : List Value} (hh : Holds base pq pk g Z kn L w)
    (_h1 : w.heap[pq]? = some (.cells #[v] 174 (0, 0))) (h2 : us.length = L.length) (h4 : ∀ (j : Nat) (e : Fnd) (u : Value), L[j]? = some e → us[j]? = some u → WordV base [pq, pk, g] w u e.word)
    (hb : Below w.heap.size w w5) (hbase : base ≤ w.heap.size) (hu : w5.ownsRow w.heap.size 2 1 un f.word.length (f.word.map (Value.int .i64)))
    (hq : qAt 167 2 w6 v' g' (flat L us ++ [.int .u16 (f.set : Int), un]) (L.length + 1)) (hgr : w5.grownBy w6 (some g)) (hg' : g' = g ∨ w5.heap.size ≤ g') :
    Holds base pq pk g' Z kn (L ++ [f]) (w6.setCell ⟨pq, 0, none⟩ v') ∧ Turned base pq pk g g' w (w6.setCell ⟨pq, 0, none⟩ v') := by
  obtain ⟨v0, us0, p1, _, p3, _⟩ := hh.queue
  obtain ⟨K, k1, k2, k3⟩ := hh.known
  have hpq := block_lt p1
  have hpk := block_lt k1
  have hgl := q_lt p3
  have hs5 := hb.size
  have hs6 := hgr.size
  obtain ⟨n1, n2, n3⟩ := hh.ne
  have hne' : g' ≠ pq ∧ g' ≠ pk := by rcases hg' with e | e <;> omega
  have hoth : ∀ b, b ≠ pq → (w6.setCell ⟨pq, 0, none⟩ v').heap[b]? = w6.heap[b]? := fun b hb => heap_setCell_other w6 ⟨pq, 0, none⟩ b _ hb
  have hold : ∀ b, b < w.heap.size → b ≠ pq → b ≠ g → (w6.setCell ⟨pq, 0, none⟩ v').heap[b]? = w.heap[b]? := fun b h1 h2 h3 => by
    rw [hoth b h2, hgr.block b (by omega) (by simpa using h3), hb.block b h1]
  have hpqc : (w6.setCell ⟨pq, 0, none⟩ v').heap[pq]? = some (.cells #[v'] 174 (0, 0)) := by
    have : w6.heap[pq]? = some (.cells #[v0] 174 (0, 0)) := by rw [hgr.block pq (by omega) (by simpa using Ne.symm n1), hb.block pq hpq, p1]
    rw [heap_setCell_same w6 pq 0 _ _ _ this]; rfl
  have hbel : Below base w (w6.setCell ⟨pq, 0, none⟩ v') := ((hb.mono hbase).grown hgr (by omega) (fun k hk => by simp at hk; have := hh.le.2.2; omega)).setCell (by exact hh.le.1) _
  refine ⟨⟨⟨v', us ++ [un], hpqc, by rw [List.length_append, List.length_append, h2]; rfl, ?_, fun j e u he hu' => ?_⟩, ⟨K, by rw [hold pk hpk (Ne.symm n3) (Ne.symm n2)]; exact k1, k2, k3⟩, ⟨hh.le.1, hh.le.2.1, by rcases hg' with e | e <;> (have := hh.le.2.2; omega)⟩, ⟨hne'.1, hne'.2, n3⟩, fun z hz => ?_⟩, ⟨hbel, fun b h1 h2 _ h4 => hold b h1 h2 h4, ?_⟩⟩
  · rw [flat_snoc h2, List.length_append]
    exact q_kept hq (hoth g' hne'.1)
  · rcases Nat.lt_or_ge j L.length with a | a
    · rw [List.getElem?_append_left a] at he
      rw [List.getElem?_append_left (by omega)] at hu'
      refine (h4 j e u he hu').kept (fun q hq hx => ?_) (fun q hq hx => ?_)
      · simp at hx; exact hold q hq hx.1 hx.2.2
      · simp at hx ⊢
        refine ⟨hx.1, hx.2.1, ?_⟩
        rcases hg' with e | e
        · rw [e]; exact hx.2.2
        · omega
    · rw [List.getElem?_append_right a] at he
      rw [List.getElem?_append_right (by omega)] at hu'
      obtain ⟨e1, e2⟩ : j - L.length = 0 ∧ f = e := by
        rcases hk : j - L.length with _ | k
        · rw [hk] at he; exact ⟨rfl, by simpa using he⟩
        · rw [hk] at he; simp at he
      rw [h2, e1] at hu'
      obtain rfl : un = u := by simpa using hu'
      subst e2
      have hlt : ∀ q, un.ownBlock = some q → w.heap.size ≤ q ∧ q < w5.heap.size := fun q hq => hu.lt q hq
      refine ⟨own_base (own_kept hu fun q hq => ?_) hbase, fun q hq => ?_⟩
      · obtain ⟨l1, l2⟩ := hlt q hq
        rw [hoth q (by omega), hgr.block q l2 (by simp; omega)]
      · obtain ⟨l1, l2⟩ := hlt q hq
        simp
        refine ⟨by omega, by omega, ?_⟩
        rcases hg' with e | e <;> omega
  · obtain ⟨z1, z2, z3, z4⟩ := hh.still z hz
    refine ⟨by rw [World.size_setCell]; omega, z2, z3, ?_⟩
    rcases hg' with e | e <;> omega
  · rcases hg' with e | e
    · exact .inl e
    · exact .inr (by omega)
theorem after_push {pq g fb : Nat} {w w5 w6 : World} {v v' a u : Value} {t1 t2 : TypeId} (hb : Below w.heap.size w w5) (hgr : w5.grownBy w6 (some g)) (hpq : w.heap[pq]? = some (.cells #[v] t1 (0, 0))) (hfb : w.heap[fb]? = some (.cells #[a, u] t2 (0, 0))) (h1 : g ≠ pq) (h2 : fb ≠ g) (h3 : fb ≠ pq) :
    w6.cell? ⟨pq, 0, none⟩ = some v ∧ w6.frozen? ⟨pq, 0, none⟩ = false ∧ w6.cell? ⟨fb, 1, none⟩ = some u ∧ (w6.setCell ⟨pq, 0, none⟩ v').cell? ⟨fb, 1, none⟩ = some u := by
  have hs := hb.size
  have e1 : w6.heap[pq]? = some (.cells #[v] t1 (0, 0)) := (hgr.block pq (Nat.lt_of_lt_of_le (block_lt hpq) hs) (by simpa using Ne.symm h1)).trans ((hb.block pq (block_lt hpq)).trans hpq)
  have e2 : w6.heap[fb]? = some (.cells #[a, u] t2 (0, 0)) := (hgr.block fb (Nat.lt_of_lt_of_le (block_lt hfb) hs) (by simpa using h2)).trans ((hb.block fb (block_lt hfb)).trans hfb)
  have e3 : (w6.setCell ⟨pq, 0, none⟩ v').heap[fb]? = some (.cells #[a, u] t2 (0, 0)) := (heap_setCell_other w6 ⟨pq, 0, none⟩ fb _ h3).trans e2
  exact ⟨cell_of_row w6 pq 0 _ _ _ e1, frozen_of_row w6 pq 0 _ _ e1, cell_of_row w6 fb 1 _ _ _ e2, cell_of_row _ fb 1 _ _ _ e3⟩
theorem Holds.pop {base pq pk g : Nat} {Z : List Nat} {kn : Nat → Bool} {f : Fnd} {L : List Fnd} {w : World} (h : Holds base pq pk g Z kn (f :: L) w) :
    ∃ off cap u, w.heap[pq]? = some (.cells #[.slice (some ⟨g, off, none⟩) (L.length + 1) (cap + 1)] 174 (0, 0)) ∧ w.cell? ⟨g, off, none⟩ = some (.int .u16 (f.set : Int)) ∧ w.cell? ⟨g, off + 1, none⟩ = some u ∧ WordV base [pq, pk, g] w u f.word ∧ L.length ≤ cap ∧
      ∀ w' v', Below w.heap.size w w' → (v' = .slice (some ⟨g, off + 2, none⟩) L.length cap ∨ (cap = 0 ∧ v' = .slice (some ⟨g, off, none⟩) L.length 0)) → Holds base pq pk g Z kn L (w'.setCell ⟨pq, 0, none⟩ v') ∧ Turned base pq pk g g w' (w'.setCell ⟨pq, 0, none⟩ v') := by
  obtain ⟨v, us, h1, h2, h3, h4⟩ := h.queue
  obtain ⟨u, us, rfl⟩ : ∃ u us', us = u :: us' := by
    rcases us with _ | ⟨u, us⟩
    · simp at h2
    · exact ⟨u, us, rfl⟩
  rw [List.length_cons, List.length_cons] at h2
  have h2' : us.length = L.length := by omega
  rw [List.length_cons] at h3
  obtain ⟨off, cap, rfl, hc, hle, hq1, hq2⟩ := q_pop h3
  have hd : (flat (f :: L) (u :: us)).drop 2 = flat L us := rfl
  rw [hd] at hq1 hq2
  refine ⟨off, cap, u, h1, ?_, ?_, h4 0 f u rfl rfl, hle, fun w' v' hb hv => ?_⟩
  · have := hc 0 (.int .u16 (f.set : Int)) rfl
    rwa [Nat.add_zero] at this
  · exact hc 1 u rfl
  · have hh := h.below hb
    obtain ⟨K, k1, k2, k3⟩ := hh.known
    have hpq : w'.heap[pq]? = some (.cells #[.slice (some ⟨g, off, none⟩) (L.length + 1) (cap + 1)] 174 (0, 0)) := (hb.block _ (block_lt h1)).trans h1
    have hoth : ∀ b, b ≠ pq → (w'.setCell ⟨pq, 0, none⟩ v').heap[b]? = w'.heap[b]? := fun b hb => heap_setCell_other w' ⟨pq, 0, none⟩ b _ hb
    have hqv : qAt 167 2 w v' g (flat L us) L.length := by
      rcases hv with rfl | ⟨h0, rfl⟩
      · exact hq1
      · exact hq2 h0
    refine ⟨⟨⟨v', us, ?_, h2', q_kept (q_below hqv hb) (hoth g hh.ne.1), fun j e u' he hu => ?_⟩, ⟨K, (hoth pk (Ne.symm hh.ne.2.2)).trans k1, k2, k3⟩, hh.le, hh.ne, fun z hz => by rw [World.size_setCell]; exact hh.still z hz⟩, ⟨(Below.refl _ _).setCell (by exact hh.le.1) _, fun b _ h1 _ _ => hoth b h1, .inl rfl⟩⟩
    · rw [heap_setCell_same w' pq 0 _ _ _ hpq]; rfl
    · exact ((h4 (j + 1) e u' (by simpa using he) (by simpa using hu)).below hb).kept (fun q _ hx => by simp at hx; exact hoth q hx.1) (fun _ _ hx => hx)
/-- All that is wanted behind the append to the queue and the store of its variable. -/
theorem pushed {base pq pk g g' fb len t x Q off cap : Nat} {Z : List Nat} {kn : Nat → Bool} {L : List Fnd} {f : Fnd} {w w5 w6 : World} {v a u un : Value} {us : List Value} {ws : List Int} {t2 : TypeId} (hh : Holds base pq pk g Z kn L w)
    (h1 : w.heap[pq]? = some (.cells #[v] 174 (0, 0))) (h2 : us.length = L.length) (h4 : ∀ (j : Nat) (e : Fnd) (u : Value), L[j]? = some e → us[j]? = some u → WordV base [pq, pk, g] w u e.word)
    (hbase : base ≤ w.heap.size) (hfb : w.heap[fb]? = some (.cells #[a, u] t2 (0, 0))) (hf2 : fb ≠ g) (hf3 : fb ≠ pq) (hset : f.set = t) (hword : f.word = ws ++ [(x : Int)]) (hlen : len = ws.length + 1) (hQ : Q = L.length)
    (hb : Below w.heap.size w w5) (hu : w5.ownsRow w.heap.size 2 1 un len (ws.map (Value.int .i64) ++ [.int .i64 (x : Int)]))
    (hgr : w5.grownBy w6 (some g)) (hg' : g' = g ∨ w5.heap.size ≤ g')
    (hq : qAt 167 2 w6 (.slice (some ⟨g', off, none⟩) (Q + 1) cap) g' (flat L us ++ [.int .u16 (t : Int), un]) (Q + 1)) :
    (Holds base pq pk g' Z kn (L ++ [f]) (w6.setCell ⟨pq, 0, none⟩ (.slice (some ⟨g', off, none⟩) (Q + 1) cap)) ∧ Turned base pq pk g g' w (w6.setCell ⟨pq, 0, none⟩ (.slice (some ⟨g', off, none⟩) (Q + 1) cap))) ∧
      w6.cell? ⟨pq, 0, none⟩ = some v ∧ w6.frozen? ⟨pq, 0, none⟩ = false ∧ w6.cell? ⟨fb, 1, none⟩ = some u ∧ (w6.setCell ⟨pq, 0, none⟩ (.slice (some ⟨g', off, none⟩) (Q + 1) cap)).cell? ⟨fb, 1, none⟩ = some u := by
  subst hQ hlen hset
  refine ⟨Holds.push hh h1 h2 h4 hb hbase ?_ hq hgr hg', after_push hb hgr h1 hfb hh.ne.1 hf2 hf3⟩
  rw [hword, List.length_append, List.map_append]
  exact hu
end Srch

end Go.Proofs.Ytcglncepmieaaaa
