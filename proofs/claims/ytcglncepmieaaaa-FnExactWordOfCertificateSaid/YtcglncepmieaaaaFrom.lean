/-
  The model's search: the contract of l02From, and of its first words.
-/
import Derived.Test.YtcglncepmieaaaaSrch
import Derived.Test.YtcglncepmieaaaaMoved
import Derived.Test.YtcglncepmieaaaaAct
import Derived.Deep.DeepCutAuto
namespace Go.Proofs.Ytcglncepmieaaaa
open Go.RowKit Go.Deep Go.ChangeShapes Go.WideShapes

namespace From
open Hunt Srch Moved

theorem in_lt {n b : Nat} (h : In n b) : b < 2 ^ n := by
  rcases Nat.lt_or_ge b (2 ^ n) with a | a
  · exact a
  · obtain ⟨i, hi, hb⟩ := Nat.exists_ge_and_testBit_of_ge_two_pow a
    have := h i hb
    omega

def setsL (T : List Fnd) : List Int := T.map fun f => (f.set : Int)
def parsL (T : List Fnd) : List Int := T.map Fnd.par
def ltrsL (T : List Fnd) : List Int := T.map Fnd.ltr
theorem setsL_len (T : List Fnd) : (setsL T).length = T.length := List.length_map _
theorem parsL_len (T : List Fnd) : (parsL T).length = T.length := List.length_map _
theorem ltrsL_len (T : List Fnd) : (ltrsL T).length = T.length := List.length_map _
theorem setsL_snoc (T : List Fnd) (f : Fnd) : setsL (T ++ [f]) = setsL T ++ [(f.set : Int)] := by simp [setsL]
theorem parsL_snoc (T : List Fnd) (f : Fnd) : parsL (T ++ [f]) = parsL T ++ [f.par] := by simp [parsL]
theorem ltrsL_snoc (T : List Fnd) (f : Fnd) : ltrsL (T ++ [f]) = ltrsL T ++ [f.ltr] := by simp [ltrsL]
theorem setsL_at {T : List Fnd} {j : Nat} {e : Fnd} (h : T[j]? = some e) : (setsL T)[j]? = some (e.set : Int) := by simp [setsL, h]
theorem parsL_at {T : List Fnd} {j : Nat} {e : Fnd} (h : T[j]? = some e) : (parsL T)[j]? = some e.par := by simp [parsL, h]
theorem ltrsL_at {T : List Fnd} {j : Nat} {e : Fnd} (h : T[j]? = some e) : (ltrsL T)[j]? = some e.ltr := by simp [ltrsL, h]

/-- What a search holds on its way: three lists behind a pointer, and what is known. -/
structure WalkS (base p sb N : Nat) (xs bs ls : List Int) (kn : Nat → Bool) (g1 g2 g3 c1 c2 c3 : Nat) (w : World) : Prop where
  blk : w.heap[p]? = some (.cells #[.slice (some ⟨g1, 0, none⟩) xs.length c1, .slice (some ⟨g2, 0, none⟩) bs.length c2, .slice (some ⟨g3, 0, none⟩) ls.length c3] 146 (0, 0))
  s : w.ownsRow base 3 1 (.slice (some ⟨g1, 0, none⟩) xs.length c1) xs.length (xs.map (Value.int .i64))
  b : w.ownsRow base 3 1 (.slice (some ⟨g2, 0, none⟩) bs.length c2) bs.length (bs.map (Value.int .i64))
  l : w.ownsRow base 2 1 (.slice (some ⟨g3, 0, none⟩) ls.length c3) ls.length (ls.map (Value.int .i64))
  seen : ∃ K : Array Value, w.heap[sb]? = some (.cells K 4 (0, 0)) ∧ K.size = N ∧ ∀ b, b < N → K[b]? = some (.bool (kn b))
  ne : g1 ≠ p ∧ g2 ≠ p ∧ g3 ≠ p ∧ g1 ≠ g2 ∧ g1 ≠ g3 ∧ g2 ≠ g3 ∧ sb ≠ p ∧ g1 ≠ sb ∧ g2 ≠ sb ∧ g3 ≠ sb
  le : base ≤ p ∧ base ≤ sb
theorem WalkS.below {base p sb N : Nat} {xs bs ls : List Int} {kn : Nat → Bool} {g1 g2 g3 c1 c2 c3 : Nat} {w w' : World} (h : WalkS base p sb N xs bs ls kn g1 g2 g3 c1 c2 c3 w) (hb : Below w.heap.size w w') : WalkS base p sb N xs bs ls kn g1 g2 g3 c1 c2 c3 w' := by
  obtain ⟨K, k1, k2, k3⟩ := h.seen
  exact ⟨(hb.block _ (block_lt h.blk)).trans h.blk, own_below h.s hb, own_below h.b hb, own_below h.l hb, ⟨K, (hb.block _ (block_lt k1)).trans k1, k2, k3⟩, h.ne, h.le⟩
theorem WalkS.mark {base p sb N t : Nat} {xs bs ls : List Int} {T : List Fnd} {f : Fnd} {g1 g2 g3 c1 c2 c3 : Nat} {w : World} (h : WalkS base p sb N xs bs ls (knownB T) g1 g2 g3 c1 c2 c3 w) (ht : t < N) (hf : f.set = t) :
    WalkS base p sb N xs bs ls (knownB (T ++ [f])) g1 g2 g3 c1 c2 c3 (w.setCell ⟨sb, t, none⟩ (.bool true)) ∧ Below base w (w.setCell ⟨sb, t, none⟩ (.bool true)) := by
  obtain ⟨K, k1, k2, k3⟩ := h.seen
  obtain ⟨n1, n2, n3, n4, n5, n6, n7, n8, n9, n10⟩ := h.ne
  have hoth : ∀ b, b ≠ sb → (w.setCell ⟨sb, t, none⟩ (.bool true)).heap[b]? = w.heap[b]? := fun b hb => heap_setCell_other w ⟨sb, t, none⟩ b _ hb
  refine ⟨⟨(hoth p (Ne.symm n7)).trans h.blk, own_kept h.s (fun q hq => hoth q (by simp [Value.ownBlock] at hq; omega)), own_kept h.b (fun q hq => hoth q (by simp [Value.ownBlock] at hq; omega)), own_kept h.l (fun q hq => hoth q (by simp [Value.ownBlock] at hq; omega)), ⟨K.setIfInBounds t (.bool true), heap_setCell_same w sb t K _ _ k1, by rw [Array.size_setIfInBounds]; exact k2, fun b hb => ?_⟩, h.ne, h.le⟩, (Below.refl _ _).setCell (by exact h.le.2) _⟩
  rw [knownB_snoc, hf]
  by_cases hbt : t = b
  · subst hbt
    rw [Array.getElem?_setIfInBounds_self_of_lt (by omega)]
    simp
  · rw [Array.getElem?_setIfInBounds_ne hbt, k3 b hb, show (t == b) = false by simpa using hbt, Bool.or_false]
/-- What holds behind an append to one of the lists, ahead of the store of it. -/
theorem WalkS.room {base p sb N : Nat} {xs bs ls : List Int} {kn : Nat → Bool} {g1 g2 g3 c1 c2 c3 g : Nat} {w w5 w6 : World} (h : WalkS base p sb N xs bs ls kn g1 g2 g3 c1 c2 c3 w) (hb : Below w.heap.size w w5) (hgr : w5.grownBy w6 (some g)) (hg : g = g1 ∨ g = g2 ∨ g = g3) :
    w6.heap[p]? = some (.cells #[.slice (some ⟨g1, 0, none⟩) xs.length c1, .slice (some ⟨g2, 0, none⟩) bs.length c2, .slice (some ⟨g3, 0, none⟩) ls.length c3] 146 (0, 0)) ∧ (∀ q, q < w.heap.size → q ≠ g → w6.heap[q]? = w.heap[q]?) ∧ Below base w w6 := by
  obtain ⟨n1, n2, n3, n4, n5, n6, n7, n8, n9, n10⟩ := h.ne
  have hs := hb.size
  have lp := block_lt h.blk
  have l1 := h.s.lt g1 rfl
  have l2 := h.b.lt g2 rfl
  have l3 := h.l.lt g3 rfl
  have hold : ∀ q, q < w.heap.size → q ≠ g → w6.heap[q]? = w.heap[q]? := fun q h1 h2 => (hgr.block q (by omega) (by simpa using h2)).trans (hb.block q h1)
  exact ⟨(hold p lp (by rcases hg with e | e | e <;> omega)).trans h.blk, hold, (hb.mono (by omega)).grown hgr (by omega) (fun k hk => by simp at hk; rcases hg with e | e | e <;> omega)⟩
theorem WalkS.push1 {base p sb N : Nat} {xs bs ls : List Int} {kn : Nat → Bool} {g1 g2 g3 c1 c2 c3 : Nat} {w w5 w6 : World} {v' : Value} {x : Int} (h : WalkS base p sb N xs bs ls kn g1 g2 g3 c1 c2 c3 w) (hb : Below w.heap.size w w5) (hgr : w5.grownBy w6 (some g1))
    (hown : w6.ownsRow base 3 1 v' (xs.length + 1) (xs.map (Value.int .i64) ++ [.int .i64 x])) (hat : v'.ownBlock = some g1 ∨ v'.ownBlock = some w5.heap.size) :
    ∃ g c, v' = .slice (some ⟨g, 0, none⟩) (xs.length + 1) c ∧ WalkS base p sb N (xs ++ [x]) bs ls kn g g2 g3 c c2 c3 (w6.setCell ⟨p, 0, none⟩ v') ∧ Below base w (w6.setCell ⟨p, 0, none⟩ v') := by
  obtain ⟨r1, r2, r3⟩ := h.room hb hgr (.inl rfl)
  obtain ⟨A', c, rfl⟩ := own_form hown
  obtain ⟨g, rfl⟩ := own_addr hown (by omega)
  have hg : g = g1 ∨ g = w5.heap.size := by simpa [Value.ownBlock] using hat
  obtain ⟨n1, n2, n3, n4, n5, n6, n7, n8, n9, n10⟩ := h.ne
  obtain ⟨K, k1, k2, k3⟩ := h.seen
  have hs := hb.size
  have lp := block_lt h.blk
  have l0 := block_lt k1
  have l1 := h.s.lt g1 rfl
  have l2 := h.b.lt g2 rfl
  have l3 := h.l.lt g3 rfl
  have hoth : ∀ q, q ≠ p → (w6.setCell ⟨p, 0, none⟩ (.slice (some ⟨g, 0, none⟩) (xs.length + 1) c)).heap[q]? = w6.heap[q]? := fun q hq => heap_setCell_other w6 ⟨p, 0, none⟩ q _ hq
  refine ⟨g, c, rfl, ⟨?_, ?_, own_kept h.b (fun q hq => ?_), own_kept h.l (fun q hq => ?_), ⟨K, (hoth sb n7).trans ((r2 sb l0 (Ne.symm n8)).trans k1), k2, k3⟩, ?_, h.le⟩, r3.setCell (by exact h.le.1) _⟩
  · rw [heap_setCell_same w6 p 0 _ _ _ r1, List.length_append]; rfl
  · rw [List.length_append, List.map_append]
    exact own_kept hown (fun q hq => hoth q (by simp [Value.ownBlock] at hq; rcases hg with e | e <;> omega))
  · simp [Value.ownBlock] at hq; subst hq; exact (hoth g2 n2).trans (r2 g2 l2.2 (Ne.symm n4))
  · simp [Value.ownBlock] at hq; subst hq; exact (hoth g3 n3).trans (r2 g3 l3.2 (Ne.symm n5))
  · rcases hg with e | e <;> (refine ⟨?_, n2, n3, ?_, ?_, n6, n7, ?_, n9, n10⟩ <;> omega)
theorem WalkS.push2 {base p sb N : Nat} {xs bs ls : List Int} {kn : Nat → Bool} {g1 g2 g3 c1 c2 c3 : Nat} {w w5 w6 : World} {v' : Value} {x : Int} (h : WalkS base p sb N xs bs ls kn g1 g2 g3 c1 c2 c3 w) (hb : Below w.heap.size w w5) (hgr : w5.grownBy w6 (some g2))
    (hown : w6.ownsRow base 3 1 v' (bs.length + 1) (bs.map (Value.int .i64) ++ [.int .i64 x])) (hat : v'.ownBlock = some g2 ∨ v'.ownBlock = some w5.heap.size) :
    ∃ g c, v' = .slice (some ⟨g, 0, none⟩) (bs.length + 1) c ∧ WalkS base p sb N xs (bs ++ [x]) ls kn g1 g g3 c1 c c3 (w6.setCell ⟨p, 1, none⟩ v') ∧ Below base w (w6.setCell ⟨p, 1, none⟩ v') := by
  obtain ⟨r1, r2, r3⟩ := h.room hb hgr (.inr (.inl rfl))
  obtain ⟨A', c, rfl⟩ := own_form hown
  obtain ⟨g, rfl⟩ := own_addr hown (by omega)
  have hg : g = g2 ∨ g = w5.heap.size := by simpa [Value.ownBlock] using hat
  obtain ⟨n1, n2, n3, n4, n5, n6, n7, n8, n9, n10⟩ := h.ne
  obtain ⟨K, k1, k2, k3⟩ := h.seen
  have hs := hb.size
  have lp := block_lt h.blk
  have l0 := block_lt k1
  have l1 := h.s.lt g1 rfl
  have l2 := h.b.lt g2 rfl
  have l3 := h.l.lt g3 rfl
  have hoth : ∀ q, q ≠ p → (w6.setCell ⟨p, 1, none⟩ (.slice (some ⟨g, 0, none⟩) (bs.length + 1) c)).heap[q]? = w6.heap[q]? := fun q hq => heap_setCell_other w6 ⟨p, 1, none⟩ q _ hq
  refine ⟨g, c, rfl, ⟨?_, own_kept h.s (fun q hq => ?_), ?_, own_kept h.l (fun q hq => ?_), ⟨K, (hoth sb n7).trans ((r2 sb l0 (Ne.symm n9)).trans k1), k2, k3⟩, ?_, h.le⟩, r3.setCell (by exact h.le.1) _⟩
  · rw [heap_setCell_same w6 p 1 _ _ _ r1, List.length_append]; rfl
  · simp [Value.ownBlock] at hq; subst hq; exact (hoth g1 n1).trans (r2 g1 l1.2 n4)
  · rw [List.length_append, List.map_append]
    exact own_kept hown (fun q hq => hoth q (by simp [Value.ownBlock] at hq; rcases hg with e | e <;> omega))
  · simp [Value.ownBlock] at hq; subst hq; exact (hoth g3 n3).trans (r2 g3 l3.2 (Ne.symm n6))
  · rcases hg with e | e <;> (refine ⟨n1, ?_, n3, ?_, n5, ?_, n7, n8, ?_, n10⟩ <;> omega)
theorem WalkS.push3 {base p sb N : Nat} {xs bs ls : List Int} {kn : Nat → Bool} {g1 g2 g3 c1 c2 c3 : Nat} {w w5 w6 : World} {v' : Value} {x : Int} (h : WalkS base p sb N xs bs ls kn g1 g2 g3 c1 c2 c3 w) (hb : Below w.heap.size w w5) (hgr : w5.grownBy w6 (some g3))
    (hown : w6.ownsRow base 2 1 v' (ls.length + 1) (ls.map (Value.int .i64) ++ [.int .i64 x])) (hat : v'.ownBlock = some g3 ∨ v'.ownBlock = some w5.heap.size) :
    ∃ g c, v' = .slice (some ⟨g, 0, none⟩) (ls.length + 1) c ∧ WalkS base p sb N xs bs (ls ++ [x]) kn g1 g2 g c1 c2 c (w6.setCell ⟨p, 2, none⟩ v') ∧ Below base w (w6.setCell ⟨p, 2, none⟩ v') := by
  obtain ⟨r1, r2, r3⟩ := h.room hb hgr (.inr (.inr rfl))
  obtain ⟨A', c, rfl⟩ := own_form hown
  obtain ⟨g, rfl⟩ := own_addr hown (by omega)
  have hg : g = g3 ∨ g = w5.heap.size := by simpa [Value.ownBlock] using hat
  obtain ⟨n1, n2, n3, n4, n5, n6, n7, n8, n9, n10⟩ := h.ne
  obtain ⟨K, k1, k2, k3⟩ := h.seen
  have hs := hb.size
  have lp := block_lt h.blk
  have l0 := block_lt k1
  have l1 := h.s.lt g1 rfl
  have l2 := h.b.lt g2 rfl
  have l3 := h.l.lt g3 rfl
  have hoth : ∀ q, q ≠ p → (w6.setCell ⟨p, 2, none⟩ (.slice (some ⟨g, 0, none⟩) (ls.length + 1) c)).heap[q]? = w6.heap[q]? := fun q hq => heap_setCell_other w6 ⟨p, 2, none⟩ q _ hq
  refine ⟨g, c, rfl, ⟨?_, own_kept h.s (fun q hq => ?_), own_kept h.b (fun q hq => ?_), ?_, ⟨K, (hoth sb n7).trans ((r2 sb l0 (Ne.symm n10)).trans k1), k2, k3⟩, ?_, h.le⟩, r3.setCell (by exact h.le.1) _⟩
  · rw [heap_setCell_same w6 p 2 _ _ _ r1, List.length_append]; rfl
  · simp [Value.ownBlock] at hq; subst hq; exact (hoth g1 n1).trans (r2 g1 l1.2 n5)
  · simp [Value.ownBlock] at hq; subst hq; exact (hoth g2 n2).trans (r2 g2 l2.2 n6)
  · rw [List.length_append, List.map_append]
    exact own_kept hown (fun q hq => hoth q (by simp [Value.ownBlock] at hq; rcases hg with e | e <;> omega))
  · rcases hg with e | e <;> (refine ⟨n1, n2, ?_, n4, ?_, ?_, n7, n8, n9, ?_⟩ <;> omega)
theorem ext_pre2 {aft : Nat → Nat → Nat} {i : Nat} {e : Fnd} {T : List Fnd} {x : Nat} : ∀ {m : Nat}, x ≤ m → ∃ N, extX aft i e T m = extX aft i e T x ++ N ∧ True
  | 0, h => ⟨[], by obtain rfl : x = 0 := by omega
                    simp, trivial⟩
  | m + 1, h => by
    rcases Nat.eq_or_lt_of_le h with rfl | a
    · exact ⟨[], by simp, trivial⟩
    · obtain ⟨N, hN, _⟩ := ext_pre2 (aft := aft) (i := i) (e := e) (T := T) (x := x) (m := m) (by omega)
      rcases hk : knownB (extX aft i e T m) (aft e.set m) with _ | _
      · exact ⟨N ++ [newF aft i e m], by rw [ext_new hk, hN, List.append_assoc], trivial⟩
      · exact ⟨N, by rw [ext_old hk, hN], trivial⟩
theorem moved_q (A : Option Addr) (n cap b : Nat) (row : List Int) (w : World) (hb : b < 1024) (h : NumsAt w A n row) (hn : n ≤ 10) (hrow : ∀ y ∈ row, 0 ≤ y ∧ y < 10) {t : Nat} (ht : t = aftB b row n) :
    Calls Try.prog 142 #[.slice A n cap, .int .i64 (b : Int)] w fun e w' => e = .returned (.int .i64 (t : Int)) ∧ ∃ k, w' = w.drewN k :=
  (l02Moved_any A n cap b row w hb h hn hrow).mono fun _ _ hh => ⟨by rw [hh.1, ht], 0, hh.2.symm⟩
theorem info_bool : (Try.prog.info? 4).map (fun i => (i.zero, i.size, i.bytes)) = some (some (.bool false), 1, 1) := by kernel_rfl
theorem info_int : (Try.prog.info? 3).map (fun i => (i.zero, i.size, i.bytes)) = some (some (.int .i64 0), 1, 8) := by kernel_rfl

set_option maxRecDepth 100000 in
set_option maxHeartbeats 8000000 in
theorem l02From_any (p0 n m cap b0 : Nat) (A : Option Addr) (xss : List (List Int)) (w : World) (hg : Good n m xss) (hR : RowsAt w A m xss) (hp0 : w.cell? ⟨p0, 0, none⟩ = some (.int .i64 (n : Int))) (hp1 : w.cell? ⟨p0, 1, none⟩ = some (.slice A m cap)) (hb0 : In n b0) :
    Calls Try.prog 119 #[.pointer (some ⟨p0, 0, none⟩), .int .i64 (b0 : Int)] w fun e w' => ∃ p sb g1 g2 g3 c1 c2 c3, e = .returned (.pointer (some ⟨p, 0, none⟩)) ∧
      WalkS w.heap.size p sb (2 ^ n) (setsL (fnd n m xss 1024 b0)) (parsL (fnd n m xss 1024 b0)) (ltrsL (fnd n m xss 1024 b0)) (knownB (fnd n m xss 1024 b0)) g1 g2 g3 c1 c2 c3 w' ∧ Below w.heap.size w w' := by
  have hn10 := hg.n10
  have hm3 := hg.m3
  obtain ⟨W1, hW1⟩ : ∃ W1, W1 = w.alloc (.cells #[.int .i64 (b0 : Int)] 3) := ⟨_, rfl⟩
  obtain ⟨W2, hW2⟩ : ∃ W2, W2 = W1.alloc (.cells #[.int .i64 (-1)] 3) := ⟨_, rfl⟩
  obtain ⟨W3, hW3⟩ : ∃ W3, W3 = W2.alloc (.cells #[.int .i64 0] 2) := ⟨_, rfl⟩
  obtain ⟨W4, hW4⟩ : ∃ W4, W4 = W3.alloc (.cells #[.slice (some ⟨w.heap.size, 0, none⟩) 1 1, .slice (some ⟨w.heap.size + 1, 0, none⟩) 1 1, .slice (some ⟨w.heap.size + 1 + 1, 0, none⟩) 1 1] 146) := ⟨_, rfl⟩
  have s1 : W1.heap.size = w.heap.size + 1 := by rw [hW1, World.size_alloc]
  have s2 : W2.heap.size = w.heap.size + 2 := by rw [hW2, World.size_alloc, s1]
  have s3 : W3.heap.size = w.heap.size + 3 := by rw [hW3, World.size_alloc, s2]
  have s4 : W4.heap.size = w.heap.size + 4 := by rw [hW4, World.size_alloc, s3]
  have b1 : Below w.heap.size w W1 := by rw [hW1]; exact (Below.refl _ _).alloc (Nat.le_refl _) _
  have b2 : Below W1.heap.size W1 W2 := by rw [hW2]; exact (Below.refl _ _).alloc (Nat.le_refl _) _
  have b3 : Below W2.heap.size W2 W3 := by rw [hW3]; exact (Below.refl _ _).alloc (Nat.le_refl _) _
  have b4 : Below W3.heap.size W3 W4 := by rw [hW4]; exact (Below.refl _ _).alloc (Nat.le_refl _) _
  have x1 : W4.heap[w.heap.size]? = some (.cells #[.int .i64 (b0 : Int)] 3 (0, 0)) := (b4.block _ (by omega)).trans ((b3.block _ (by omega)).trans ((b2.block _ (by omega)).trans (by rw [hW1]; exact heap_alloc_new _ _)))
  have x2 : W4.heap[w.heap.size + 1]? = some (.cells #[.int .i64 (-1)] 3 (0, 0)) := (b4.block _ (by omega)).trans ((b3.block _ (by omega)).trans (by rw [hW2, ← s1]; exact heap_alloc_new _ _))
  have x3 : W4.heap[w.heap.size + 2]? = some (.cells #[.int .i64 0] 2 (0, 0)) := (b4.block _ (by omega)).trans (by rw [hW3, ← s2]; exact heap_alloc_new _ _)
  have x4 : W4.heap[w.heap.size + 3]? = some (.cells #[.slice (some ⟨w.heap.size, 0, none⟩) 1 1, .slice (some ⟨w.heap.size + 1, 0, none⟩) 1 1, .slice (some ⟨w.heap.size + 1 + 1, 0, none⟩) 1 1] 146 (0, 0)) := by rw [hW4, ← s3]; exact heap_alloc_new _ _
  have b14 : Below w.heap.size w W4 := below_then (below_then (below_then b1 b2) b3) b4
  have c0 : W4.cell? ⟨p0, 0, none⟩ = some (.int .i64 (n : Int)) := (b14.cell (cell_lt hp0)).trans hp0
  have HP0 := Lib.hid hp0
  have HP1 := Lib.hid hp1
  have HG := Lib.hid hg
  have HR := Lib.hid hR
  have HB0 := Lib.hid hb0
  have HW1 := Lib.hid hW1
  have HW2 := Lib.hid hW2
  have HW3 := Lib.hid hW3
  have HW4 := Lib.hid hW4
  have X1 := Lib.hid x1
  have X2 := Lib.hid x2
  have X3 := Lib.hid x3
  have X4 := Lib.hid x4
  have S4 := Lib.hid s4
  have B14 := Lib.hid b14
  have hp := pow_le hn10
  have hp0' : 0 < 2 ^ n := Nat.pow_pos (by decide)
  obtain ⟨N, hN⟩ : ∃ N, N = 2 ^ n := ⟨_, rfl⟩
  have e1 : ((2 : Int) ^ n) = (N : Int) := by rw [hN]; push_cast; rfl
  have hNN := Lib.hid hN
  rw [← hN] at hp hp0'
  have hw : wrap64 (N : Int) = (N : Int) := by unfold wrap64; omega
  have j0 : (0 : Int) ≤ (n : Int) := by omega
  have j1 : (n : Int) ≤ 10 := by omega
  have hmk := run_make_row' (P := Try.prog) 169 4 (.bool false) 1 Try.underlying169 info_bool rfl .i64 .i64 N (by clear e1 hw; omega) (by clear e1 hw; omega)
  clear hg hR hp0 hp1 hb0 b1 b2 b3 b4 b14 x1 x2 x3 x4 s1 s2 s3 s4 hW1 hW2 hW3 hW4 hN
  go_enter Try.func119, Try.ntmps119
  go_upto_region 2 with fail
  rw [← HW1.out, ← HW2.out, ← HW3.out, ← HW4.out]
  go_upto_region 3 with fail
  have hb0N : b0 < N := by rw [hNN.out]; exact in_lt HB0.out
  obtain ⟨p, hpp⟩ : ∃ p, p = w.heap.size + 1 + 1 + 1 := ⟨_, rfl⟩
  obtain ⟨sb, hsb⟩ : ∃ sb, sb = W4.heap.size := ⟨_, rfl⟩
  obtain ⟨W5, hW5⟩ : ∃ W5, W5 = W4.alloc (.cells (madeCells #[.bool false] N) 4) := ⟨_, rfl⟩
  have b5 : Below W4.heap.size W4 W5 := by rw [hW5]; exact (Below.refl _ _).alloc (Nat.le_refl _) _
  have x5 : W5.heap[sb]? = some (.cells (madeCells #[.bool false] N) 4 (0, 0)) := by rw [hW5, hsb]; exact heap_alloc_new _ _
  have hmc : ∀ b, b < N → (madeCells #[Value.bool false] N)[b]? = some (.bool false) := fun b hb => by
    rw [← Array.getElem?_toList, toList_madeCells_one]; simp [hb]
  have hmz : (madeCells #[Value.bool false] N).size = N := by rw [← Array.length_toList, toList_madeCells_one]; simp
  have hs4 := S4.out
  have hs5 : W5.heap.size = w.heap.size + 5 := by rw [hW5, World.size_alloc, hs4]
  rw [← hW5, ← hpp, ← hsb]
  have c5 : W5.cell? ⟨sb, b0, none⟩ = some (.bool false) := by rw [cell_of_row _ _ b0 _ _ _ x5]; exact hmc b0 hb0N
  have f5 : W5.frozen? ⟨sb, b0, none⟩ = false := frozen_of_row _ _ b0 _ _ x5
  have hws : WalkS w.heap.size p sb N (setsL [⟨b0, -1, 0, []⟩]) (parsL [⟨b0, -1, 0, []⟩]) (ltrsL [⟨b0, -1, 0, []⟩]) (knownB []) w.heap.size (w.heap.size + 1) (w.heap.size + 2) 1 1 1 W5 := by
    have o1 : W1.ownsRow w.heap.size 3 1 (.slice (some ⟨w.heap.size, 0, none⟩) 1 1) 1 [.int .i64 (b0 : Int)] := by rw [HW1.out]; exact World.ownsRow_lit w _ 1 (Nat.le_refl _) (by unfold maxLen; omega) rfl
    have o2 : W2.ownsRow w.heap.size 3 1 (.slice (some ⟨W1.heap.size, 0, none⟩) 1 1) 1 [.int .i64 (-1)] := by rw [HW2.out]; exact World.ownsRow_lit W1 _ 1 (by rw [HW1.out, World.size_alloc]; exact Nat.le_succ _) (by unfold maxLen; omega) rfl
    have o3 : W3.ownsRow w.heap.size 2 1 (.slice (some ⟨W2.heap.size, 0, none⟩) 1 1) 1 [.int .i64 0] := by rw [HW3.out]; exact World.ownsRow_lit W2 _ 1 (by rw [HW2.out, World.size_alloc, HW1.out, World.size_alloc]; omega) (by unfold maxLen; omega) rfl
    have s1 : W1.heap.size = w.heap.size + 1 := by rw [HW1.out, World.size_alloc]
    have s2 : W2.heap.size = w.heap.size + 2 := by rw [HW2.out, World.size_alloc, s1]
    have s3 : W3.heap.size = w.heap.size + 3 := by rw [HW3.out, World.size_alloc, s2]
    have b2 : Below W1.heap.size W1 W2 := by rw [HW2.out]; exact (Below.refl _ _).alloc (Nat.le_refl _) _
    have b3 : Below W2.heap.size W2 W3 := by rw [HW3.out]; exact (Below.refl _ _).alloc (Nat.le_refl _) _
    have b4 : Below W3.heap.size W3 W4 := by rw [HW4.out]; exact (Below.refl _ _).alloc (Nat.le_refl _) _
    rw [s1] at o2
    rw [s2] at o3
    refine ⟨?_, own_below (own_below (own_below (own_below o1 b2) b3) b4) b5, own_below (own_below (own_below o2 b3) b4) b5, own_below (own_below o3 b4) b5, ⟨_, x5, hmz, fun b hb => by rw [hmc b hb]; rfl⟩, ⟨by omega, by omega, by omega, by omega, by omega, by omega, by omega, by omega, by omega, by omega⟩, by omega, by omega⟩
    rw [hpp]
    exact (b5.block _ (by omega)).trans X4.out
  obtain ⟨hws6, hb6⟩ := hws.mark (f := ⟨b0, -1, 0, []⟩) (t := b0) hb0N rfl
  obtain ⟨W6, hW6⟩ : ∃ W6, W6 = W5.setCell ⟨sb, b0, none⟩ (.bool true) := ⟨_, rfl⟩
  rw [← hW6] at hws6 hb6
  have HWS := Lib.hid hws6
  have HB6 := Lib.hid ((below_then B14.out b5).trans hb6)
  have HW6 := Lib.hid hW6
  have i1 : (0 : Int) ≤ (b0 : Int) := by omega
  have i2 : (b0 : Int) < (N : Int) := by omega
  clear hmk hW5 hs4 hs5 hmc hmz b5 x5 hws hws6 hb6 hW6 c0 e1 hw hb0N hpp hsb
  obtain ⟨iI0, iI1, iI2, iI3, iI4⟩ := info_parts info_int
  obtain ⟨iL0, iL1, iL2, iL3, iL4⟩ := info_parts info_int64
  go_upto_region 4 with fail
  rw [← HW6.out]
  clear c5 f5 i1 i2
  go_wp2_with fail
  go_loopw [7] (fun iv wr => ∃ (k g1 g2 g3 c1 c2 c3 : Nat), k ≤ 1024 ∧ iv = .int .i64 k ∧ WalkS w.heap.size p sb N (setsL (runF (aftF n xss) m 1024 b0 k)) (parsL (runF (aftF n xss) m 1024 b0 k)) (ltrsL (runF (aftF n xss) m 1024 b0 k)) (knownB (runF (aftF n xss) m 1024 b0 k)) g1 g2 g3 c1 c2 c3 wr ∧ Below w.heap.size w wr) (fun iv _ => 1025 - (intOf iv).toNat)
  case atStart => exact ⟨0, _, _, _, _, _, _, by omega, rfl, HWS.out, HB6.out⟩
  case round =>
    obtain ⟨k, g1, g2, g3, c1, c2, c3, hk, rfl, hwk, hbk⟩ := hrel
    obtain ⟨T, hT⟩ : ∃ T, T = runF (aftF n xss) m 1024 b0 k := ⟨_, rfl⟩
    rw [← hT] at hwk
    have hTl : T.length ≤ 1024 := by rw [hT]; exact run_len (aftF_lt HG.out) (HB0.out.lt hn10)
    have HT := Lib.hid hT
    have d0 : wr.cell? ⟨p, 0, none⟩ = some (.slice (some ⟨g1, 0, none⟩) T.length c1) := by
      have := cell_of_row _ p 0 _ _ _ hwk.blk
      rw [setsL_len] at this
      exact this
    have HWK := Lib.hid hwk
    have HBK := Lib.hid hbk
    have hB0 : b0 < 1024 := HB0.out.lt hn10
    clear hT hwk hbk
    by_cases hlt : k < T.length
    · obtain ⟨e, he⟩ : ∃ e, T[k]? = some e := ⟨_, List.getElem?_eq_getElem hlt⟩
      have hrun : runF (aftF n xss) m 1024 b0 (k + 1) = extX (aftF n xss) k e T m := by
        have he' := he
        rw [HT.out] at he' ⊢
        exact run_ext he' (by have := word_le (inv_run (aftF n xss) m 1024 b0 k) k e he'; have := HT.out; omega)
      have HE := Lib.hid he
      have HRUN := Lib.hid hrun
      have hset : e.set < 1024 := by
        have he' := he
        rw [HT.out] at he'
        obtain ⟨h1, h2⟩ := (inv_run (aftF n xss) m 1024 b0 k).word e (List.mem_of_getElem? he')
        rw [h1]
        exact goW_lt (aftF_lt HG.out) hB0 _ h2
      have HSET := Lib.hid hset
      clear he hrun hset
      go_wp2_with fail
      go_loopw [8] (fun xv wi => ∃ (x g1 g2 g3 c1 c2 c3 : Nat), x ≤ m ∧ xv = .int .i64 x ∧ WalkS w.heap.size p sb N (setsL (extX (aftF n xss) k e T x)) (parsL (extX (aftF n xss) k e T x)) (ltrsL (extX (aftF n xss) k e T x)) (knownB (extX (aftF n xss) k e T x)) g1 g2 g3 c1 c2 c3 wi ∧ Below w.heap.size w wi) (fun xv _ => m - (intOf xv).toNat)
      case atStart => exact ⟨0, g1, g2, g3, c1, c2, c3, Nat.zero_le _, rfl, HWK.out, HBK.out⟩
      case round =>
        clear d0
        clear HWK
        obtain ⟨x, G1, G2, G3, C1, C2, C3, hx, rfl, hwi, hbi⟩ := hrel
        obtain ⟨T', hT'⟩ : ∃ T', T' = extX (aftF n xss) k e T x := ⟨_, rfl⟩
        rw [← hT'] at hwi
        have HT' := Lib.hid hT'
        have HWI := Lib.hid hwi
        have HBI := Lib.hid hbi
        have q1 : wr.cell? ⟨p0, 1, none⟩ = some (.slice A m cap) := (hbi.cell (cell_lt HP1.out)).trans HP1.out
        by_cases hxm : x < m
        · have hTl' : T'.length ≤ 1024 := by
            obtain ⟨N', hN', _⟩ := ext_pre2 (aft := aftF n xss) (i := k) (e := e) (T := T) (Nat.le_of_lt hxm)
            have h1 := run_len (cap := 1024) (i := k + 1) (aftF_lt HG.out) hB0
            rw [HRUN.out, hN', List.length_append, ← hT'] at h1
            omega
          have he' : T'[k]? = some e := by
            obtain ⟨N', hN', _⟩ := ext_pre (aftF n xss) k e T x
            rw [hT', hN', List.getElem?_append_left hlt]
            exact HE.out
          obtain ⟨row, b4, off4, A5, c5, hr, hA, hcr, hnum⟩ := (HR.out.below hbi).at_ hxm
          subst hA
          obtain ⟨row', hr', hrl⟩ := HG.out.row hxm
          rw [hr] at hr'
          obtain rfl := Option.some.inj hr'
          have hgd : xss.getD x [] = row := by rw [List.getD_eq_getElem?_getD, hr]; rfl
          have hrow : ∀ z ∈ row, 0 ≤ z ∧ z < 10 := fun z hz => by
            obtain ⟨j, hj, ee⟩ := List.mem_iff_getElem.1 hz
            have hz' : row[j]? = some z := by rw [List.getElem?_eq_getElem hj, ee]
            obtain ⟨h1, h2⟩ := HG.out.next hr (q := j) (by omega)
            rw [h1] at hz'
            obtain rfl := Option.some.inj hz'
            omega
          rw [hrl] at hcr hnum
          obtain ⟨t, ht⟩ : ∃ t, t = aftB e.set row n := ⟨_, rfl⟩
          have HTT := Lib.hid (show aftF n xss e.set x = t by unfold aftF; rw [hgd, ht])
          have ht10 : t < 1024 := by rw [← HTT.out]; exact aftF_lt HG.out _ _ HSET.out hxm
          have htN : t < N := by
            rw [← HTT.out, hNN.out]
            have he2 := HE.out
            rw [HT.out] at he2
            obtain ⟨h1, h2⟩ := (inv_run (aftF n xss) m 1024 b0 k).word e (List.mem_of_getElem? he2)
            rw [h1, ← goW_snoc (aftF n xss)]
            exact in_lt (goW_in (acts HG.out) _ _ (okW.append h2 (fun y hy => by simp at hy; subst hy; omega)) HB0.out).1
          have r0 : wr.cell? ⟨p, 0, none⟩ = some (.slice (some ⟨G1, 0, none⟩) T'.length C1) := by
            have := cell_of_row _ p 0 _ _ _ hwi.blk
            rw [setsL_len] at this
            exact this
          have hlt' : k < T'.length := lt_of_at he'
          have r1 : wr.cell? ⟨G1, k, none⟩ = some (.int .i64 (e.set : Int)) := by
            have h1 := hwi.s.cellAt k (by rw [setsL_len]; omega)
            rw [List.getElem?_map, setsL_at he'] at h1
            exact h1
          obtain ⟨K, k1, k2, k3⟩ := hwi.seen
          have r2 : wr.cell? ⟨sb, t, none⟩ = some (.bool (knownB T' t)) := by rw [cell_of_row wr sb t _ _ _ k1]; exact k3 t htN
          have f2 : wr.frozen? ⟨sb, t, none⟩ = false := frozen_of_row wr sb t _ _ k1
          have j0' : (0 : Int) ≤ (x : Int) := by omega
          have j1' : (x : Int) < (m : Int) := by omega
          have j2 : (0 : Int) ≤ (k : Int) := by omega
          have j3 : (k : Int) < (T'.length : Int) := by omega
          have j4 : (0 : Int) ≤ (t : Int) := by omega
          have j5 : (t : Int) < (N : Int) := by omega
          have HNUM := Lib.hid hnum
          have HROW := Lib.hid hrow
          have HTB := Lib.hid ht
          have HTL := Lib.hid hTl'
          have HTN := Lib.hid htN
          clear hr hr' hgd hrow hnum ht k1 k2 k3 he' hTl' hwi hbi hT' htN
          rcases hkn : knownB T' t with _ | _
          · rw [hkn] at r2
            go_upto_region 10 with fail
            go_quiet ((go_at_call 142; exact Calls.quiet_of (moved_q A5 n c5 e.set row _ HSET.out (HNUM.out.drewN _) hn10 HROW.out HTB.out)))
            go_upto_region 11 with fail
            have HKN := Lib.hid (ext_new (aft := aftF n xss) (i := k) (x := x) (e := e) (T := T) (by rw [← HT'.out, HTT.out]; exact hkn))
            obtain ⟨wq, hwq⟩ : ∃ wq, wq = wr.drewN nq := ⟨_, rfl⟩
            have bq : Below wr.heap.size wr wq := by rw [hwq]; exact below_drewN' (Below.refl _ _) nq
            have HWQ := Lib.hid (HWI.out.below bq)
            have HBQ := Lib.hid (below_then HBI.out bq)
            rw [← hwq]
            clear r0 r1 q1 hcr r2 f2 hwq bq hkn HWI HBI
            obtain ⟨K2, k1, k2, k3⟩ := HWQ.out.seen
            have r2 : wq.cell? ⟨sb, t, none⟩ = some (.bool (knownB T' t)) := by rw [cell_of_row wq sb t _ _ _ k1]; exact k3 t HTN.out
            have hkf : knownB T' t = false := by
              rcases h9 : knownB T' t with _ | _
              · rfl
              · have h8 := congrArg List.length HKN.out
                rw [ext_old (by rw [← HT'.out, HTT.out]; exact h9)] at h8
                simp at h8
            rw [hkf] at r2
            have f2 : wq.frozen? ⟨sb, t, none⟩ = false := frozen_of_row wq sb t _ _ k1
            have hm := HWQ.out.mark (f := newF (aftF n xss) k e x) (t := t) HTN.out HTT.out
            obtain ⟨wa, hwa⟩ : ∃ wa, wa = wq.setCell ⟨sb, t, none⟩ (.bool true) := ⟨_, rfl⟩
            rw [← hwa] at hm
            have HWA := Lib.hid hm.1
            have HBA := Lib.hid (HBQ.out.trans hm.2)
            have HWAE := Lib.hid hwa
            have HLS := Lib.hid (show (setsL T').length ≤ 1024 by rw [setsL_len]; exact HTL.out)
            have HLB := Lib.hid (show (parsL T').length ≤ 1024 by rw [parsL_len]; exact HTL.out)
            have HLL := Lib.hid (show (ltrsL T').length ≤ 1024 by rw [ltrsL_len]; exact HTL.out)
            have ra : wa.cell? ⟨p, 0, none⟩ = some (.slice (some ⟨G1, 0, none⟩) (setsL T').length C1) := cell_of_row _ p 0 _ _ _ hm.1.blk
            clear k1 k2 k3 hkf hm hwa
            have ra' := Lib.hid ra
            clear ra
            go_upto_region 13 with fail
            rw [← HWAE.out]
            have ra := ra'.out
            clear r2 f2
            go_wp2_with (at_builtin; refine wpList_append_own_at _ rfl _ _ 144 rfl w.heap.size 3 iI0 (.int .i64 0) 1 8 Try.underlying144 iI1 iI2 iI3 iI4 rfl (by decide) _ _ _ rfl (World.ownsRow.alloc (HWA.out.s) _) ⟨_, 0, none⟩ 1 1 [.int .i64 (t : Int)] rfl rfl (cell_one_new _ _ _) (ones_i64 [(t : Int)]) (by unfold maxLen; have := HLS.out; omega) (by have := HLS.out; omega) (by rw [World.size_alloc]; exact Nat.le_succ_of_le HBA.out.size) ?_)
            intro v' w2 hown hgrow _ hat
            have ba : Below wa.heap.size wa (wa.alloc (.cells #[.int .i64 (t : Int)] 3)) := (Below.refl _ _).alloc (Nat.le_refl _) _
            obtain ⟨m1, m2, m3⟩ := HWA.out.room ba hgrow (.inl rfl)
            obtain ⟨G4, C4, rfl, h4, b4'⟩ := HWA.out.push1 ba hgrow hown (by rw [World.size_alloc]; exact hat)
            have ra : w2.cell? ⟨p, 0, none⟩ = some (.slice (some ⟨G1, 0, none⟩) (setsL T').length C1) := cell_of_row _ p 0 _ _ _ m1
            have fa : w2.frozen? ⟨p, 0, none⟩ = false := frozen_of_row _ p 0 _ _ m1
            obtain ⟨wb, hwb⟩ : ∃ wb, wb = w2.setCell ⟨p, 0, none⟩ (.slice (some ⟨G4, 0, none⟩) ((setsL T').length + 1) C4) := ⟨_, rfl⟩
            rw [← hwb] at h4 b4'
            have HWBE := Lib.hid hwb
            have HWB := Lib.hid h4
            have HBB := Lib.hid (HBA.out.trans b4')
            clear hown hgrow hat ba m1 m2 m3 h4 b4' hwb
            go_upto_region 14 with fail
            rw [← HWBE.out]
            clear ra fa
            have ra : wb.cell? ⟨p, 1, none⟩ = some (.slice (some ⟨G2, 0, none⟩) (parsL T').length C2) := cell_of_row _ p 1 _ _ _ HWB.out.blk
            go_wp2_with (at_builtin; refine wpList_append_own_at _ rfl _ _ 144 rfl w.heap.size 3 iI0 (.int .i64 0) 1 8 Try.underlying144 iI1 iI2 iI3 iI4 rfl (by decide) _ _ _ rfl (World.ownsRow.alloc (HWB.out.b) _) ⟨_, 0, none⟩ 1 1 [.int .i64 (k : Int)] rfl rfl (cell_one_new _ _ _) (ones_i64 [(k : Int)]) (by unfold maxLen; have := HLB.out; omega) (by have := HLB.out; omega) (by rw [World.size_alloc]; exact Nat.le_succ_of_le HBB.out.size) ?_)
            intro v' w3 hown hgrow _ hat
            have ba : Below wb.heap.size wb (wb.alloc (.cells #[.int .i64 (k : Int)] 3)) := (Below.refl _ _).alloc (Nat.le_refl _) _
            obtain ⟨m1, m2, m3⟩ := HWB.out.room ba hgrow (.inr (.inl rfl))
            obtain ⟨G5, C5, rfl, h4, b4'⟩ := HWB.out.push2 ba hgrow hown (by rw [World.size_alloc]; exact hat)
            clear ra
            have ra : w3.cell? ⟨p, 1, none⟩ = some (.slice (some ⟨G2, 0, none⟩) (parsL T').length C2) := cell_of_row _ p 1 _ _ _ m1
            have fa : w3.frozen? ⟨p, 1, none⟩ = false := frozen_of_row _ p 1 _ _ m1
            obtain ⟨wc, hwc⟩ : ∃ wc, wc = w3.setCell ⟨p, 1, none⟩ (.slice (some ⟨G5, 0, none⟩) ((parsL T').length + 1) C5) := ⟨_, rfl⟩
            rw [← hwc] at h4 b4'
            have HWCE := Lib.hid hwc
            have HWC := Lib.hid h4
            have HBC := Lib.hid (HBB.out.trans b4')
            clear hown hgrow hat ba m1 m2 m3 h4 b4' hwc
            go_upto_region 15 with fail
            rw [← HWCE.out]
            clear ra fa
            have ra : wc.cell? ⟨p, 2, none⟩ = some (.slice (some ⟨G3, 0, none⟩) (ltrsL T').length C3) := cell_of_row _ p 2 _ _ _ HWC.out.blk
            go_wp2_with (at_builtin; refine wpList_append_own_at _ rfl _ _ 35 rfl w.heap.size 2 iL0 (.int .i64 0) 1 8 Try.underlying35 iL1 iL2 iL3 iL4 rfl (by decide) _ _ _ rfl (World.ownsRow.alloc (HWC.out.l) _) ⟨_, 0, none⟩ 1 1 [.int .i64 (x : Int)] rfl rfl (cell_one_new _ _ _) (ones_i64 [(x : Int)]) (by unfold maxLen; have := HLL.out; omega) (by have := HLL.out; omega) (by rw [World.size_alloc]; exact Nat.le_succ_of_le HBC.out.size) ?_)
            intro v' w4 hown hgrow _ hat
            have ba : Below wc.heap.size wc (wc.alloc (.cells #[.int .i64 (x : Int)] 2)) := (Below.refl _ _).alloc (Nat.le_refl _) _
            obtain ⟨m1, m2, m3⟩ := HWC.out.room ba hgrow (.inr (.inr rfl))
            obtain ⟨G6, C6, rfl, h4, b4'⟩ := HWC.out.push3 ba hgrow hown (by rw [World.size_alloc]; exact hat)
            clear ra
            have ra : w4.cell? ⟨p, 2, none⟩ = some (.slice (some ⟨G3, 0, none⟩) (ltrsL T').length C3) := cell_of_row _ p 2 _ _ _ m1
            have fa : w4.frozen? ⟨p, 2, none⟩ = false := frozen_of_row _ p 2 _ _ m1
            obtain ⟨wd, hwd⟩ : ∃ wd, wd = w4.setCell ⟨p, 2, none⟩ (.slice (some ⟨G6, 0, none⟩) ((ltrsL T').length + 1) C6) := ⟨_, rfl⟩
            rw [← hwd] at h4 b4'
            have HWDE := Lib.hid hwd
            have HWD := Lib.hid h4
            have HBD := Lib.hid (HBC.out.trans b4')
            clear hown hgrow hat ba m1 m2 m3 h4 b4' hwd
            go_wp2_with fail
            rw [← HWDE.out]
            go_roundw
            case rel =>
              refine ⟨x + 1, G4, G5, G6, C4, C5, C6, by omega, by go_num, ?_, HBD.out⟩
              have h9 := HWD.out
              rw [HKN.out, ← HT'.out, setsL_snoc, parsL_snoc, ltrsL_snoc, show (newF (aftF n xss) k e x).set = t from HTT.out]
              exact h9
            case measure => simp [intOf]; omega
          · rw [hkn] at r2
            go_upto_region 10 with fail
            go_quiet ((go_at_call 142; exact Calls.quiet_of (moved_q A5 n c5 e.set row _ HSET.out (HNUM.out.drewN _) hn10 HROW.out HTB.out)))
            go_upto_region 11 with fail
            have HKN := Lib.hid (ext_old (aft := aftF n xss) (i := k) (x := x) (e := e) (T := T) (by rw [← HT'.out, HTT.out]; exact hkn))
            obtain ⟨wq, hwq⟩ : ∃ wq, wq = wr.drewN nq := ⟨_, rfl⟩
            have bq : Below wr.heap.size wr wq := by rw [hwq]; exact below_drewN' (Below.refl _ _) nq
            have HWQ := Lib.hid (HWI.out.below bq)
            have HBQ := Lib.hid (below_then HBI.out bq)
            rw [← hwq]
            clear r0 r1 q1 hcr r2 f2 hwq bq hkn HWI HBI
            obtain ⟨K2, k1, k2, k3⟩ := HWQ.out.seen
            have r2 : wq.cell? ⟨sb, t, none⟩ = some (.bool true) := by
              rw [cell_of_row wq sb t _ _ _ k1, k3 t HTN.out]
              have h8 := HKN.out
              rcases h9 : knownB T' t with _ | _
              · rw [ext_new (by rw [← HT'.out, HTT.out]; exact h9)] at h8
                have h7 := congrArg List.length h8
                simp at h7
              · rfl
            clear k1 k2 k3
            go_wp2_with fail
            go_roundw
            case rel => exact ⟨x + 1, G1, G2, G3, C1, C2, C3, by omega, by go_num, by rw [HKN.out, ← HT'.out]; exact HWQ.out, HBQ.out⟩
            case measure => simp [intOf]; omega
        · have hxe : x = m := by omega
          have HXE := Lib.hid hxe
          clear hxe hwi hbi hT'
          go_wp2_with fail
          go_roundw
          case rel => exact ⟨k + 1, G1, G2, G3, C1, C2, C3, by omega, by go_num, by rw [HRUN.out, ← HXE.out, ← HT'.out]; exact HWI.out, HBI.out⟩
          case measure => simp [intOf]; omega
    · have hall : T = fnd n m xss 1024 b0 := by
        rw [HT.out]
        exact Hunt.all_stop (small HG.out hB0) (by rw [← HT.out]; omega)
      have HALL := Lib.hid hall
      clear hall
      go_wp2_with fail
      go_ret
      refine ⟨p, sb, g1, g2, g3, c1, c2, c3, rfl, ?_, HBK.out⟩
      rw [← HALL.out, ← hNN.out]
      exact HWK.out
end From

end Go.Proofs.Ytcglncepmieaaaa
