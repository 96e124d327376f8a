/-
  The pairs of states: rows of structs with two cells; the contract of pairsBelow.
-/
import Derived.Test.YtkhhemlfahdbnaaLaw
import Derived.Deep.AppendLies
namespace Go.Proofs.Ytkhhemlfahdbnaa
open Go.RowKit Go.Deep Go.ChangeShapes Go.WideShapes

theorem own2_below {w w' : World} {base z : Nat} {e : TypeId} {v : Value} {n : Nat} {cs : List Value} (h : w.ownsRow base e z v n cs) (hb : Below w.heap.size w w') : w'.ownsRow base e z v n cs :=
  h.kept (row := none) ⟨hb.os, hb.tape, hb.output, hb.size, fun k hk _ => hb.block k hk⟩ (by
    rcases hv : v.ownBlock with _ | g
    · exact .inl rfl
    · exact .inr (by simp))
theorem own2_form {w : World} {base z : Nat} {e : TypeId} {v : Value} {n : Nat} {cs : List Value} (h : w.ownsRow base e z v n cs) : ∃ A c, v = .slice A n c := by
  rcases h.2 with ⟨rfl, rfl⟩ | ⟨g, cap, cur, rfl, _⟩
  · exact ⟨none, 0, rfl⟩
  · exact ⟨_, _, rfl⟩
theorem own2_nil (w : World) (base z : Nat) (e : TypeId) : w.ownsRow base e z (.slice none 0 0) 0 [] := ⟨by simp, .inl ⟨rfl, rfl⟩⟩

/-- The pairs with the lesser state k, c of them; all pairs with lesser states below k. -/
def prU (k c : Nat) : List (Nat × Nat) := (List.range c).map fun i => (k, k + 1 + i)
def prL (n k : Nat) : List (Nat × Nat) := (List.range k).flatMap fun s => prU s (n - 1 - s)
theorem prU_succ (k c : Nat) : prU k (c + 1) = prU k c ++ [(k, k + 1 + c)] := by simp [prU, List.range_succ]
theorem prL_succ (n k : Nat) : prL n (k + 1) = prL n k ++ prU k (n - 1 - k) := by simp [prL, List.range_succ]
theorem prU_len (k c : Nat) : (prU k c).length = c := by simp [prU]
theorem prL_len (n : Nat) : ∀ k, (prL n k).length ≤ k * n
  | 0 => by simp [prL]
  | k + 1 => by
    rw [prL_succ, List.length_append, prU_len]
    have := prL_len n k
    rw [Nat.add_mul]
    omega
theorem prL_mem {n k s t : Nat} (h : (s, t) ∈ prL n k) : s < k ∧ s < t ∧ t < n := by
  simp only [prL, prU, List.mem_flatMap, List.mem_map, List.mem_range] at h
  obtain ⟨a, ha, i, hi, he⟩ := h
  simp only [Prod.mk.injEq] at he
  omega
theorem prL_has {n s t : Nat} (h : s < t) (ht : t < n) : (s, t) ∈ prL n n := by
  simp only [prL, prU, List.mem_flatMap, List.mem_map, List.mem_range]
  exact ⟨s, by omega, t - (s + 1), by omega, by simp only [Prod.mk.injEq, true_and]; omega⟩
def pcells (gs : List (Nat × Nat)) : List Value := gs.flatMap fun g => [.int .i64 (g.1 : Int), .int .i64 (g.2 : Int)]
theorem pcells_append (a b : List (Nat × Nat)) : pcells (a ++ b) = pcells a ++ pcells b := by simp [pcells]
theorem pcells_at : ∀ {gs : List (Nat × Nat)} {j : Nat} {s t : Nat}, gs[j]? = some (s, t) → (pcells gs)[j * 2]? = some (.int .i64 (s : Int)) ∧ (pcells gs)[j * 2 + 1]? = some (.int .i64 (t : Int))
  | [], j, s, t, h => by simp at h
  | g :: gs, 0, s, t, h => by
    simp only [List.getElem?_cons_zero, Option.some.injEq] at h
    subst h
    exact ⟨rfl, rfl⟩
  | g :: gs, j + 1, s, t, h => by
    simp only [List.getElem?_cons_succ] at h
    have := pcells_at h
    rw [show (j + 1) * 2 = j * 2 + 2 by omega]
    exact this
theorem info_pair : (Try.prog.info? 115).map (fun i => (i.zero, i.size, i.bytes)) = some (some (.agg #[.int .i64 0, .int .i64 0]), 2, 16) := by kernel_rfl
theorem ones_two (k j : Int) : ∀ u ∈ [Value.int .i64 k, Value.int .i64 j], u.oneCell' = true := by
  intro u hu
  simp at hu
  rcases hu with rfl | rfl <;> rfl

set_option maxRecDepth 100000 in
set_option maxHeartbeats 2000000 in
theorem pairsBelow_any (n : Nat) (w : World) (hn : n ≤ 10) :
    Calls Try.prog 91 #[.int .i64 (n : Int)] w fun e w' => ∃ u, e = .returned u ∧ w'.ownsRow w.heap.size 115 2 u (prL n n).length (pcells (prL n n)) ∧ Below w.heap.size w w' := by
  obtain ⟨i0, hi, hz0, hz1, hz2⟩ := info_parts info_pair
  go_enter Try.func91, Try.ntmps91
  go_wp2_with fail
  go_loopw [3, 7] (fun ov iv wr => ∃ k : Nat, k ≤ n ∧ iv = .int .i64 k ∧ wr.ownsRow w.heap.size 115 2 ov (prL n k).length (pcells (prL n k)) ∧ Below w.heap.size w wr) (fun _ iv _ => n - (intOf iv).toNat)
  case atStart => exact ⟨0, Nat.zero_le _, rfl, own2_nil _ _ _ _, Below.refl _ _⟩
  case round =>
    obtain ⟨k, hk, rfl, hown, hbel⟩ := hrel
    obtain ⟨A3, C3, rfl⟩ := own2_form hown
    have HO := Lib.hid hown
    have HB := Lib.hid hbel
    clear hown hbel
    by_cases hlt : k < n
    · have HPL := Lib.hid (prL_len n k)
      have hk0 : (0 : Int) ≤ (k : Int) := by omega
      have hkn : (k : Int) < (n : Int) := by omega
      go_wp2_with fail
      go_loopw [3, 5] (fun ov jv wi => ∃ j : Nat, j ≤ n - 1 - k ∧ jv = .int .i64 ((k + 1 + j : Nat) : Int) ∧ wi.ownsRow w.heap.size 115 2 ov (prL n k ++ prU k j).length (pcells (prL n k ++ prU k j)) ∧ Below w.heap.size w wi) (fun _ jv _ => n - (intOf jv).toNat)
      case atStart => exact ⟨0, Nat.zero_le _, by go_num, by simpa [prU] using HO.out, HB.out⟩
      case round =>
        obtain ⟨j, hj, rfl, hown, hbel⟩ := hrel
        obtain ⟨G, hG⟩ : ∃ G, G = prL n k ++ prU k j := ⟨_, rfl⟩
        rw [← hG] at hown
        obtain ⟨A4, C4, rfl⟩ := own2_form hown
        have HGG := Lib.hid hG
        have hlen : G.length ≤ 110 := by
          rw [hG, List.length_append, prU_len]
          have h1 := HPL.out
          have : k * n ≤ 10 * 10 := Nat.mul_le_mul (by omega) hn
          omega
        clear hG
        have HO2 := Lib.hid hown
        have HB2 := Lib.hid hbel
        clear hown hbel
        by_cases hjn : k + 1 + j < n
        · have hj0 : (0 : Int) ≤ ((k + 1 + j : Nat) : Int) := by omega
          have hjn' : ((k + 1 + j : Nat) : Int) < (n : Int) := by omega
          obtain ⟨T, hT⟩ : ∃ T, T = k + 1 + j := ⟨_, rfl⟩
          rw [← hT] at hj0 hjn' ⊢
          have HT := Lib.hid hT
          clear hT hjn
          go_wp2_with (at_builtin; refine wpList_append_own _ rfl _ _ 112 rfl w.heap.size 115 i0 (.agg #[.int .i64 0, .int .i64 0]) 2 16 Try.underlying112 hi hz0 hz1 hz2 rfl (by decide) _ _ _ rfl (World.ownsRow.alloc HO2.out _) ⟨wr.heap.size, 0, none⟩ 1 1 [.int .i64 (k : Int), .int .i64 (T : Int)] rfl rfl (World.news_of_block (heap_alloc_new wr _)) (ones_two _ _) (by unfold maxLen; omega) (by omega) (by rw [World.size_alloc]; exact Nat.le_succ_of_le HB2.out.size) ?_)
          intro v' w2 hown' hgrow _
          have ba : Below wr.heap.size wr (wr.alloc (.cells #[.int .i64 (k : Int), .int .i64 (T : Int)] 115)) := (Below.refl _ _).alloc (Nat.le_refl _) _
          have HB3 := Lib.hid (below_grown (below_then HB2.out ba) hgrow (fun g hg => (HO2.out.lt g hg).1))
          have HO3 := Lib.hid hown'
          clear hown' hgrow ba hlen
          go_wp2_with fail
          go_roundw
          case rel =>
            have hT := HT.out
            refine ⟨j + 1, by omega, by go_num, ?_, HB3.out⟩
            rw [prU_succ, ← List.append_assoc, ← HGG.out, List.length_append, pcells_append, ← HT.out]
            exact HO3.out
          case measure => simp [intOf]; omega
        · have hje : j = n - 1 - k := by omega
          have HJ := Lib.hid hje
          have hjn' : ¬ ((k + 1 + j : Nat) : Int) < (n : Int) := by omega
          obtain ⟨T, hT⟩ : ∃ T, T = k + 1 + j := ⟨_, rfl⟩
          rw [← hT] at hjn' ⊢
          clear hje hjn hT
          go_wp2_with fail
          go_roundw
          case rel =>
            refine ⟨k + 1, by omega, by go_num, ?_, HB2.out⟩
            rw [prL_succ, ← HJ.out, ← HGG.out]
            exact HO2.out
          case measure => simp [intOf]; omega
    · have hkm : k = n := by omega
      have HKM := Lib.hid hkm
      clear hkm
      go_wp2_with fail
      go_ret
      rw [← HKM.out]
      refine ⟨_, rfl, ?_, HB.out⟩
      have h1 := HO.out
      rw [← HKM.out] at h1
      exact h1

end Go.Proofs.Ytkhhemlfahdbnaa
