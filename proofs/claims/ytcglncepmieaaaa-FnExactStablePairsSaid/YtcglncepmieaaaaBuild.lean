/-
  The contract of buildAutomaton, for whatever function tells where the letters lead.
-/
import Derived.Test.YtcglncepmieaaaaTab
namespace Go.Proofs.Ytcglncepmieaaaa
open Go.RowKit Go.Deep Go.ChangeShapes Go.WideShapes

/-- The automaton's rows: for the letters below m, the numbers that f tells for the states below n. -/
def rowsF (n : Nat) (f : Nat → Nat → Int) (m : Nat) : List (List Int) := (List.range m).map fun x => (List.range n).map (f x)
theorem rowsF_len (n : Nat) (f : Nat → Nat → Int) (m : Nat) : (rowsF n f m).length = m := by simp [rowsF]
theorem rowsF_succ (n : Nat) (f : Nat → Nat → Int) (m : Nat) : rowsF n f (m + 1) = rowsF n f m ++ [(List.range n).map (f m)] := by simp [rowsF, List.range_succ]
theorem rowsF_sum (n : Nat) (f : Nat → Nat → Int) : ∀ m, sumLens (rowsF n f m) = m * n
  | 0 => by simp [rowsF, sumLens]
  | m + 1 => by
    have := rowsF_sum n f m
    rw [rowsF_succ]
    unfold sumLens at this ⊢
    rw [List.map_append, List.sum_append, this, Nat.add_mul]
    simp

set_option maxRecDepth 100000 in
set_option maxHeartbeats 2000000 in
theorem buildAutomaton_any (F : Nat) (caps : Array Value) (n m : Nat) (f : Nat → Nat → Int) (w : World) (hn : n ≤ 10) (hm : m ≤ 3)
    (henter : ∀ (args : Array Value) (W : World), (callFunc F args).run Try.prog W = .ok (.enter F args) W)
    (hlead : ∀ (x q : Nat), x < m → q < n → ∀ W', Below w.heap.size w W' → Calls Try.prog F (#[.int .i64 (x : Int), .int .i64 (q : Int)] ++ caps) W' fun e w' => e = .returned (.int .i64 (f x q)) ∧ Below W'.heap.size W' w') :
    Calls Try.prog 87 #[.int .i64 (n : Int), .int .i64 (m : Int), .func (.func F) #[] caps] w fun e w' => ∃ v, e = .returned (.agg #[.int .i64 (n : Int), v]) ∧ TabIn w.heap.size w'.heap.size w' v (rowsF n f m) ∧ Below w.heap.size w w' := by
  have HLD := Lib.hid hlead
  have HEN := Lib.hid henter
  clear hlead henter
  have hmk := run_make_row' (P := Try.prog) 35 2 (.int .i64 0) 8 Try.underlying35 info_int64 rfl .i64 .i64 n (by omega) (by omega)
  go_enter Try.func87, Try.ntmps87
  go_wp2_with fail
  obtain ⟨i1, hi1, hy0, hy1, hy2⟩ := info_parts info_ints
  have hown0 : TabV (w.heap.size + 2) (w.heap.size + 2) ((w.alloc (.cells #[.int .i64 0, .slice none 0 0] 28)).alloc (.cells #[.int .i64 (n : Int), .slice none 0 0] 28)) (.slice none 0 0) [] (rowsF n f 0) := by
    refine ⟨rfl, World.ownsRow_nil _ _ _ _, fun g hg => ?_, fun r u xs hu => ?_, fun r r' u u' g hu => ?_, fun r u g hu => ?_⟩
    · simp [Value.ownBlock] at hg
    · simp at hu
    · simp at hu
    · simp at hu
  have HT0 := Lib.hid hown0
  clear hown0
  go_loopw [14] (fun i wr => ∃ (k : Nat) (v : Value) (vs : List Value), k ≤ m ∧ i = .int .i64 k ∧ wr.heap[w.heap.size]? = some (.cells #[.int .i64 0, .slice none 0 0] 28 (0, 0)) ∧ wr.heap[w.heap.size + 1]? = some (.cells #[.int .i64 (n : Int), v] 28 (0, 0)) ∧
      TabV (w.heap.size + 2) wr.heap.size wr v vs (rowsF n f k) ∧ Below w.heap.size w wr) (fun i _ => m - (intOf i).toNat)
  case atStart =>
    refine ⟨0, .slice none 0 0, [], Nat.zero_le _, rfl, ?_, ?_, HT0.out.wide (Nat.le_refl _) (by simp), ((Below.refl _ w).alloc (Nat.le_refl _) _).alloc (by simp) _⟩
    · rw [Below.heap_alloc _ _ _ (by simp)]; exact heap_alloc_new _ _
    · have := heap_alloc_new (w.alloc (.cells #[.int .i64 0, .slice none 0 0] 28)) (.cells #[.int .i64 (n : Int), .slice none 0 0] 28)
      rw [World.size_alloc] at this; exact this
  case round =>
    obtain ⟨k, v, vs, hk, rfl, hx0, hx1, htab, hbel⟩ := hrel
    have hvf := own_form htab.out
    have HX0 := Lib.hid hx0
    have HX1 := Lib.hid hx1
    have HT := Lib.hid htab
    have HB := Lib.hid hbel
    obtain ⟨A3, c3, rfl⟩ := hvf
    by_cases hlt : k < m
    · clear hx0 hx1 htab hbel
      obtain ⟨G9, hG9⟩ : ∃ G9, G9 = wr.heap.size := ⟨_, rfl⟩
      have HG9 := Lib.hid hG9
      have hlt2 : w.heap.size + 1 < wr.heap.size := block_lt HX1.out
      have HLT2 := Lib.hid (show w.heap.size + 1 < G9 by omega)
      have hb1 : Below wr.heap.size wr (wr.alloc (.cells (madeCells #[.int .i64 0] n) 2)) := (Below.refl _ _).alloc (Nat.le_refl _) _
      have HN0 : Hid ((wr.alloc (.cells (madeCells #[.int .i64 0] n) 2)).ownsRow wr.heap.size 2 1 (.slice (some ⟨wr.heap.size, 0, none⟩) n n) n ((fillK n 0 (f k)).map (Value.int .i64))) := Lib.hid (by
        rw [fillK_0, ← made_zeros]
        exact World.ownsRow_lit wr _ n (Nat.le_refl _) (by unfold maxLen; omega) (by rw [size_madeCells, Nat.mul_one]))
      have HT1 := Lib.hid (HT.out.below hb1)
      have HY0 := Lib.hid ((hb1.block _ (block_lt HX0.out)).trans HX0.out)
      have HY1 := Lib.hid ((hb1.block _ (block_lt HX1.out)).trans HX1.out)
      have HB1 := Lib.hid (below_then HB.out hb1)
      have HZ1 := Lib.hid (show wr.heap.size + 1 ≤ (wr.alloc (.cells (madeCells #[.int .i64 0] n) 2)).heap.size by simp)
      rw [← hG9] at HT1 HN0 HZ1
      clear hG9 hlt2 hb1
      go_wp2_with fail
      rw [← HG9.out]
      clear hmk
      go_loopw [20] (fun j wi => ∃ q : Nat, q ≤ n ∧ j = .int .i64 q ∧ wi.heap[w.heap.size]? = some (.cells #[.int .i64 0, .slice none 0 0] 28 (0, 0)) ∧ wi.heap[w.heap.size + 1]? = some (.cells #[.int .i64 (n : Int), .slice A3 (rowsF n f k).length c3] 28 (0, 0)) ∧
          TabV (w.heap.size + 2) G9 wi (.slice A3 (rowsF n f k).length c3) vs (rowsF n f k) ∧ wi.ownsRow G9 2 1 (.slice (some ⟨G9, 0, none⟩) n n) n ((fillK n q (f k)).map (Value.int .i64)) ∧ Below w.heap.size w wi ∧ G9 + 1 ≤ wi.heap.size) (fun j _ => n - (intOf j).toNat)
      case atStart => exact ⟨0, Nat.zero_le _, rfl, HY0.out, HY1.out, HT1.out, HN0.out, HB1.out, HZ1.out⟩
      case round =>
        obtain ⟨q, hq, rfl, hz0, hz1, htb, hown, hbl, hsz⟩ := hrel
        have HZ0 := Lib.hid hz0
        have HZ1 := Lib.hid hz1
        have HTB := Lib.hid htb
        have HOW := Lib.hid hown
        have HBL := Lib.hid hbl
        have HSZ := Lib.hid hsz
        clear hz0 hz1 htb hown hbl hsz HT1 HY0 HY1 HB1 HN0
        by_cases hqn : q < n
        · go_wp2_with fail
          rw [HEN.out, Oper.upon_enter]
          refine (HLD.out k q hlt hqn _ HBL.out).mono ?_
          rintro e w1 ⟨rfl, b1⟩
          have ho1 := own_below HOW.out b1
          have hs1 : w1.cell? ⟨G9, q, none⟩ = (fillK n q (f k))[q]?.map (Value.int .i64) := by rw [ho1.cellAt q (by omega), List.getElem?_map]
          rw [fillK_at _ _ _ hqn, Option.map_some] at hs1
          have hf1 : w1.frozen? ⟨G9, q, none⟩ = false := ho1.frozenAt q
          have HS1 := Lib.hid (fill_set ho1 hqn)
          have HR := Lib.hid (show ∀ a, a < G9 → w1.heap[a]? = ((w1.setCell ⟨G9, q, none⟩ (.int .i64 (f k q))).heap[a]?) from fun a ha => (heap_setCell_other w1 ⟨G9, q, none⟩ _ _ (by simp; omega)).symm)
          have HO1 := Lib.hid (only_setCell w1 G9 q (.int .i64 (f k q)))
          have HTB1 := Lib.hid ((HTB.out.below b1).only HO1.out (.inl (Nat.le_refl _)))
          have HB1 := Lib.hid (below_then HBL.out b1)
          have HZ2 := Lib.hid ((b1.block _ (block_lt HZ0.out)).trans HZ0.out)
          have HZ3 := Lib.hid ((b1.block _ (block_lt HZ1.out)).trans HZ1.out)
          have HSZ1 := Lib.hid (Nat.le_trans HSZ.out b1.size)
          have i1 : (0 : Int) ≤ (q : Int) := by omega
          have i2 : (q : Int) < (n : Int) := by omega
          clear b1 ho1
          go_wp2_with fail
          go_roundw
          case rel =>
            have hl := HLT2.out
            refine ⟨q + 1, by omega, by go_num, (HR.out _ (by omega)).symm.trans HZ2.out, (HR.out _ (by omega)).symm.trans HZ3.out, HTB1.out, HS1.out, HB1.out.setCell (by simp; omega) _, by rw [World.size_setCell]; exact HSZ1.out⟩
          case measure => simp [intOf]; omega
        · have hqe : q = n := by omega
          have HQE := Lib.hid hqe
          have hx1 := HZ1.out
          have e1 : World.cell? ‹World› ⟨w.heap.size + 1, 1, none⟩ = some (.slice A3 (rowsF n f k).length c3) := cell_of_row _ (w.heap.size + 1) 1 _ _ _ hx1
          clear hx1 hqe
          have hrl : (rowsF n f k).length ≤ 3 := by rw [rowsF_len]; omega
          have HLE := Lib.hid (show w.heap.size + 2 ≤ wr.heap.size by have h1 := HSZ.out; have h2 := HLT2.out; omega)
          go_wp2_with (at_builtin; refine wpList_append_own_at _ rfl _ _ 22 rfl (w.heap.size + 2) 35 i1 (.slice none 0 0) 1 24 Try.underlying22 hi1 hy0 hy1 hy2 rfl (by decide) _ _ _ rfl (World.ownsRow.alloc (HTB.out.out) _) ⟨(wr).heap.size, 0, none⟩ 1 1 [.slice (some ⟨G9, 0, none⟩) n n] rfl rfl (cell_one_new _ _ _) (by simp [Value.oneCell']) (by unfold maxLen; omega) (by omega) (by rw [World.size_alloc]; exact Nat.le_succ_of_le HLE.out) ?_)
          intro v' w2 hown' hgrow _ hat
          obtain ⟨A5, c5, rfl⟩ := own_form hown'
          have hrow : IntsIn G9 (G9 + 1) wr (.slice (some ⟨G9, 0, none⟩) n n) ((List.range n).map (f k)) := by
            have h1 := HOW.out
            rw [HQE.out, fillK_all] at h1
            exact ⟨by rw [List.length_map, List.length_range]; exact h1, fun g hg => by simp [Value.ownBlock] at hg; omega⟩
          have ba : Below wr.heap.size wr (wr.alloc (.cells #[.slice (some ⟨G9, 0, none⟩) n n] 35)) := (Below.refl _ _).alloc (Nat.le_refl _) _
          have htab2 := TabV.snoc (HTB.out.below ba) (hrow.below ba) hown' hgrow (by rw [World.size_alloc]; exact hat) (by have := HLT2.out; omega) (Nat.le_refl _) (by have := HSZ.out; have := ba.size; omega)
          rw [← rowsF_succ] at htab2
          have HT2 := Lib.hid htab2
          have hvn : ∀ g, (Value.slice A3 (rowsF n f k).length c3).ownBlock = some g → w.heap.size + 2 ≤ g := fun g hg => (HTB.out.out.lt g hg).1
          have hu0 : w2.heap[w.heap.size]? = some (.cells #[.int .i64 0, .slice none 0 0] 28 (0, 0)) := (hgrow.block _ (Nat.lt_of_lt_of_le (block_lt HZ0.out) ba.size) (fun e => by have := hvn _ e.symm; omega)).trans ((ba.block _ (block_lt HZ0.out)).trans HZ0.out)
          have hu1 : w2.heap[w.heap.size + 1]? = some (.cells #[.int .i64 (n : Int), .slice A3 (rowsF n f k).length c3] 28 (0, 0)) := (hgrow.block _ (Nat.lt_of_lt_of_le (block_lt HZ1.out) ba.size) (fun e => by have := hvn _ e.symm; omega)).trans ((ba.block _ (block_lt HZ1.out)).trans HZ1.out)
          have HU0 := Lib.hid hu0
          have HU1 := Lib.hid hu1
          have hc1 : w2.cell? ⟨w.heap.size + 1, 1, none⟩ = some (.slice A3 (rowsF n f k).length c3) := cell_of_row _ (w.heap.size + 1) 1 _ _ _ hu1
          have hf1 : w2.frozen? ⟨w.heap.size + 1, 1, none⟩ = false := frozen_of_row _ (w.heap.size + 1) 1 _ _ hu1
          have HB2 := Lib.hid (below_grown (below_then HBL.out ba) hgrow (fun g hg => by have := hvn g hg; omega))
          have HLE2 := Lib.hid (show w.heap.size + 2 ≤ w2.heap.size by have h1 := HLE.out; have := hgrow.size; have := ba.size; omega)
          clear hown' hgrow hat ba hvn hu0 hu1 e1 hrow htab2
          have hl1 : (rowsF n f (k + 1)).length = (rowsF n f k).length + 1 := by rw [rowsF_len, rowsF_len]
          have HL1 := Lib.hid hl1
          clear hl1
          go_wp2_with fail
          go_roundw
          case rel =>
            have hon := only_setCell w2 (w.heap.size + 1) 1 (.slice A5 ((rowsF n f k).length + 1) c5)
            refine ⟨k + 1, .slice A5 ((rowsF n f k).length + 1) c5, vs ++ [.slice (some ⟨G9, 0, none⟩) n n], by omega, by go_num, ?_, ?_, ?_, HB2.out.setCell (by simp) _⟩
            · rw [heap_setCell_other w2 ⟨w.heap.size + 1, 1, none⟩ _ _ (by simp)]; exact HU0.out
            · rw [heap_setCell_same w2 (w.heap.size + 1) 1 _ _ _ HU1.out]; rfl
            · rw [World.size_setCell]
              exact HT2.out.only hon (.inr (Nat.le_refl _))
          case measure => simp [intOf]; omega
    · have hkm : k = m := by omega
      have e0 : wr.cell? ⟨w.heap.size + 1, 0, none⟩ = some (.int .i64 (n : Int)) := cell_of_row _ (w.heap.size + 1) 0 _ _ _ hx1
      have e1 : wr.cell? ⟨w.heap.size + 1, 1, none⟩ = some (.slice A3 (rowsF n f k).length c3) := cell_of_row _ (w.heap.size + 1) 1 _ _ _ hx1
      have e2 : wr.cell? ⟨w.heap.size, 0, none⟩ = some (.int .i64 0) := cell_of_row _ w.heap.size 0 _ _ _ hx0
      have e3 : wr.cell? ⟨w.heap.size, 1, none⟩ = some (.slice none 0 0) := cell_of_row _ w.heap.size 1 _ _ _ hx0
      have e4 : wr.frozen? ⟨w.heap.size, 0, none⟩ = false := frozen_of_row _ w.heap.size 0 _ _ hx0
      have e5 : wr.frozen? ⟨w.heap.size, 1, none⟩ = false := frozen_of_row _ w.heap.size 1 _ _ hx0
      have HKM := Lib.hid hkm
      clear hx0 hx1 htab hbel hkm hmk
      have g0 : (wr.setCell ⟨w.heap.size, 0, none⟩ (.int .i64 (n : Int))).heap[w.heap.size]? = some (.cells #[.int .i64 (n : Int), .slice none 0 0] 28 (0, 0)) := by rw [heap_setCell_same wr w.heap.size 0 _ _ _ HX0.out]; rfl
      have g1 : ((wr.setCell ⟨w.heap.size, 0, none⟩ (.int .i64 (n : Int))).setCell ⟨w.heap.size, 1, none⟩ (.slice A3 (rowsF n f k).length c3)).heap[w.heap.size]? = some (.cells #[.int .i64 (n : Int), .slice A3 (rowsF n f k).length c3] 28 (0, 0)) := by rw [heap_setCell_same _ w.heap.size 1 _ _ _ g0]; rfl
      have g2 : (wr.setCell ⟨w.heap.size, 0, none⟩ (.int .i64 (n : Int))).cell? ⟨w.heap.size, 0, none⟩ = some (.int .i64 (n : Int)) := cell_of_row _ w.heap.size 0 _ _ _ g0
      have g3 : ((wr.setCell ⟨w.heap.size, 0, none⟩ (.int .i64 (n : Int))).setCell ⟨w.heap.size, 1, none⟩ (.slice A3 (rowsF n f k).length c3)).cell? ⟨w.heap.size, 1, none⟩ = some (.slice A3 (rowsF n f k).length c3) := cell_of_row _ w.heap.size 1 _ _ _ g1
      go_wp2_with fail
      refine bodyPost_ret (v := .agg #[.int .i64 (n : Int), .slice A3 (rowsF n f k).length c3]) (by simp [results, Try.results87, go_sem, g2, g3]) rfl ?_
      have hon := (only_setCell wr w.heap.size 0 (.int .i64 (n : Int))).trans (only_setCell _ w.heap.size 1 (.slice A3 (rowsF n f k).length c3))
      refine ⟨_, rfl, ?_, (HB.out.setCell (by simp) _).setCell (by simp) _⟩
      rw [← HKM.out, World.size_setCell, World.size_setCell]
      exact (TabIn.only ⟨vs, HT.out⟩ hon (.inr (by omega))).wide (by omega) (Nat.le_refl _)

end Go.Proofs.Ytcglncepmieaaaa
