/-
  The gaps of a partial automaton: rows of structs with two cells; the contracts of gapsOf and l04Gaps.
-/
import Derived.Test.YtikimfncpemmkaaGapV
import Derived.Deep.AppendLies
namespace Go.Proofs.Ytikimfncpemmkaa
open Go.RowKit Go.Deep Go.ChangeShapes Go.WideShapes

/-! ### Rows whose elements have any number of cells -/
theorem ownK_below {w w' : World} {base z : Nat} {e : TypeId} {v : Value} {n : Nat} {cs : List Value} (h : w.ownsRow base e z v n cs) (hb : Below w.heap.size w w') : w'.ownsRow base e z v n cs :=
  h.kept (row := none) ⟨hb.os, hb.tape, hb.output, hb.size, fun k hk _ => hb.block k hk⟩ (by
    rcases hv : v.ownBlock with _ | g
    · exact .inl rfl
    · exact .inr (by simp))
theorem ownK_base {w : World} {base base' z : Nat} {e : TypeId} {v : Value} {n : Nat} {cs : List Value} (h : w.ownsRow base e z v n cs) (hb : base' ≤ base) : w.ownsRow base' e z v n cs := by
  obtain ⟨h1, h2⟩ := h
  refine ⟨h1, ?_⟩
  rcases h2 with h2 | ⟨g, cap, cur, hv, hg, rest⟩
  · exact .inl h2
  · exact .inr ⟨g, cap, cur, hv, Nat.le_trans hb hg, rest⟩
theorem ownK_form {w : World} {base z : Nat} {e : TypeId} {v : Value} {n : Nat} {cs : List Value} (h : w.ownsRow base e z v n cs) : ∃ A c, v = .slice A n c := by
  rcases h.2 with ⟨rfl, rfl⟩ | ⟨g, cap, cur, rfl, _⟩
  · exact ⟨none, 0, rfl⟩
  · exact ⟨_, _, rfl⟩
theorem ownK_none (w : World) (base : Nat) (hb : base ≤ w.heap.size) : (w.alloc (.cells #[] 82)).ownsRow base 82 2 (.slice (some ⟨w.heap.size, 0, none⟩) 0 0) 0 [] :=
  World.ownsRow_lit (e := 82) w #[] 0 hb (Nat.zero_le _) rfl
theorem ownK_nil (w : World) (base z : Nat) (e : TypeId) : w.ownsRow base e z (.slice none 0 0) 0 [] := ⟨by simp, .inl ⟨rfl, rfl⟩⟩

/-! ### The gaps, as pairs of numbers -/
def gapsUpTo (k : Nat) (xs : List Int) (j : Nat) : List (Nat × Nat) := ((List.range j).filter fun s => decide (xs.getD s 0 < 0)).map fun s => (k, s)
def gapsL (xss : List (List Int)) (k : Nat) : List (Nat × Nat) := (List.range k).flatMap fun i => gapsUpTo i (xss.getD i []) (xss.getD i []).length
def gcells (gs : List (Nat × Nat)) : List Value := gs.flatMap fun g => [.int .i64 (g.1 : Int), .int .i64 (g.2 : Int)]
theorem gcells_append (a b : List (Nat × Nat)) : gcells (a ++ b) = gcells a ++ gcells b := by simp [gcells]
theorem gcells_one (k j : Nat) : gcells [(k, j)] = [.int .i64 (k : Int), .int .i64 (j : Int)] := rfl
theorem gcells_len (gs : List (Nat × Nat)) : (gcells gs).length = gs.length * 2 := by
  induction gs with
  | nil => rfl
  | cons g gs ih => rw [gcells, List.flatMap_cons, List.length_append, ← gcells, ih, List.length_cons]; simp only [List.length_cons, List.length_nil]; omega
theorem gapsUpTo_yes {k j : Nat} {xs : List Int} {x : Int} (h : xs[j]? = some x) (hx : x < 0) : gapsUpTo k xs (j + 1) = gapsUpTo k xs j ++ [(k, j)] := by
  unfold gapsUpTo
  rw [List.range_succ, List.filter_append, List.map_append]
  congr 1
  simp [h, hx]
theorem gapsUpTo_no {k j : Nat} {xs : List Int} {x : Int} (h : xs[j]? = some x) (hx : ¬ x < 0) : gapsUpTo k xs (j + 1) = gapsUpTo k xs j := by
  unfold gapsUpTo
  rw [List.range_succ, List.filter_append, List.map_append]
  simp [h]
  omega
theorem gapsL_succ {k : Nat} {xss : List (List Int)} {xs : List Int} (h : xss[k]? = some xs) : gapsL xss (k + 1) = gapsL xss k ++ gapsUpTo k xs xs.length := by
  unfold gapsL
  rw [List.range_succ, List.flatMap_append]
  simp [h]
theorem gapsUpTo_len (k : Nat) (xs : List Int) (j : Nat) : (gapsUpTo k xs j).length ≤ j := by
  unfold gapsUpTo
  rw [List.length_map]
  exact Nat.le_trans (List.length_filter_le _ _) (by rw [List.length_range]; exact Nat.le_refl _)
theorem gapsL_len {n m : Nat} {xss : List (List Int)} (hg : GoodP n m xss) : ∀ k, k ≤ m → (gapsL xss k).length ≤ k * 10
  | 0, _ => Nat.le_refl _
  | k + 1, hk => by
    obtain ⟨row, h1, h2, _⟩ := hg.row k (by omega)
    rw [gapsL_succ h1, List.length_append]
    have := gapsL_len hg k (by omega)
    have h3 := gapsUpTo_len k row row.length
    have := hg.n10
    omega
theorem gapsUpTo_zero (k : Nat) (xs : List Int) : gapsUpTo k xs 0 = [] := rfl

theorem info_gap : (Try.prog.info? 82).map (fun i => (i.zero, i.size, i.bytes)) = some (some (.agg #[.int .i64 0, .int .i64 0]), 2, 16) := by kernel_rfl
theorem ones_two (k j : Int) : ∀ u ∈ [Value.int .i64 k, Value.int .i64 j], u.oneCell' = true := by
  intro u hu
  simp at hu
  rcases hu with rfl | rfl <;> rfl

set_option maxRecDepth 100000 in
set_option maxHeartbeats 2000000 in
theorem gapsOf_any (s : Int) (A : Option Addr) (n m cap : Nat) (xss : List (List Int)) (w : World) (hg : GoodP n m xss) (h : RowsAt w A m xss) :
    Calls Try.prog 68 #[.agg #[.int .i64 s, .slice A m cap]] w fun e w' => ∃ u, e = .returned u ∧ w'.ownsRow w.heap.size 82 2 u (gapsL xss m).length (gcells (gapsL xss m)) ∧ Below w.heap.size w w' := by
  obtain ⟨i0, hi, hz0, hz1, hz2⟩ := info_parts info_gap
  have HG := Lib.hid hg
  have m3 := hg.m3
  have n10 := hg.n10
  have HH := Lib.hid h
  clear h hg
  go_enter Try.func68, Try.ntmps68
  go_wp2_with fail
  go_loopw [3, 11] (fun ov iv wr => ∃ k : Nat, k ≤ m ∧ iv = .int .i64 k ∧ wr.ownsRow w.heap.size 82 2 ov (gapsL xss k).length (gcells (gapsL xss k)) ∧ Below w.heap.size w wr) (fun _ iv _ => m - (intOf iv).toNat)
  case atStart => exact ⟨0, Nat.zero_le _, rfl, ownK_nil _ _ _ _, (Below.refl _ _).alloc (Nat.le_refl _) _⟩
  case round =>
    obtain ⟨k, hk, rfl, hown, hbel⟩ := hrel
    obtain ⟨A3, C3, rfl⟩ := ownK_form hown
    have HO := Lib.hid hown
    have HB := Lib.hid hbel
    clear hown hbel
    by_cases hlt : k < m
    · obtain ⟨xs, b, off, A1, c2, hx, rfl, hc0, hnum⟩ := HH.out.at_ hlt
      have hc := (HB.out.cell (cell_lt hc0)).trans hc0
      have HX := Lib.hid hx
      have HN := Lib.hid hnum
      have hxn : xs.length ≤ 10 := by
        obtain ⟨row, h1, h2, _⟩ := HG.out.row k hlt
        rw [hx] at h1
        obtain rfl := Option.some.inj h1
        omega
      have HLO := Lib.hid (show ∀ x ∈ xs, -1 ≤ x by
        intro x hx'
        obtain ⟨row, h1, _, h3⟩ := HG.out.row k hlt
        rw [hx] at h1
        obtain rfl := Option.some.inj h1
        exact (h3 x hx').1)
      have HGL := Lib.hid (gapsL_len HG.out k (by omega))
      have hk0 : (0 : Int) ≤ (k : Int) := by omega
      have hkn : (k : Int) < (m : Int) := by omega
      clear hx hnum hc0
      go_wp2_with fail
      go_loopw [3, 18] (fun ov jv wi => ∃ j : Nat, j ≤ xs.length ∧ jv = .int .i64 j ∧ wi.ownsRow w.heap.size 82 2 ov (gapsL xss k ++ gapsUpTo k xs j).length (gcells (gapsL xss k ++ gapsUpTo k xs j)) ∧ Below w.heap.size w wi) (fun _ jv _ => xs.length - (intOf jv).toNat)
      case atStart => exact ⟨0, Nat.zero_le _, rfl, by rw [gapsUpTo_zero, List.append_nil]; exact HO.out, HB.out⟩
      case round =>
        obtain ⟨j, hj, rfl, hown, hbel⟩ := hrel
        obtain ⟨G, hG⟩ : ∃ G, G = gapsL xss k ++ gapsUpTo k xs j := ⟨_, rfl⟩
        rw [← hG] at hown
        obtain ⟨A4, C4, rfl⟩ := ownK_form hown
        have HGG := Lib.hid hG
        clear hG
        have HO2 := Lib.hid hown
        have HB2 := Lib.hid hbel
        have h3 := HN.out.below hbel
        have HUL := Lib.hid (gapsUpTo_len k xs j)
        clear hown hbel
        by_cases hjn : j < xs.length
        · obtain ⟨x, b3, off3, hx, rfl, hcx⟩ := h3.at_ hjn
          have HXX := Lib.hid hx
          have hlo := HLO.out x (List.mem_of_getElem? hx)
          have hj0 : (0 : Int) ≤ (j : Int) := by omega
          have hjn' : (j : Int) < (xs.length : Int) := by omega
          clear hx h3
          by_cases hxx : x < 0
          · have hne : (x == -1) = true := by simp; omega
            have HST := Lib.hid (gapsUpTo_yes (k := k) HXX.out hxx)
            clear hlo hxx
            have hlen : G.length ≤ 40 := by rw [HGG.out, List.length_append]; have := HGL.out; have := HUL.out; omega
            go_wp2_with (at_builtin; refine wpList_append_own _ rfl _ _ 32 rfl w.heap.size 82 i0 (.agg #[.int .i64 0, .int .i64 0]) 2 16 Try.underlying32 hi hz0 hz1 hz2 rfl (by decide) _ _ _ rfl (World.ownsRow.alloc HO2.out _) ⟨wr.heap.size, 0, none⟩ 1 1 [.int .i64 (k : Int), .int .i64 (j : Int)] rfl rfl (World.news_of_block (heap_alloc_new wr _)) (ones_two _ _) (by unfold maxLen; omega) (by omega) (by rw [World.size_alloc]; exact Nat.le_succ_of_le HB2.out.size) ?_)
            intro v' w2 hown' hgrow _
            have ba : Below wr.heap.size wr (wr.alloc (.cells #[.int .i64 (k : Int), .int .i64 (j : Int)] 82)) := (Below.refl _ _).alloc (Nat.le_refl _) _
            have HB3 := Lib.hid (below_grown (below_then HB2.out ba) hgrow (fun g hg => (HO2.out.lt g hg).1))
            have HO3 := Lib.hid hown'
            clear hown' hgrow ba hlen
            go_wp2_with fail
            go_roundw
            case rel =>
              refine ⟨j + 1, by omega, by go_num, ?_, HB3.out⟩
              rw [HST.out, ← List.append_assoc, ← HGG.out, List.length_append, gcells_append]
              exact HO3.out
            case measure => simp [intOf]; omega
          · have hne : (x == -1) = false := by simp; omega
            have HST := Lib.hid (gapsUpTo_no (k := k) HXX.out hxx)
            clear hlo hxx
            go_wp2_with fail
            go_roundw
            case rel => exact ⟨j + 1, by omega, by go_num, by rw [HST.out, ← HGG.out]; exact HO2.out, HB2.out⟩
            case measure => simp [intOf]; omega
        · have hje : j = xs.length := by omega
          have HJ := Lib.hid hje
          clear h3 hje
          go_wp2_with fail
          go_roundw
          case rel =>
            refine ⟨k + 1, by omega, by go_num, ?_, HB2.out⟩
            rw [gapsL_succ HX.out, ← HJ.out, ← HGG.out]
            exact HO2.out
          case measure => simp [intOf]; omega
    · have hkm : k = m := by omega
      have HKM := Lib.hid hkm
      clear hkm
      go_wp2_with fail
      go_ret
      rw [← HKM.out]
      exact ⟨_, rfl, HO.out, HB.out⟩

set_option maxRecDepth 100000 in
set_option maxHeartbeats 2000000 in
theorem l04Gaps_any (p : Nat) (A : Option Addr) (n m cap : Nat) (xss : List (List Int)) (w : World) (hg : GoodP n m xss) (c1 : w.cell? ⟨p, 1, none⟩ = some (.slice A m cap)) (h : RowsAt w A m xss) :
    Calls Try.prog 67 #[.pointer (some ⟨p, 0, none⟩)] w fun e w' => ∃ u, e = .returned u ∧ w'.ownsRow w.heap.size 82 2 u (gapsL xss m).length (gcells (gapsL xss m)) ∧ Below w.heap.size w w' := by
  obtain ⟨i0, hi, hz0, hz1, hz2⟩ := info_parts info_gap
  have HG := Lib.hid hg
  have m3 := hg.m3
  have n10 := hg.n10
  have HH := Lib.hid h
  have HC1 := Lib.hid c1
  clear h hg c1
  go_enter Try.func67, Try.ntmps67
  go_wp2_with fail
  go_loopw [3, 4] (fun ov iv wr => ∃ k : Nat, k ≤ m ∧ iv = .int .i64 k ∧ wr.ownsRow w.heap.size 82 2 ov (gapsL xss k).length (gcells (gapsL xss k)) ∧ Below w.heap.size w wr) (fun _ iv _ => m - (intOf iv).toNat)
  case atStart => exact ⟨0, Nat.zero_le _, rfl, ownK_none w _ (Nat.le_refl _), (Below.refl _ _).alloc (Nat.le_refl _) _⟩
  case round =>
    obtain ⟨k, hk, rfl, hown, hbel⟩ := hrel
    obtain ⟨A3, C3, rfl⟩ := ownK_form hown
    have HO := Lib.hid hown
    have HB := Lib.hid hbel
    have d1 : wr.cell? ⟨p, 1, none⟩ = some (.slice A m cap) := (hbel.cell (cell_lt HC1.out)).trans HC1.out
    clear hown hbel
    by_cases hlt : k < m
    · obtain ⟨xs, b, off, A1, c2, hx, rfl, hc0, hnum⟩ := HH.out.at_ hlt
      have HC := Lib.hid hc0
      have HX := Lib.hid hx
      have HN := Lib.hid hnum
      have hxn : xs.length ≤ 10 := by
        obtain ⟨row, h1, h2, _⟩ := HG.out.row k hlt
        rw [hx] at h1
        obtain rfl := Option.some.inj h1
        omega
      have HGL := Lib.hid (gapsL_len HG.out k (by omega))
      have hk0 : (0 : Int) ≤ (k : Int) := by omega
      have hkn : (k : Int) < (m : Int) := by omega
      clear hx hnum hc0
      go_wp2_with fail
      clear d1
      go_loopw [3, 5] (fun ov jv wi => ∃ j : Nat, j ≤ xs.length ∧ jv = .int .i64 j ∧ wi.ownsRow w.heap.size 82 2 ov (gapsL xss k ++ gapsUpTo k xs j).length (gcells (gapsL xss k ++ gapsUpTo k xs j)) ∧ Below w.heap.size w wi) (fun _ jv _ => xs.length - (intOf jv).toNat)
      case atStart => exact ⟨0, Nat.zero_le _, rfl, by rw [gapsUpTo_zero, List.append_nil]; exact HO.out, HB.out⟩
      case round =>
        obtain ⟨j, hj, rfl, hown, hbel⟩ := hrel
        obtain ⟨G, hG⟩ : ∃ G, G = gapsL xss k ++ gapsUpTo k xs j := ⟨_, rfl⟩
        rw [← hG] at hown
        obtain ⟨A4, C4, rfl⟩ := ownK_form hown
        have HGG := Lib.hid hG
        clear hG
        have HO2 := Lib.hid hown
        have HB2 := Lib.hid hbel
        have h3 := HN.out.below hbel
        have d1 : World.cell? ‹World› ⟨p, 1, none⟩ = some (.slice (some ⟨b, off, none⟩) m cap) := (hbel.cell (cell_lt HC1.out)).trans HC1.out
        have d2 : World.cell? ‹World› ⟨b, off + k, none⟩ = some (.slice A1 xs.length c2) := (hbel.cell (cell_lt HC.out)).trans HC.out
        have HUL := Lib.hid (gapsUpTo_len k xs j)
        clear hown hbel
        by_cases hjn : j < xs.length
        · obtain ⟨x, b3, off3, hx, rfl, hcx⟩ := h3.at_ hjn
          have HXX := Lib.hid hx
          have hj0 : (0 : Int) ≤ (j : Int) := by omega
          have hjn' : (j : Int) < (xs.length : Int) := by omega
          clear hx h3
          by_cases hxx : x < 0
          · have HST := Lib.hid (gapsUpTo_yes (k := k) HXX.out hxx)
            have hlen : G.length ≤ 40 := by rw [HGG.out, List.length_append]; have := HGL.out; have := HUL.out; omega
            go_wp2_with (at_builtin; refine wpList_append_own _ rfl _ _ 32 rfl w.heap.size 82 i0 (.agg #[.int .i64 0, .int .i64 0]) 2 16 Try.underlying32 hi hz0 hz1 hz2 rfl (by decide) _ _ _ rfl (World.ownsRow.alloc HO2.out _) ⟨wr.heap.size, 0, none⟩ 1 1 [.int .i64 (k : Int), .int .i64 (j : Int)] rfl rfl (World.news_of_block (heap_alloc_new wr _)) (ones_two _ _) (by unfold maxLen; omega) (by omega) (by rw [World.size_alloc]; exact Nat.le_succ_of_le HB2.out.size) ?_)
            intro v' w2 hown' hgrow _
            have ba : Below wr.heap.size wr (wr.alloc (.cells #[.int .i64 (k : Int), .int .i64 (j : Int)] 82)) := (Below.refl _ _).alloc (Nat.le_refl _) _
            have HB3 := Lib.hid (below_grown (below_then HB2.out ba) hgrow (fun g hg => (HO2.out.lt g hg).1))
            have HO3 := Lib.hid hown'
            clear hown' hgrow ba hlen
            go_wp2_with fail
            go_roundw
            case rel =>
              refine ⟨j + 1, by omega, by go_num, ?_, HB3.out⟩
              rw [HST.out, ← List.append_assoc, ← HGG.out, List.length_append, gcells_append]
              exact HO3.out
            case measure => simp [intOf]; omega
          · have HST := Lib.hid (gapsUpTo_no (k := k) HXX.out hxx)
            go_wp2_with fail
            go_roundw
            case rel => exact ⟨j + 1, by omega, by go_num, by rw [HST.out, ← HGG.out]; exact HO2.out, HB2.out⟩
            case measure => simp [intOf]; omega
        · have hje : j = xs.length := by omega
          have HJ := Lib.hid hje
          clear h3 hje
          go_wp2_with fail
          go_roundw
          case rel =>
            refine ⟨k + 1, by omega, by go_num, ?_, HB2.out⟩
            rw [gapsL_succ HX.out, ← HJ.out, ← HGG.out]
            exact HO2.out
          case measure => simp [intOf]; omega
    · have hkm : k = m := by omega
      have HKM := Lib.hid hkm
      clear hkm
      go_wp2_with fail
      go_ret
      rw [← HKM.out]
      exact ⟨_, rfl, HO.out, HB.out⟩

end Go.Proofs.Ytikimfncpemmkaa
