/-
  The slow automata: the contracts of l02Slow and of both SlowAutomaton.
-/
import Derived.Test.YtnnjcpihaobkaaaBuild
namespace Go.Proofs.Ytnnjcpihaobkaaa
open Go.RowKit Go.Deep Go.ChangeShapes Go.WideShapes

/-- Where the letters of the slow automaton lead. -/
def slowF (n x q : Nat) : Int := if x = 0 then (if q + 1 = n then 0 else (q : Int) + 1) else (if q + 1 = n then 0 else (q : Int))

theorem slow0 {n k : Nat} (hk : k < n) : ((k : Int) + 1) % (n : Int) = slowF n 0 k := by
  unfold slowF
  rw [if_pos rfl]
  split
  · rw [show (k : Int) + 1 = (n : Int) by omega]; exact Int.emod_self
  · exact Int.emod_eq_of_lt (by omega) (by omega)
theorem slow1 {n k : Nat} (hk : k < n) : (k : Int) % ((n : Int) - 1) = slowF n 1 k := by
  unfold slowF
  rw [if_neg (by omega)]
  split
  · rw [show (k : Int) = (n : Int) - 1 by omega]; exact Int.emod_self
  · exact Int.emod_eq_of_lt (by omega) (by omega)
theorem own_apart {w w' : World} {base : Nat} {e : TypeId} {v : Value} {n : Nat} {cs : List Value} {row : Option Nat} (h : w.ownsRow base e 1 v n cs) (hg : w.grownBy w' row) (hne : ∀ k, v.ownBlock = some k → row ≠ some k) : w'.ownsRow base e 1 v n cs :=
  h.kept hg (by
    rcases hv : v.ownBlock with _ | g
    · exact .inl rfl
    · exact .inr (fun e => hne g hv e.symm))
theorem box2_set' {w : World} {B : Nat} {x0 x1 : Value} {T : TypeId} (h : w.heap[B]? = some (.cells #[x0, x1] T (0, 0))) (y0 y1 : Value) :
    (w.setCell ⟨B, 0, none⟩ y0).cell? ⟨B, 0, none⟩ = some y0 ∧ ((w.setCell ⟨B, 0, none⟩ y0).setCell ⟨B, 1, none⟩ y1).cell? ⟨B, 1, none⟩ = some y1 := by
  have g0 : (w.setCell ⟨B, 0, none⟩ y0).heap[B]? = some (.cells #[y0, x1] T (0, 0)) := by rw [heap_setCell_same w B 0 _ _ _ h]; rfl
  have g1 : ((w.setCell ⟨B, 0, none⟩ y0).setCell ⟨B, 1, none⟩ y1).heap[B]? = some (.cells #[y0, y1] T (0, 0)) := by rw [heap_setCell_same _ B 1 _ _ _ g0]; rfl
  exact ⟨cell_of_row _ B 0 _ _ _ g0, cell_of_row _ B 1 _ _ _ g1⟩
theorem box2_cells' {w : World} {B : Nat} {x0 x1 : Value} {T : TypeId} (h : w.heap[B]? = some (.cells #[x0, x1] T (0, 0))) :
    w.cell? ⟨B, 0, none⟩ = some x0 ∧ w.cell? ⟨B, 1, none⟩ = some x1 ∧ w.frozen? ⟨B, 0, none⟩ = false ∧ w.frozen? ⟨B, 1, none⟩ = false :=
  ⟨cell_of_row _ B 0 _ _ _ h, cell_of_row _ B 1 _ _ _ h, frozen_of_row _ B 0 _ _ h, frozen_of_row _ B 1 _ _ h⟩

theorem two_tab {w : World} {lo : Nat} {v1 v2 : Value} {r1 r2 : List Int} (o1 : w.ownsRow lo 2 1 v1 r1.length (r1.map (Value.int .i64))) (o2 : w.ownsRow lo 2 1 v2 r2.length (r2.map (Value.int .i64)))
    (hd : ∀ g, v1.ownBlock = some g → v2.ownBlock ≠ some g) (hlo : lo ≤ w.heap.size) :
    TabIn lo (w.heap.size + 1) (w.alloc (.cells #[v1, v2] 30)) (.slice (some ⟨w.heap.size, 0, none⟩) 2 2) [r1, r2] := by
  have ho : (w.alloc (.cells #[v1, v2] 30)).ownsRow lo 30 1 (.slice (some ⟨w.heap.size, 0, none⟩) 2 2) 2 [v1, v2] := World.ownsRow_lit (e := 30) (size := 1) (base := lo) w #[v1, v2] 2 hlo (by decide) rfl
  have hat : ∀ (r : Nat) (u : Value), [v1, v2][r]? = some u → (r = 0 ∧ u = v1) ∨ (r = 1 ∧ u = v2) := by
    intro r u hu
    match r, hu with
    | 0, hu => simp at hu; exact .inl ⟨rfl, hu.symm⟩
    | 1, hu => simp at hu; exact .inr ⟨rfl, hu.symm⟩
    | r + 2, hu => simp at hu
  refine ⟨[v1, v2], rfl, ho, fun g hg => by simp [Value.ownBlock] at hg; omega, fun r u xs hu hx => ?_, fun r r' u u' g hu hu' hg hg' => ?_, fun r u g hu hg => ?_⟩
  · rcases hat r u hu with ⟨rfl, rfl⟩ | ⟨rfl, rfl⟩
    · simp at hx; subst hx
      exact ⟨o1.alloc _, fun g hg => by have := (o1.lt g hg).2; omega⟩
    · simp at hx; subst hx
      exact ⟨o2.alloc _, fun g hg => by have := (o2.lt g hg).2; omega⟩
  · rcases hat r u hu with ⟨rfl, rfl⟩ | ⟨rfl, rfl⟩ <;> rcases hat r' u' hu' with ⟨rfl, rfl⟩ | ⟨rfl, rfl⟩
    · rfl
    · exact absurd hg' (hd g hg)
    · exact absurd hg (hd g hg')
    · rfl
  · intro hv
    simp [Value.ownBlock] at hv
    rcases hat r u hu with ⟨rfl, rfl⟩ | ⟨rfl, rfl⟩
    · have := (o1.lt g hg).2; omega
    · have := (o2.lt g hg).2; omega

theorem slow_rows (n : Nat) : rowsF n (slowF n) 2 = [(List.range n).map (slowF n 0), (List.range n).map (slowF n 1)] := by simp [rowsF, List.range_succ]

set_option maxRecDepth 100000 in
set_option maxHeartbeats 2000000 in
theorem l02Slow_any (n : Nat) (w : World) (h2 : 2 ≤ n) (hn : n ≤ 10) :
    Calls Try.prog 61 #[.int .i64 (n : Int)] w fun e w' => ∃ v, e = .returned (.agg #[.int .i64 (n : Int), v]) ∧ TabIn w.heap.size w'.heap.size w' v (rowsF n (slowF n) 2) ∧ Below w.heap.size w w' := by
  obtain ⟨i0, hi, hz0, hz1, hz2⟩ := info_parts info_int64
  obtain ⟨W3, hW3⟩ : ∃ W3, W3 = ((w.alloc (.cells #[.int .i64 0, .slice none 0 0] 27)).alloc (.cells #[] 2)).alloc (.cells #[] 2) := ⟨_, rfl⟩
  have b3 : Below w.heap.size w W3 := by rw [hW3]; go_grown
  have xr : W3.heap[w.heap.size]? = some (.cells #[.int .i64 0, .slice none 0 0] 27 (0, 0)) := by
    rw [hW3, Below.heap_alloc _ _ _ (by simp; omega), Below.heap_alloc _ _ _ (by simp)]; exact heap_alloc_new _ _
  have o1 : W3.ownsRow (w.heap.size + 1) 2 1 (.slice (some ⟨w.heap.size + 1, 0, none⟩) 0 0) 0 [] := by
    rw [hW3]
    exact World.ownsRow.alloc (own_none' (by simp) (by simp)) _
  have o2 : W3.ownsRow (w.heap.size + 1) 2 1 (.slice (some ⟨w.heap.size + 1 + 1, 0, none⟩) 0 0) 0 [] := by
    rw [hW3]
    exact own_none' (by simp) (by simp)
  have hz : w.heap.size + 1 ≤ W3.heap.size := by rw [hW3]; simp
  have B3 := Lib.hid b3
  have XR := Lib.hid xr
  have O1 := Lib.hid o1
  have O2 := Lib.hid o2
  have HZ := Lib.hid hz
  have HW3 := Lib.hid hW3
  clear b3 xr o1 o2 hz hW3
  go_enter Try.func61, Try.ntmps61
  go_wp2_with fail
  rw [← HW3.out]
  go_loopw [3, 4, 5] (fun u v i wr => ∃ (k : Nat) (C D : List Int), k ≤ n ∧ i = .int .i64 k ∧ C = (List.range k).map (slowF n 0) ∧ D = (List.range k).map (slowF n 1) ∧ wr.ownsRow (w.heap.size + 1) 2 1 u C.length (C.map (Value.int .i64)) ∧ wr.ownsRow (w.heap.size + 1) 2 1 v D.length (D.map (Value.int .i64)) ∧
      (∀ g, u.ownBlock = some g → v.ownBlock ≠ some g) ∧ wr.heap[w.heap.size]? = some (.cells #[.int .i64 0, .slice none 0 0] 27 (0, 0)) ∧ Below w.heap.size w wr ∧ w.heap.size + 1 ≤ wr.heap.size) (fun _ _ i _ => n - (intOf i).toNat)
  case atStart => exact ⟨0, [], [], Nat.zero_le _, rfl, rfl, rfl, O1.out, O2.out, fun g hg => by simp [Value.ownBlock] at hg ⊢; omega, XR.out, B3.out, HZ.out⟩
  case round =>
    obtain ⟨k, C, D, hk, rfl, hC, hD, hu, hv, hd, hx, hb, hz⟩ := hrel
    have hcl : C.length ≤ 10 := by rw [hC]; simp; omega
    have hdl : D.length ≤ 10 := by rw [hD]; simp; omega
    obtain ⟨A1, c1, rfl⟩ := own_form hu
    obtain ⟨A2, c2, rfl⟩ := own_form hv
    have HC := Lib.hid hC
    have HD := Lib.hid hD
    have HU := Lib.hid hu
    have HV := Lib.hid hv
    have HDD := Lib.hid hd
    have HX := Lib.hid hx
    have HB := Lib.hid hb
    have HZ := Lib.hid hz
    clear hC hD hu hv hd hx hb hz O1 O2 XR B3
    by_cases hlt : k < n
    · have i1 : (1 : Int) ≤ (n : Int) := by omega
      go_wp2_with (at_builtin; refine wpList_append_own_at _ rfl _ _ 30 rfl (w.heap.size + 1) 2 i0 (.int .i64 0) 1 8 Try.underlying30 hi hz0 hz1 hz2 rfl (by decide) _ _ _ rfl (World.ownsRow.alloc (HU.out) _) ⟨(wr).heap.size, 0, none⟩ 1 1 [.int .i64 (((k : Int) + 1) % (n : Int))] rfl rfl (cell_one_new _ _ _) (ones_i64 [(((k : Int) + 1) % (n : Int))]) (by unfold maxLen; omega) (by omega) (by rw [World.size_alloc]; exact Nat.le_succ_of_le (HZ.out)) ?_)
      intro u' w2 hown' hgrow _ hat
      have ba : Below wr.heap.size wr (wr.alloc (.cells #[.int .i64 (((k : Int) + 1) % (n : Int))] 2)) := (Below.refl _ _).alloc (Nat.le_refl _) _
      have hv2 := own_apart (own_below HV.out ba) hgrow (fun g hg e => HDD.out g e hg)
      have HV2 := Lib.hid hv2
      have HU2 := Lib.hid hown'
      have hux : ∀ g, (Value.slice A1 C.length c1).ownBlock = some g → w.heap.size + 1 ≤ g := fun g hg => (HU.out.lt g hg).1
      have HX2 := Lib.hid ((hgrow.block w.heap.size (Nat.lt_of_lt_of_le (block_lt HX.out) ba.size) (fun e => by have := hux _ e.symm; omega)).trans ((ba.block _ (block_lt HX.out)).trans HX.out))
      have HB2 := Lib.hid (below_grown (below_then HB.out ba) hgrow (fun g hg => by have := hux g hg; omega))
      have HZ2 := Lib.hid (show w.heap.size + 1 ≤ w2.heap.size by have := hgrow.size; have := ba.size; have := HZ.out; omega)
      have HD2 := Lib.hid (show ∀ g, u'.ownBlock = some g → (Value.slice A2 D.length c2).ownBlock ≠ some g by
        intro g hg hg2
        rcases hat with e | e
        · exact HDD.out g (e ▸ hg) hg2
        · rw [e] at hg
          have h1 := Option.some.inj hg
          have h2 := (HV.out.lt g hg2).2
          omega)
      obtain ⟨A3, c3, rfl⟩ := own_form hown'
      clear hown' hgrow hat ba hv2 hux
      go_wp2_with (at_builtin; refine wpList_append_own_at _ rfl _ _ 30 rfl (w.heap.size + 1) 2 i0 (.int .i64 0) 1 8 Try.underlying30 hi hz0 hz1 hz2 rfl (by decide) _ _ _ rfl (World.ownsRow.alloc (HV2.out) _) ⟨(w2).heap.size, 0, none⟩ 1 1 [.int .i64 ((k : Int) % ((n : Int) - 1))] rfl rfl (cell_one_new _ _ _) (ones_i64 [((k : Int) % ((n : Int) - 1))]) (by unfold maxLen; omega) (by omega) (by rw [World.size_alloc]; exact Nat.le_succ_of_le (HZ2.out)) ?_)
      intro v' w4 hown' hgrow _ hat
      have ba : Below w2.heap.size w2 (w2.alloc (.cells #[.int .i64 ((k : Int) % ((n : Int) - 1))] 2)) := (Below.refl _ _).alloc (Nat.le_refl _) _
      have hu4 := own_apart (own_below HU2.out ba) hgrow (fun g hg e => HD2.out g hg e)
      have HU4 := Lib.hid hu4
      have HV4 := Lib.hid hown'
      have hvx : ∀ g, (Value.slice A2 D.length c2).ownBlock = some g → w.heap.size + 1 ≤ g := fun g hg => (HV2.out.lt g hg).1
      have HX4 := Lib.hid ((hgrow.block w.heap.size (Nat.lt_of_lt_of_le (block_lt HX2.out) ba.size) (fun e => by have := hvx _ e.symm; omega)).trans ((ba.block _ (block_lt HX2.out)).trans HX2.out))
      have HB4 := Lib.hid (below_grown (below_then HB2.out ba) hgrow (fun g hg => by have := hvx g hg; omega))
      have HZ4 := Lib.hid (show w.heap.size + 1 ≤ w4.heap.size by have := hgrow.size; have := ba.size; have := HZ2.out; omega)
      have HD4 := Lib.hid (show ∀ g, (Value.slice A3 (C.length + 1) c3).ownBlock = some g → v'.ownBlock ≠ some g by
        intro g hg hg2
        rcases hat with e | e
        · exact HD2.out g hg (e ▸ hg2)
        · rw [e] at hg2
          have h1 := Option.some.inj hg2
          have h2 := (HU2.out.lt g hg).2
          omega)
      clear hown' hgrow hat ba hu4 hvx
      go_wp2_with fail
      go_roundw
      case rel =>
        refine ⟨k + 1, C ++ [((k : Int) + 1) % (n : Int)], D ++ [(k : Int) % ((n : Int) - 1)], by omega, by go_num, ?_, ?_, by rw [List.length_append, List.map_append]; exact HU4.out, by rw [List.length_append, List.map_append]; exact HV4.out, HD4.out, HX4.out, HB4.out, HZ4.out⟩
        · rw [List.range_succ, List.map_append, ← HC.out, slow0 hlt]; rfl
        · rw [List.range_succ, List.map_append, ← HD.out, slow1 hlt]; rfl
      case measure => simp [intOf]; omega
    · have hkn : k = n := by omega
      subst hkn
      have bq : Below wr.heap.size wr (wr.alloc (.cells #[.slice A1 C.length c1, .slice A2 D.length c2] 30)) := (Below.refl _ _).alloc (Nat.le_refl _) _
      have xr := (bq.block _ (block_lt HX.out)).trans HX.out
      obtain ⟨e0, e1, e2, e3⟩ := box2_cells' xr
      obtain ⟨g2, g3⟩ := box2_set' xr (.int .i64 (k : Int)) (.slice (some ⟨wr.heap.size, 0, none⟩) 2 2)
      have HT := Lib.hid (two_tab HU.out HV.out HDD.out HZ.out)
      have HBQ := Lib.hid (below_then HB.out bq)
      clear bq xr
      go_wp2_with fail
      refine bodyPost_ret (v := .agg #[.int .i64 (k : Int), .slice (some ⟨wr.heap.size, 0, none⟩) 2 2]) (by simp [results, Try.results61, go_sem, g2, g3]) rfl ?_
      refine ⟨_, rfl, ?_, (HBQ.out.setCell (by simp) _).setCell (by simp) _⟩
      rw [World.size_setCell, World.size_setCell, slow_rows, ← HC.out, ← HD.out]
      have hon := (only_setCell (wr.alloc (.cells #[.slice A1 C.length c1, .slice A2 D.length c2] 30)) w.heap.size 0 (.int .i64 (k : Int))).trans (only_setCell _ w.heap.size 1 (.slice (some ⟨wr.heap.size, 0, none⟩) 2 2))
      exact (HT.out.only hon (.inr (Nat.le_refl _))).wide (by omega) (by simp)

set_option maxRecDepth 100000 in
theorem slowLead_any (b n x q : Nat) (W : World) (h2 : 2 ≤ n) (hn : n ≤ 10) (c0 : W.cell? ⟨b, 0, none⟩ = some (.int .i64 (n : Int))) (hx : x < 2) (hq : q < n) :
    Calls Try.prog 36 #[.int .i64 (x : Int), .int .i64 (q : Int), .pointer (some ⟨b, 0, none⟩)] W fun e w' => e = .returned (.int .i64 (slowF n x q)) ∧ Below W.heap.size W w' := by
  have i1 : (0 : Int) ≤ (q : Int) := by omega
  have i2 : (q : Int) < (n : Int) := by omega
  have i3 : (0 : Int) < (n : Int) := by omega
  have i4 : (n : Int) ≤ 10 := by omega
  have hne : ((n : Int) == 0) = false := by rw [beq_eq_false_iff_ne]; omega
  by_cases hx0 : x = 0
  · subst hx0
    have HS := Lib.hid (slow0 hq)
    go_enter Try.func36, Try.ntmps36
    go_wp2_with fail
    go_ret
    exact ⟨ret_int (by rw [← HS.out]), Below.refl _ _⟩
  · have hx1 : ((x : Int) == 0) = false := by rw [beq_eq_false_iff_ne]; omega
    by_cases hqn : q + 1 = n
    · have hb : ((q : Int) == (n : Int) - 1) = true := by rw [beq_iff_eq]; omega
      have HS := Lib.hid (show ((q : Int) + 1) % (n : Int) = slowF n x q by
        unfold slowF; rw [if_neg hx0, if_pos hqn, show (q : Int) + 1 = (n : Int) by omega]; exact Int.emod_self)
      clear hqn hx0
      go_enter Try.func36, Try.ntmps36
      go_wp2_with fail
      go_ret
      exact ⟨ret_int (by rw [← HS.out]), Below.refl _ _⟩
    · have hb : ((q : Int) == (n : Int) - 1) = false := by rw [beq_eq_false_iff_ne]; omega
      have HS := Lib.hid (show (q : Int) = slowF n x q by unfold slowF; rw [if_neg hx0, if_neg hqn])
      clear hqn hx0
      go_enter Try.func36, Try.ntmps36
      go_wp2_with fail
      go_ret
      exact ⟨ret_int HS.out, Below.refl _ _⟩

/-- What SlowAutomaton answers. -/
def slowAutomaton (x : Int) : Int × List (List Int) × Int := if inB 2 10 x = true then (x, rowsF x.toNat (slowF x.toNat) 2, 0) else (0, [], 2)
theorem slowAutomaton_2 {x : Int} (h : inB 2 10 x = false) : slowAutomaton x = (0, [], 2) := by unfold slowAutomaton; rw [if_neg (by simp [h])]
theorem slowAutomaton_0 {n : Nat} (h : inB 2 10 (n : Int) = true) : slowAutomaton (n : Int) = ((n : Int), rowsF n (slowF n) 2, 0) := by unfold slowAutomaton; rw [if_pos h, Int.toNat_natCast]
theorem slowAutomaton_len (x : Int) : (slowAutomaton x).2.1.length ≤ 10 := by
  unfold slowAutomaton
  split
  · show (rowsF _ _ _).length ≤ 10; rw [rowsF_len]; omega
  · simp
theorem slowAutomaton_sum (x : Int) : sumLens (slowAutomaton x).2.1 ≤ 100 := by
  unfold slowAutomaton
  split
  · rename_i h
    unfold inB at h
    rw [decide_eq_true_eq] at h
    show sumLens (rowsF _ _ _) ≤ 100
    rw [rowsF_sum]; omega
  · simp [sumLens]

set_option maxRecDepth 100000 in
theorem implSlowAutomaton_any (x : Int) (w : World) : Calls Try.prog 9 #[.int .i64 x] w (AutosTo (slowAutomaton x) w) := by
  have hmf : ∀ (fn : Fn) (first cap : Array Value) (w : World), (Instr.makeFunc fn first cap).run Try.prog w = .ok (.func fn first cap) w := fun _ _ _ _ => rfl
  obtain ⟨W2, hW2⟩ : ∃ W2, W2 = (w.alloc (.cells #[.int .i64 x] 2)).alloc (.cells #[.int .i64 0, .slice none 0 0] 27) := ⟨_, rfl⟩
  have bq : Below w.heap.size w W2 := by rw [hW2]; go_grown
  have x0 : W2.cell? ⟨w.heap.size, 0, none⟩ = some (.int .i64 x) := by rw [hW2]; go_cell
  have xr : W2.heap[w.heap.size + 1]? = some (.cells #[.int .i64 0, .slice none 0 0] 27 (0, 0)) := by
    have := heap_alloc_new (w.alloc (.cells #[.int .i64 x] 2)) (.cells #[.int .i64 0, .slice none 0 0] 27)
    rw [World.size_alloc, ← hW2] at this
    exact this
  have BQ := Lib.hid bq
  have XR := Lib.hid xr
  rcases hb : inB 2 10 x with _ | _
  · have HF := Lib.hid (slowAutomaton_2 hb)
    obtain ⟨e0, e1, e2, e3⟩ := box2_cells' xr
    have hx : x < 2 ∨ 10 < x := by unfold inB at hb; rw [decide_eq_false_iff_not] at hb; omega
    rw [hW2] at x0 e0 e1 e2 e3 BQ
    clear bq xr hb XR
    by_cases h2 : x < 2
    · clear hx
      go_enter Try.func9, Try.ntmps9
      go_wp2_with fail
      refine bodyPost_ret (v := .tuple #[.agg #[.int .i64 0, .slice none 0 0], .int .i64 2]) (by simp [results, Try.results9, go_sem]) rfl ?_
      exact autosTo_mk HF.out (tab_nil _ _ _) BQ.out
    · have h10 : 10 < x := by omega
      clear hx
      go_enter Try.func9, Try.ntmps9
      go_wp2_with fail
      refine bodyPost_ret (v := .tuple #[.agg #[.int .i64 0, .slice none 0 0], .int .i64 2]) (by simp [results, Try.results9, go_sem]) rfl ?_
      exact autosTo_mk HF.out (tab_nil _ _ _) BQ.out
  · have hx : 2 ≤ x ∧ x ≤ 10 := by unfold inB at hb; rwa [decide_eq_true_eq] at hb
    obtain ⟨n, rfl⟩ : ∃ n : Nat, x = (n : Int) := ⟨x.toNat, by omega⟩
    have HF := Lib.hid (slowAutomaton_0 hb)
    have X0 := Lib.hid x0
    have h2 : 2 ≤ n := by omega
    have h10 : n ≤ 10 := by omega
    have i1 : (2 : Int) ≤ (n : Int) := by omega
    have i2 : (n : Int) ≤ 10 := by omega
    have HW2 := Lib.hid hW2
    rw [hW2] at x0
    clear bq xr hx hb hW2
    go_enter Try.func9, Try.ntmps9
    go_wp2_with fail
    rw [← HW2.out]
    clear x0
    refine (buildAutomaton_any 36 #[.pointer (some ⟨w.heap.size, 0, none⟩)] n 2 (slowF n) W2 h10 (by omega) (fun _ _ => rfl) (fun x q hx hq W' hb => slowLead_any w.heap.size n x q W' h2 h10 ((hb.cell (cell_lt X0.out)).trans X0.out) hx hq)).mono ?_
    rintro e w4 ⟨v, rfl, t4, b4⟩
    obtain ⟨V4, c4, rfl⟩ := t4.form
    have xr := (b4.block _ (block_lt XR.out)).trans XR.out
    obtain ⟨e0, e1, e2, e3⟩ := box2_cells' xr
    obtain ⟨g2, g3⟩ := box2_set' xr (.int .i64 (n : Int)) (.slice V4 (rowsF n (slowF n) 2).length c4)
    have T4 := Lib.hid t4
    have B4 := Lib.hid (below_then BQ.out b4)
    have hl3 := Lib.hid (block_lt XR.out)
    have hl0 := Lib.hid BQ.out.size
    clear t4 b4 xr
    go_wp2_with fail
    refine bodyPost_ret (v := .tuple #[.agg #[.int .i64 (n : Int), .slice V4 (rowsF n (slowF n) 2).length c4], .int .i64 0]) (by simp [results, Try.results9, go_sem, g2, g3]) rfl ?_
    refine autosTo_mk HF.out ?_ ((B4.out.setCell (by simp) _).setCell (by simp) _)
    rw [World.size_setCell, World.size_setCell]
    have hon := (only_setCell w4 (w.heap.size + 1) 0 (.int .i64 (n : Int))).trans (only_setCell _ (w.heap.size + 1) 1 (.slice V4 (rowsF n (slowF n) 2).length c4))
    exact (T4.out.only hon (.inr hl3.out)).wide hl0.out (Nat.le_refl _)

end Go.Proofs.Ytnnjcpihaobkaaa
