/-
  What the law of GapsOf stands on: rows of structs with two numbers, compared, marked and looked through.
-/
import Derived.Test.YtikimfncpemmkaaGaps
import Derived.Test.YtikimfncpemmkaaLaw
import Derived.Deep.RegionLaw
namespace Go.Proofs.Ytikimfncpemmkaa
open Go.RowKit Go.Deep Go.ChangeShapes Go.WideShapes

theorem eqGap_t (x y : Int) (w : World) : Calls Try.prog 69 #[.agg #[.int .i64 x, .int .i64 y], .agg #[.int .i64 x, .int .i64 y]] w fun e w' => e = .returned (.bool true) ∧ Below w.heap.size w w' := by
  go_enter Try.func69, Try.ntmps69
  go_wp2_with fail
  go_ret
  exact ⟨rfl, by go_grown⟩

theorem ownK_addr {w : World} {base z : Nat} {e : TypeId} {A : Option Addr} {n c : Nat} {cs : List Value} (h : w.ownsRow base e z (.slice A n c) n cs) (hn : 0 < n) : ∃ g, A = some ⟨g, 0, none⟩ := by
  rcases h.2 with ⟨hv, h0⟩ | ⟨g, cap', cur, hv, _⟩
  · omega
  · simp only [Value.slice.injEq] at hv
    exact ⟨g, hv.1⟩

set_option maxRecDepth 100000 in
set_option maxHeartbeats 2000000 in
theorem heldGapS_any (lo : Nat) (A : Option Addr) (n c : Nat) (k0 : Int) (w : World) (h : w.ownsRow lo 82 2 (.slice A n c) n ((marks k0 (n * 2)).map (Value.int .i64))) (hk0 : 0 ≤ k0) (hn : k0 + ((n * 2 : Nat) : Int) ≤ 4611686018427387904) :
    Calls Try.prog 27 #[.slice A n c, .int .i64 k0] w fun e w' => e = .returned (.int .i64 (k0 + ((n * 2 : Nat) : Int))) ∧ w = w' := by
  have hH := Lib.hid h
  clear h
  go_enter Try.func27, Try.ntmps27
  go_wp2_with fail
  go_loop [1, 5] (fun kv i => ∃ j : Nat, j ≤ n ∧ i = .int .i64 j ∧ kv = .int .i64 (k0 + ((j * 2 : Nat) : Int))) (fun _ i => n - (intOf i).toNat)
  case atStart => exact ⟨0, Nat.zero_le _, rfl, by go_num⟩
  case round =>
    obtain ⟨j, hj, rfl, rfl⟩ := hrel
    by_cases hlt : j < n
    · obtain ⟨g, rfl⟩ := ownK_addr hH.out (by omega)
      have e1 : w.cell? ⟨g, j * 2, none⟩ = some (.int .i64 (k0 + ((j * 2 : Nat) : Int))) := by
        rw [hH.out.cellAt (j * 2) (by omega), List.getElem?_map, marks_at k0 (n := n * 2) (by omega)]; rfl
      have e2 : w.cell? ⟨g, j * 2 + 1, none⟩ = some (.int .i64 (k0 + ((j * 2 : Nat) : Int) + 1)) := by
        rw [hH.out.cellAt (j * 2 + 1) (by omega), List.getElem?_map, marks_at k0 (n := n * 2) (by omega)]
        rw [show k0 + ((j * 2 + 1 : Nat) : Int) = k0 + ((j * 2 : Nat) : Int) + 1 by push_cast; omega]; rfl
      have hj0 : (0 : Int) ≤ (j : Int) := by omega
      have hjn : (j : Int) < (n : Int) := by omega
      go_wp2_with fail
      go_round
      case rel => exact ⟨j + 1, by omega, by go_num, by go_num⟩
      case measure => simp [intOf]; omega
    · go_wp2_with fail
      go_ret
      have hjn : j = n := by omega
      subst hjn
      exact ⟨rfl, rfl⟩

set_option maxRecDepth 100000 in
set_option maxHeartbeats 2000000 in
theorem markGapS_any (base : Nat) (A : Option Addr) (n c : Nat) (cs : List Value) (k0 : Int) (w : World) (h : w.ownsRow base 82 2 (.slice A n c) n cs) (hk0 : 0 ≤ k0) (hn : k0 + ((n * 2 : Nat) : Int) ≤ 4611686018427387904) :
    Calls Try.prog 26 #[.slice A n c, .int .i64 k0] w fun e w' => e = .returned (.int .i64 (k0 + ((n * 2 : Nat) : Int))) ∧
      w'.ownsRow base 82 2 (.slice A n c) n ((marks k0 (n * 2)).map (Value.int .i64)) ∧ w.grownBy w' (Value.slice A n c).ownBlock ∧ w'.heap.size = w.heap.size := by
  by_cases h0 : n = 0
  · subst h0
    go_enter Try.func26, Try.ntmps26
    go_wp2_with fail
    refine wp_loop_rounds 1 ?_
    rw [rounds_succ]
    go_wp2_with fail
    go_ret
    refine ⟨ret_int (by simp), ?_, World.grownBy.refl _ _, rfl⟩
    have hcs : cs = [] := List.eq_nil_of_length_eq_zero (by simpa using h.1)
    subst hcs
    exact h
  · obtain ⟨g, rfl⟩ := ownK_addr h (by omega)
    have hlen : cs.length = n * 2 := h.1
    have HL := Lib.hid hlen
    clear hlen
    go_enter Try.func26, Try.ntmps26
    go_wp2_with fail
    go_loopw [1, 5] (fun kv i wr => ∃ j : Nat, j ≤ n ∧ i = .int .i64 j ∧ kv = .int .i64 (k0 + ((j * 2 : Nat) : Int)) ∧ wr.ownsRow base 82 2 (.slice (some ⟨g, 0, none⟩) n c) n ((marks k0 (j * 2)).map (Value.int .i64) ++ cs.drop (j * 2)) ∧
        w.grownBy wr (some g) ∧ wr.heap.size = w.heap.size) (fun _ i _ => n - (intOf i).toNat)
    case atStart => exact ⟨0, Nat.zero_le _, rfl, by go_num, by simpa [marks] using h, World.grownBy.refl _ _, rfl⟩
    case round =>
      obtain ⟨j, hj, rfl, rfl, hown, hgrow, hsz⟩ := hrel
      have HO := Lib.hid hown
      have HG := Lib.hid hgrow
      have HZ := Lib.hid hsz
      by_cases hlt : j < n
      · obtain ⟨u, hu⟩ : ∃ u, wr.cell? ⟨g, j * 2, none⟩ = some u := by
          rw [hown.cellAt (j * 2) (by omega)]
          exact ⟨_, List.getElem?_eq_getElem (by rw [hown.1]; omega)⟩
        obtain ⟨u2, hu2⟩ : ∃ u, wr.cell? ⟨g, j * 2 + 1, none⟩ = some u := by
          rw [hown.cellAt (j * 2 + 1) (by omega)]
          exact ⟨_, List.getElem?_eq_getElem (by rw [hown.1]; omega)⟩
        have hf : wr.frozen? ⟨g, j * 2, none⟩ = false := hown.frozenAt (j * 2)
        have hf2 : wr.frozen? ⟨g, j * 2 + 1, none⟩ = false := hown.frozenAt (j * 2 + 1)
        have hj0 : (0 : Int) ≤ (j : Int) := by omega
        have hjn : (j : Int) < (n : Int) := by omega
        clear hown hgrow hsz h
        go_wp2_with fail
        go_roundw
        case rel =>
          have q1 : k0 + (j : Int) * 2 = k0 + ((j * 2 : Nat) : Int) := by push_cast; rfl
          have q2 : k0 + (j : Int) * 2 + 1 = k0 + ((j * 2 + 1 : Nat) : Int) := by push_cast; omega
          rw [q2, q1]
          have hst := HO.out.stored (j * 2) (.int .i64 (k0 + ((j * 2 : Nat) : Int)))
          have hst2 := hst.1.stored (j * 2 + 1) (.int .i64 (k0 + ((j * 2 + 1 : Nat) : Int)))
          have hg1 := HG.out.size
          have hz := HZ.out
          refine ⟨j + 1, by omega, by go_num, by congr 1; push_cast; omega, ?_, ⟨HG.out.os, HG.out.tape, HG.out.output, by rw [World.size_setCell, World.size_setCell]; exact hg1, fun i hi hne => ((hst2.2.block i (by rw [World.size_setCell, hz]; exact hi) hne).trans (hst.2.block i (by rw [hz]; exact hi) hne)).trans (HG.out.block i hi hne)⟩, by rw [World.size_setCell, World.size_setCell]; exact hz⟩
          have r := hst2.1
          rw [marks_step (by rw [HL.out]; omega), marks_step (by rw [HL.out]; omega)] at r
          rw [show (j + 1) * 2 = j * 2 + 1 + 1 by omega]
          exact r
        case measure => simp [intOf]; omega
      · clear hown hgrow hsz h
        go_wp2_with fail
        go_ret
        have hjn : j = n := by omega
        subst hjn
        have hown := HO.out
        rw [List.drop_of_length_le (by rw [HL.out]; exact Nat.le_refl _), List.append_nil] at hown
        exact ⟨rfl, hown, HG.out, HZ.out⟩

/-! ### Gaps of a call's own -/
theorem Only.ownK {lo hi : Nat} {w w' : World} (k : Only lo hi w w') {base z : Nat} {e : TypeId} {v : Value} {n : Nat} {cs : List Value} (h : w.ownsRow base e z v n cs) (hb : ∀ g, v.ownBlock = some g → g < lo ∨ hi ≤ g) : w'.ownsRow base e z v n cs := by
  obtain ⟨h1, h2⟩ := h
  refine ⟨h1, ?_⟩
  rcases h2 with h2 | ⟨g, cap, cur, rfl, hg, hh, rest⟩
  · exact .inl h2
  · have hlt : g < w.heap.size := by
      rcases Nat.lt_or_ge g w.heap.size with hlt | hge
      · exact hlt
      · rw [Array.getElem?_eq_none hge] at hh; cases hh
    exact .inr ⟨g, cap, cur, rfl, hg, (k.block g hlt (hb g rfl)).trans hh, rest⟩
def GapsIn (lo hi : Nat) (w : World) (v : Value) (n : Nat) (cs : List Value) : Prop :=
  w.ownsRow lo 82 2 v n cs ∧ ∀ g, v.ownBlock = some g → g < hi
theorem GapsIn.of {lo n : Nat} {w : World} {v : Value} {cs : List Value} (h : w.ownsRow lo 82 2 v n cs) : GapsIn lo w.heap.size w v n cs := ⟨h, fun g hg => (h.lt g hg).2⟩
theorem GapsIn.below {lo hi n : Nat} {w w' : World} {v : Value} {cs : List Value} (h : GapsIn lo hi w v n cs) (hb : Below w.heap.size w w') : GapsIn lo hi w' v n cs := ⟨ownK_below h.1 hb, h.2⟩
theorem GapsIn.only {lo hi lo' hi' n : Nat} {w w' : World} {v : Value} {cs : List Value} (h : GapsIn lo hi w v n cs) (ho : Only lo' hi' w w') (hd : hi ≤ lo' ∨ hi' ≤ lo) : GapsIn lo hi w' v n cs :=
  ⟨ho.ownK h.1 (fun g hg => by have := h.2 g hg; have := (h.1.lt g hg).1; omega), h.2⟩
theorem markGaps_in (lo hi n c : Nat) (A : Option Addr) (cs : List Value) (k0 : Int) (w : World) (h : GapsIn lo hi w (.slice A n c) n cs) (hk0 : 0 ≤ k0) (hn : k0 + ((n * 2 : Nat) : Int) ≤ 4611686018427387904) :
    Calls Try.prog 26 #[.slice A n c, .int .i64 k0] w fun e w' => e = .returned (.int .i64 (k0 + ((n * 2 : Nat) : Int))) ∧ Only lo hi w w' ∧ GapsIn lo hi w' (.slice A n c) n ((marks k0 (n * 2)).map (Value.int .i64)) ∧ w'.heap.size = w.heap.size := by
  refine (markGapS_any lo A n c _ k0 w h.1 hk0 hn).mono fun e w' ⟨he, ho, hg, hz⟩ => ⟨he, ?_, ⟨ho, h.2⟩, hz⟩
  refine ⟨hg.os, hg.tape, hg.output, hg.size, fun k hk hb => hg.block k hk (fun e => ?_)⟩
  have h1 := h.2 k e.symm
  have h2 := (h.1.lt k e.symm).1
  omega

set_option maxRecDepth 100000 in
set_option maxHeartbeats 2000000 in
theorem eqGapS_t (lo lo' hi hi' n c c' : Nat) (A A' : Option Addr) (fl : List Int) (w : World) (h : GapsIn lo hi w (.slice A n c) n (fl.map (Value.int .i64))) (h' : GapsIn lo' hi' w (.slice A' n c') n (fl.map (Value.int .i64))) (hn : n ≤ 4611686018427387904) :
    Calls Try.prog 24 #[.slice A n c, .slice A' n c'] w fun e w' => e = .returned (.bool true) ∧ Below w.heap.size w w' := by
  have HA := Lib.hid h.1
  have HB := Lib.hid h'.1
  clear h h'
  go_enter Try.func24, Try.ntmps24
  go_wp2_with fail
  go_loopw [5] (fun i wr => ∃ j : Nat, j ≤ n ∧ i = .int .i64 j ∧ Below w.heap.size w wr) (fun i _ => n - (intOf i).toNat)
  case atStart => exact ⟨0, Nat.zero_le _, rfl, Below.refl _ _⟩
  case round =>
    obtain ⟨j, hj, rfl, hb⟩ := hrel
    have HW := Lib.hid hb
    by_cases hlt : j < n
    · obtain ⟨g, rfl⟩ := ownK_addr HA.out (by omega)
      obtain ⟨g', rfl⟩ := ownK_addr HB.out (by omega)
      have o1 := ownK_below HA.out hb
      have o2 := ownK_below HB.out hb
      have hfl : fl.length = n * 2 := by simpa using HA.out.1
      obtain ⟨x, hx⟩ : ∃ x, fl[j * 2]? = some x := ⟨_, List.getElem?_eq_getElem (by omega)⟩
      obtain ⟨y, hy⟩ : ∃ y, fl[j * 2 + 1]? = some y := ⟨_, List.getElem?_eq_getElem (by omega)⟩
      have e1 : wr.cell? ⟨g, j * 2, none⟩ = some (.int .i64 x) := by rw [o1.cellAt (j * 2) (by omega), List.getElem?_map, hx]; rfl
      have e2 : wr.cell? ⟨g, j * 2 + 1, none⟩ = some (.int .i64 y) := by rw [o1.cellAt (j * 2 + 1) (by omega), List.getElem?_map, hy]; rfl
      have e3 : wr.cell? ⟨g', j * 2, none⟩ = some (.int .i64 x) := by rw [o2.cellAt (j * 2) (by omega), List.getElem?_map, hx]; rfl
      have e4 : wr.cell? ⟨g', j * 2 + 1, none⟩ = some (.int .i64 y) := by rw [o2.cellAt (j * 2 + 1) (by omega), List.getElem?_map, hy]; rfl
      have hj0 : (0 : Int) ≤ (j : Int) := by omega
      have hjn : (j : Int) < (n : Int) := by omega
      clear o1 o2 hx hy hb
      go_wp2_with fail
      have c9 : Below wr.heap.size wr wr := Below.refl _ _
      go_region_law
        (first
          | (go_simp; go_at_call 69; refine (eqGap_t x y _).mono ?_; rintro e w2 ⟨rfl, b2⟩; have HB2 := Lib.hid (show Below wr.heap.size wr w2 from below_then (by first | exact c9 | exact c9.drew | exact below_drewN' c9 _) b2); clear b2)
          | fail)
      all_goals
        clear e1 e2 e3 e4 c9
        go_wp2_with fail
        go_roundw
        case rel => exact ⟨j + 1, by omega, by go_num, below_then HW.out HB2.out⟩
        case measure => simp [intOf]; omega
    · go_wp2_with fail
      go_ret
      exact ⟨rfl, HW.out⟩

/-! ### GapsOf -/
def flatG (gs : List (Nat × Nat)) : List Int := gs.flatMap fun g => [(g.1 : Int), (g.2 : Int)]
theorem gcells_flat (gs : List (Nat × Nat)) : gcells gs = (flatG gs).map (Value.int .i64) := by
  simp [gcells, flatG, List.map_flatMap]
def gapsOf (s : Int) (xss : List (List Int)) : List (Nat × Nat) × Int := if okP s xss = true then (gapsL xss xss.length, 0) else ([], 1)
theorem gapsOf_len (s : Int) (xss : List (List Int)) : (gapsOf s xss).1.length ≤ 30 := by
  unfold gapsOf
  split
  · rename_i h
    obtain ⟨n, _, hg⟩ := goodP_of h rfl
    have := gapsL_len hg xss.length (Nat.le_refl _)
    have := hg.m3
    show (gapsL xss xss.length).length ≤ 30
    omega
  · exact Nat.zero_le _
def GapsTo (p : List (Nat × Nat) × Int) (w : World) (e : Ending) (w' : World) : Prop :=
  ∃ u, e = .returned (.tuple #[u, .int .i64 p.2]) ∧ w'.ownsRow w.heap.size 82 2 u p.1.length ((flatG p.1).map (Value.int .i64)) ∧ Below w.heap.size w w'
theorem gapsTo_mk {p : List (Nat × Nat) × Int} {w w' : World} {xs : List (Nat × Nat)} {u : Value} {c : Int} (h : p = (xs, c)) (ho : w'.ownsRow w.heap.size 82 2 u xs.length ((flatG xs).map (Value.int .i64))) (hb : Below w.heap.size w w') :
    GapsTo p w (.returned (.tuple #[u, .int .i64 c])) w' := by subst h; exact ⟨u, rfl, ho, hb⟩
theorem ownK_none' {w : World} {base g : Nat} (hg : g = w.heap.size) (hb : base ≤ w.heap.size) : (w.alloc (.cells #[] 82)).ownsRow base 82 2 (.slice (some ⟨g, 0, none⟩) 0 0) 0 [] := by subst hg; exact ownK_none w base hb

set_option maxRecDepth 100000 in
set_option maxHeartbeats 2000000 in
theorem specGapsOf_any (s : Int) (A : Option Addr) (m cap : Nat) (xss : List (List Int)) (w : World) (h : RowsAt w A m xss) (hm : m ≤ 4611686018427387904)
    (hrows : ∀ (r : Nat) (xs : List Int), xss[r]? = some xs → xs.length ≤ 4611686018427387904) :
    Calls Try.prog 22 #[.agg #[.int .i64 s, .slice A m cap]] w (GapsTo (gapsOf s xss) w) := by
  have HR := Lib.hid hrows
  have HM := Lib.hid h.1
  have b0 : Below w.heap.size w (w.alloc (.cells #[.int .i64 s, .slice A m cap] 27)) := (Below.refl _ _).alloc (Nat.le_refl _) _
  have H0 := Lib.hid (h.below b0)
  have B0 := Lib.hid b0
  clear hrows b0
  rcases hok : okP s xss with _ | _
  · have HF := Lib.hid (show gapsOf s xss = ([], 1) by unfold gapsOf; rw [hok]; rfl)
    go_enter Try.func22, Try.ntmps22
    go_wp2_with fail
    refine (l04Ok_any w.heap.size s A m cap xss _ (by go_cell) (by go_cell) H0.out hm HR.out).mono ?_
    rw [hok]
    rintro e w' ⟨rfl, d, rfl⟩
    go_wp2_with fail
    go_ret2
    exact gapsTo_mk HF.out (ownK_none' (by simp) (by simp)) ((below_drewN' B0.out _).alloc (by simp) _)
  · have HF := Lib.hid (show gapsOf s xss = (gapsL xss m, 0) by unfold gapsOf; rw [hok, ← HM.out]; rfl)
    obtain ⟨n, hsn, hg⟩ := goodP_of hok HM.out
    subst hsn
    have HG := Lib.hid hg
    clear hg
    go_enter Try.func22, Try.ntmps22
    go_wp2_with fail
    refine (l04Ok_any w.heap.size (n : Int) A m cap xss _ (by go_cell) (by go_cell) H0.out hm HR.out).mono ?_
    rw [hok]
    rintro e w1 ⟨rfl, d, hw1⟩
    have b1 : Below (w.alloc (.cells #[.int .i64 (n : Int), .slice A m cap] 27)).heap.size (w.alloc (.cells #[.int .i64 (n : Int), .slice A m cap] 27)) w1 := by rw [hw1]; exact below_drewN' (Below.refl _ _) d
    have X1 := Lib.hid (show w1.cell? ⟨w.heap.size, 1, none⟩ = some (.slice A m cap) from (b1.cell (by simp)).trans (by go_cell))
    have H1 := Lib.hid (H0.out.below b1)
    have B1 := Lib.hid (below_then B0.out b1)
    clear b1 hw1
    go_wp2_with fail
    refine (l04Gaps_any w.heap.size A n m cap xss w1 HG.out X1.out H1.out).mono ?_
    rintro e w2 ⟨u, rfl, o2, b2⟩
    have B2 := Lib.hid (below_then B1.out b2)
    have O2 := Lib.hid (ownK_base o2 B1.out.size)
    clear b2 o2
    go_wp2_with fail
    go_ret2
    exact gapsTo_mk HF.out (by rw [← gcells_flat]; exact O2.out) B2.out

set_option maxRecDepth 100000 in
set_option maxHeartbeats 2000000 in
theorem implGapsOf_any (s : Int) (A : Option Addr) (m cap : Nat) (xss : List (List Int)) (w : World) (h : RowsAt w A m xss) (hm : m ≤ 4611686018427387904)
    (hrows : ∀ (r : Nat) (xs : List Int), xss[r]? = some xs → xs.length ≤ 4611686018427387904) :
    Calls Try.prog 23 #[.agg #[.int .i64 s, .slice A m cap]] w (GapsTo (gapsOf s xss) w) := by
  have HR := Lib.hid hrows
  have HM := Lib.hid h.1
  have b0 : Below w.heap.size w (w.alloc (.cells #[.int .i64 s, .slice A m cap] 27)) := (Below.refl _ _).alloc (Nat.le_refl _) _
  have H0 := Lib.hid (h.below b0)
  have B0 := Lib.hid b0
  clear hrows b0
  rcases hok : okP s xss with _ | _
  · have HF := Lib.hid (show gapsOf s xss = ([], 1) by unfold gapsOf; rw [hok]; rfl)
    go_enter Try.func23, Try.ntmps23
    go_wp2_with fail
    refine (implValidPartial_any s A m cap xss _ H0.out hm HR.out).mono ?_
    rw [hok]
    rintro e w1 ⟨rfl, b1⟩
    have B1 := Lib.hid (below_then B0.out b1)
    clear b1
    go_wp2_with fail
    go_ret2
    exact gapsTo_mk HF.out (ownK_nil _ _ _ _) B1.out
  · have HF := Lib.hid (show gapsOf s xss = (gapsL xss m, 0) by unfold gapsOf; rw [hok, ← HM.out]; rfl)
    obtain ⟨n, hsn, hg⟩ := goodP_of hok HM.out
    subst hsn
    have HG := Lib.hid hg
    clear hg
    go_enter Try.func23, Try.ntmps23
    go_wp2_with fail
    refine (implValidPartial_any (n : Int) A m cap xss _ H0.out hm HR.out).mono ?_
    rw [hok]
    rintro e w1 ⟨rfl, b1⟩
    have d0 : w1.cell? ⟨w.heap.size, 0, none⟩ = some (.int .i64 (n : Int)) := (b1.cell (by simp)).trans (by go_cell)
    have d1 : w1.cell? ⟨w.heap.size, 1, none⟩ = some (.slice A m cap) := (b1.cell (by simp)).trans (by go_cell)
    have H1 := Lib.hid (H0.out.below b1)
    have B1 := Lib.hid (below_then B0.out b1)
    clear b1
    go_wp2_with fail
    refine (gapsOf_any (n : Int) A n m cap xss w1 HG.out H1.out).mono ?_
    rintro e w2 ⟨u, rfl, o2, b2⟩
    have B2 := Lib.hid (below_then B1.out b2)
    have O2 := Lib.hid (ownK_base o2 B1.out.size)
    clear b2 o2 d0 d1
    go_wp2_with fail
    go_ret2
    exact gapsTo_mk HF.out (by rw [← gcells_flat]; exact O2.out) B2.out

end Go.Proofs.Ytikimfncpemmkaa
