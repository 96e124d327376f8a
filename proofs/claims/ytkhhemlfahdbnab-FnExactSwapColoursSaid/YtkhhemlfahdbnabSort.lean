/-
  Sorting by insertion: the contracts of slices.Sort (up to twelve numbers) and of l05Sorted.
-/
import Derived.Test.YtkhhemlfahdbnabRoadV
import Derived.Test.YtkhhemlfahdbnabOwn
namespace Go.Proofs.Ytkhhemlfahdbnab
open Go.RowKit Go.Deep Go.ChangeShapes Go.WideShapes

theorem only_drew (lo hi : Nat) (w : World) (k : Nat) : Only lo hi w (w.drewN k) := Only.of_below (below_drewN' (Below.refl _ _) k) lo hi
theorem own_drewN {w : World} {base : Nat} {e : TypeId} {v : Value} {n : Nat} {cs : List Value} (h : w.ownsRow base e 1 v n cs) (k : Nat) : (w.drewN k).ownsRow base e 1 v n cs := own_below h (below_drewN' (Below.refl _ _) k)
/-- The cell k of an own list. -/
theorem own_num {w : World} {base g n c k : Nat} {xs : List Int} (h : w.ownsRow base 2 1 (.slice (some ⟨g, 0, none⟩) n c) n (xs.map (Value.int .i64))) (hl : xs.length = n) (hk : k < n) : w.cell? ⟨g, k, none⟩ = some (.int .i64 (xs.getD k 0)) := by
  rw [h.cellAt k (by omega), List.getElem?_map]
  have : xs[k]? = some (xs[k]'(by omega)) := List.getElem?_eq_getElem _
  rw [this, List.getD_eq_getElem?_getD, this]
  rfl
/-- The exchange of two neighbours. -/
theorem own_swap {w : World} {base g n c k : Nat} {xs : List Int} (h : w.ownsRow base 2 1 (.slice (some ⟨g, 0, none⟩) n c) n (xs.map (Value.int .i64))) (x y : Int) :
    ((w.setCell ⟨g, k + 1, none⟩ (.int .i64 x)).setCell ⟨g, k, none⟩ (.int .i64 y)).ownsRow base 2 1 (.slice (some ⟨g, 0, none⟩) n c) n (((xs.set (k + 1) x).set k y).map (Value.int .i64)) ∧ Only g (g + 1) w ((w.setCell ⟨g, k + 1, none⟩ (.int .i64 x)).setCell ⟨g, k, none⟩ (.int .i64 y)) := by
  have h1 := (h.stored (k + 1) (.int .i64 x)).1
  rw [← List.map_set] at h1
  have h2 := (h1.stored k (.int .i64 y)).1
  rw [← List.map_set] at h2
  exact ⟨h2, (only_setCell _ _ _ _).trans (only_setCell _ _ _ _)⟩

set_option maxRecDepth 100000 in
set_option maxHeartbeats 2000000 in
theorem insertionSort_any (base g n c : Nat) (xs : List Int) (w : World) (h : w.ownsRow base 2 1 (.slice (some ⟨g, 0, none⟩) n c) n (xs.map (Value.int .i64))) (hl : xs.length = n) (hn : n ≤ 1048576) :
    Calls Try.prog 196 #[.slice (some ⟨g, 0, none⟩) n c, .int .i64 0, .int .i64 (n : Int)] w fun e w' => e = .returned (.tuple #[]) ∧
      w'.ownsRow base 2 1 (.slice (some ⟨g, 0, none⟩) n c) n ((sortF xs).map (Value.int .i64)) ∧ Only g (g + 1) w w' ∧ w'.heap.size = w.heap.size := by
  have HH := Lib.hid h
  have HL := Lib.hid hl
  clear h hl
  go_enter Try.func196, Try.ntmps196
  go_wp2_with fail
  go_loopw [6] (fun i wr => ∃ k : Nat, 1 ≤ k ∧ i = .int .i64 k ∧ (k ≤ n ∨ k = 1) ∧ wr.ownsRow base 2 1 (.slice (some ⟨g, 0, none⟩) n c) n ((sortTo xs k).map (Value.int .i64)) ∧ Only g (g + 1) w wr ∧ wr.heap.size = w.heap.size) (fun i _ => n + 1 - (intOf i).toNat)
  case atStart => exact ⟨1, Nat.le_refl _, rfl, .inr rfl, HH.out, Only.refl _ _ _, rfl⟩
  case round =>
    obtain ⟨k, hk1, rfl, hkn, hown, honly, hsz⟩ := hrel
    have HO := Lib.hid hown
    have HY := Lib.hid honly
    have HZ := Lib.hid hsz
    clear hown honly hsz
    by_cases hlt : k < n
    · have hi1 : (k : Int) < (n : Int) := by omega
      go_wp2_with fail
      go_loopw [7] (fun j wi => ∃ (q : Nat) (cur : List Int), q ≤ k ∧ j = .int .i64 q ∧ cur.length = n ∧ sinkF q cur = sortTo xs (k + 1) ∧ wi.ownsRow base 2 1 (.slice (some ⟨g, 0, none⟩) n c) n (cur.map (Value.int .i64)) ∧ Only g (g + 1) w wi ∧ wi.heap.size = w.heap.size) (fun j _ => (intOf j).toNat)
      case atStart => exact ⟨k, sortTo xs k, Nat.le_refl _, rfl, by rw [sortTo_len, HL.out], rfl, HO.out, HY.out, HZ.out⟩
      case round =>
        obtain ⟨q, cur, hq, rfl, hcl, hsink, hown, honly, hsz⟩ := hrel
        have HC := Lib.hid hcl
        have HS := Lib.hid hsink
        have HOI := Lib.hid hown
        have HYI := Lib.hid honly
        have HZI := Lib.hid hsz
        clear hcl hsink hown honly hsz
        by_cases hq0 : 0 < q
        · obtain ⟨p, rfl⟩ : ∃ p, q = p + 1 := ⟨q - 1, by omega⟩
          obtain ⟨x, hx⟩ : ∃ x, x = cur.getD (p + 1) 0 := ⟨_, rfl⟩
          obtain ⟨y, hy⟩ : ∃ y, y = cur.getD p 0 := ⟨_, rfl⟩
          have hcx := own_num HOI.out HC.out (k := p + 1) (by omega)
          have hcy := own_num HOI.out HC.out (k := p) (by omega)
          rw [← hx] at hcx
          rw [← hy] at hcy
          have hf1 := HOI.out.frozenAt (p + 1)
          have hf2 := HOI.out.frozenAt p
          have HXX := Lib.hid hx
          have HYY := Lib.hid hy
          have hwr : IntKind.i64.wrap (((p + 1 : Nat) : Int) - 1) = (p : Int) := by rw [show ((p + 1 : Nat) : Int) - 1 = (p : Int) by omega]; exact IntWalk.i64_in _ (by omega)
          have i1 : ((p + 1 : Nat) : Int) < (n : Int) := by omega
          have i2 : (p : Int) < (n : Int) := by omega
          have i3 : (0 : Int) ≤ (p : Int) := by omega
          have hg0 : decide ((0 : Int) < ((p + 1 : Nat) : Int)) = true := decide_eq_true (by omega)
          clear hx hy
          by_cases hxy : x < y
          · have hd : decide (x < y) = true := decide_eq_true hxy
            have HXY := Lib.hid hxy
            clear hxy
            go_wp2_with fail
            go_quiet ((go_at_call 170; exact quiet_eq (less_any _ _ _)))
            go_wp2_with fail
            go_region
            all_goals go_wp2_with fail
            go_roundw
            case rel =>
              have hgo := sinkF_go (k := p) (xs := cur) (by rw [← HXX.out, ← HYY.out]; exact HXY.out)
              rw [← HXX.out, ← HYY.out] at hgo
              obtain ⟨o1, o2⟩ := own_swap (own_drewN HOI.out _) (k := p) y x
              exact ⟨p, _, by omega, rfl, by rw [List.length_set, List.length_set]; exact HC.out, hgo.symm.trans HS.out, o1, (HYI.out.trans (only_drew _ _ _ _)).trans o2, by rw [World.size_setCell, World.size_setCell]; exact HZI.out⟩
            case measure => simp [intOf]
          · have hd : decide (x < y) = false := decide_eq_false hxy
            have HXY := Lib.hid hxy
            clear hxy
            go_wp2_with fail
            go_quiet ((go_at_call 170; exact quiet_eq (less_any _ _ _)))
            go_wp2_with fail
            go_roundw
            case rel =>
              have hstop : sinkF (p + 1) cur = cur := sinkF_stop (by rw [← HXX.out, ← HYY.out]; have := HXY.out; omega)
              refine ⟨k + 1, by omega, by go_num, .inl (by omega), own_drewN (by rw [← HS.out, hstop]; exact HOI.out) _, HYI.out.trans (only_drew _ _ _ _), HZI.out⟩
            case measure => simp [intOf]; omega
        · obtain rfl : q = 0 := by omega
          have hg0 : decide ((0 : Int) < ((0 : Nat) : Int)) = false := decide_eq_false (by omega)
          go_wp2_with fail
          go_quiet (fail)
          go_wp2_with fail
          go_roundw
          case rel => exact ⟨k + 1, by omega, by go_num, .inl (by omega), own_drewN (by rw [← HS.out, sinkF]; exact HOI.out) _, HYI.out.trans (only_drew _ _ _ _), HZI.out⟩
          case measure => simp [intOf]; omega
    · have hlt' : ¬ (k : Int) < (n : Int) := by omega
      go_wp2_with fail
      go_end0
      have e : sortF xs = sortTo xs k := by
        unfold sortF
        rw [HL.out]
        rcases hkn with h1 | h1
        · rw [show k = n by omega]
        · subst h1
          rcases Nat.eq_zero_or_pos n with h0 | h0
          · rw [h0]; rfl
          · rw [show n = 1 by omega]
      rw [e]
      exact ⟨rfl, HO.out, HY.out, HZ.out⟩

set_option maxRecDepth 100000 in
theorem len64_any (n : Nat) (w : World) (hn : n ≤ 12) : Calls Try.prog 205 #[.int .u64 (n : Int)] w fun e w' => (∃ r : Int, e = .returned (.int .i64 r)) ∧ w = w' := by
  have h : n = 0 ∨ n = 1 ∨ n = 2 ∨ n = 3 ∨ n = 4 ∨ n = 5 ∨ n = 6 ∨ n = 7 ∨ n = 8 ∨ n = 9 ∨ n = 10 ∨ n = 11 ∨ n = 12 := by omega
  rcases h with rfl | rfl | rfl | rfl | rfl | rfl | rfl | rfl | rfl | rfl | rfl | rfl | rfl
  all_goals
    go_enter Try.func205, Try.ntmps205
    go_wp2
    go_ret
    exact ⟨⟨_, rfl⟩, rfl⟩

theorem len_any (n : Nat) (w : World) (hn : n ≤ 12) : Calls Try.prog 189 #[.int .u64 (n : Int)] w fun e w' => (∃ r : Int, e = .returned (.int .i64 r)) ∧ w = w' := by
  go_enter Try.func189, Try.ntmps189
  go_wp2_with fail
  refine (len64_any n w hn).mono ?_
  rintro e w' ⟨⟨r, rfl⟩, rfl⟩
  go_wp2_with fail
  go_ret
  exact ⟨⟨r, rfl⟩, rfl⟩

set_option maxRecDepth 100000 in
set_option maxHeartbeats 2000000 in
theorem pdqsort_any (base g n c : Nat) (xs : List Int) (r : Int) (w : World) (h : w.ownsRow base 2 1 (.slice (some ⟨g, 0, none⟩) n c) n (xs.map (Value.int .i64))) (hl : xs.length = n) (hn : n ≤ 12) :
    Calls Try.prog 188 #[.slice (some ⟨g, 0, none⟩) n c, .int .i64 0, .int .i64 (n : Int), .int .i64 r] w fun e w' => e = .returned (.tuple #[]) ∧
      w'.ownsRow base 2 1 (.slice (some ⟨g, 0, none⟩) n c) n ((sortF xs).map (Value.int .i64)) ∧ Only g (g + 1) w w' ∧ w'.heap.size = w.heap.size := by
  have HH := Lib.hid h
  have HL := Lib.hid hl
  have hwr : IntKind.i64.wrap ((n : Int) - 0) = (n : Int) := by rw [Int.sub_zero]; exact IntWalk.i64_in _ (by omega)
  have hi : (n : Int) ≤ 12 := by omega
  clear h hl
  go_enter Try.func188, Try.ntmps188
  go_wp2_with fail
  go_loopw [1, 2, 3, 8, 9] (fun s1 s2 s3 s8 s9 wr => s1 = .int .i64 0 ∧ s2 = .int .i64 (n : Int) ∧ s3 = .int .i64 r ∧ s8 = .bool true ∧ s9 = .bool true ∧ wr = w) (fun _ _ _ _ _ _ => 0)
  case atStart => exact ⟨rfl, rfl, rfl, rfl, rfl, rfl⟩
  case round =>
    obtain ⟨rfl, rfl, rfl, rfl, rfl, rfl⟩ := hrel
    go_wp2_with fail
    refine (insertionSort_any base g n c xs _ HH.out HL.out (by omega)).mono ?_
    rintro e w1 ⟨rfl, o1, o2, o3⟩
    have O1 := Lib.hid o1
    have O2 := Lib.hid o2
    have O3 := Lib.hid o3
    clear o1 o2 o3
    go_wp2_with fail
    (try simp only [Exit.inBlock, Exit.then]); refine bodyPost_ret (results_none rfl _ _ _) rfl ?_
    exact ⟨rfl, O1.out, O2.out, O3.out⟩

set_option maxRecDepth 100000 in
set_option maxHeartbeats 2000000 in
theorem sort_any (base g n c : Nat) (xs : List Int) (w : World) (h : w.ownsRow base 2 1 (.slice (some ⟨g, 0, none⟩) n c) n (xs.map (Value.int .i64))) (hl : xs.length = n) (hn : n ≤ 12) :
    Calls Try.prog 174 #[.slice (some ⟨g, 0, none⟩) n c] w fun e w' => e = .returned (.tuple #[]) ∧
      w'.ownsRow base 2 1 (.slice (some ⟨g, 0, none⟩) n c) n ((sortF xs).map (Value.int .i64)) ∧ Only g (g + 1) w w' ∧ w'.heap.size = w.heap.size := by
  have HH := Lib.hid h
  have HL := Lib.hid hl
  have hwr : IntKind.u64.wrap (n : Int) = (n : Int) := by unfold IntKind.wrap; simp [IntKind.bits, IntKind.signed]; omega
  clear h hl
  go_enter Try.func174, Try.ntmps174
  go_wp2_with fail
  refine (len_any n _ (by omega)).mono ?_
  rintro e w0 ⟨⟨r, rfl⟩, rfl⟩
  go_wp2_with fail
  refine (pdqsort_any base g n c xs r _ HH.out HL.out hn).mono ?_
  rintro e w1 ⟨rfl, o1, o2, o3⟩
  have O1 := Lib.hid o1
  have O2 := Lib.hid o2
  have O3 := Lib.hid o3
  clear o1 o2 o3
  go_wp2_with fail
  go_end0
  exact ⟨rfl, O1.out, O2.out, O3.out⟩

theorem own_blockN {w : World} {base n : Nat} {e : TypeId} {A : Option Addr} {c : Nat} {cs : List Value} (h : w.ownsRow base e 1 (.slice A n c) n cs) (hn : 0 < n) : ∃ g, A = some ⟨g, 0, none⟩ ∧ base ≤ g ∧ g < w.heap.size := by
  rcases h.2 with ⟨hv, h0⟩ | ⟨g, cap, cur, hv, hg, hh, hn', hcap, hsz, htake⟩
  · omega
  · simp only [Value.slice.injEq] at hv
    obtain ⟨rfl, _, _⟩ := hv
    exact ⟨g, rfl, hg, block_lt hh⟩

set_option maxRecDepth 100000 in
set_option maxHeartbeats 2000000 in
theorem l05Sorted_any (A : Option Addr) (n cap : Nat) (xs : List Int) (w : World) (h : NumsAt w A n xs) (h0 : 0 < n) (hn : n ≤ 1048576) :
    Calls Try.prog 172 #[.slice A n cap] w fun e w' => ∃ u, e = .returned u ∧ w'.ownsRow w.heap.size 2 1 u n ((sortF xs).map (Value.int .i64)) ∧ Below w.heap.size w w' := by
  have HL := Lib.hid h.1
  go_enter Try.func172, Try.ntmps172
  go_wp2_with fail
  refine (l00Own_any A n cap xs w h h0 hn).mono ?_
  rintro e w1 ⟨u, rfl, o1, b1⟩
  rw [HL.out] at o1
  obtain ⟨A1, c1, rfl⟩ := own_form o1
  obtain ⟨g, rfl, hg1, hg2⟩ := own_blockN o1 h0
  have HH := Lib.hid o1
  have HB := Lib.hid b1
  have HG1 := Lib.hid hg1
  have HG2 := Lib.hid hg2
  clear o1 b1 h hg1 hg2
  go_wp2_with fail
  go_loopw [4] (fun i wr => ∃ k : Nat, 1 ≤ k ∧ i = .int .i64 k ∧ (k ≤ n ∨ k = 1) ∧ wr.ownsRow w.heap.size 2 1 (.slice (some ⟨g, 0, none⟩) n c1) n ((sortTo xs k).map (Value.int .i64)) ∧ Only g (g + 1) w1 wr ∧ wr.heap.size = w1.heap.size) (fun i _ => n + 1 - (intOf i).toNat)
  case atStart => exact ⟨1, Nat.le_refl _, rfl, .inr rfl, HH.out, Only.refl _ _ _, rfl⟩
  case round =>
    obtain ⟨k, hk1, rfl, hkn, hown, honly, hsz⟩ := hrel
    have HO := Lib.hid hown
    have HY := Lib.hid honly
    have HZ := Lib.hid hsz
    clear hown honly hsz
    by_cases hlt : k < n
    · have hi1 : (k : Int) < (n : Int) := by omega
      go_wp2_with fail
      go_loopw [5] (fun j wi => ∃ (q : Nat) (cur : List Int), q ≤ k ∧ j = .int .i64 q ∧ cur.length = n ∧ sinkF q cur = sortTo xs (k + 1) ∧ wi.ownsRow w.heap.size 2 1 (.slice (some ⟨g, 0, none⟩) n c1) n (cur.map (Value.int .i64)) ∧ Only g (g + 1) w1 wi ∧ wi.heap.size = w1.heap.size) (fun j _ => (intOf j).toNat)
      case atStart => exact ⟨k, sortTo xs k, Nat.le_refl _, rfl, by rw [sortTo_len, HL.out], rfl, HO.out, HY.out, HZ.out⟩
      case round =>
        obtain ⟨q, cur, hq, rfl, hcl, hsink, hown, honly, hsz⟩ := hrel
        have HC := Lib.hid hcl
        have HS := Lib.hid hsink
        have HOI := Lib.hid hown
        have HYI := Lib.hid honly
        have HZI := Lib.hid hsz
        clear hcl hsink hown honly hsz
        by_cases hq0 : 0 < q
        · obtain ⟨p, rfl⟩ : ∃ p, q = p + 1 := ⟨q - 1, by omega⟩
          obtain ⟨x, hx⟩ : ∃ x, x = cur.getD (p + 1) 0 := ⟨_, rfl⟩
          obtain ⟨y, hy⟩ : ∃ y, y = cur.getD p 0 := ⟨_, rfl⟩
          have hcx := own_num HOI.out HC.out (k := p + 1) (by omega)
          have hcy := own_num HOI.out HC.out (k := p) (by omega)
          rw [← hx] at hcx
          rw [← hy] at hcy
          have hf1 := HOI.out.frozenAt (p + 1)
          have hf2 := HOI.out.frozenAt p
          have HXX := Lib.hid hx
          have HYY := Lib.hid hy
          have hwr : IntKind.i64.wrap (((p + 1 : Nat) : Int) - 1) = (p : Int) := by rw [show ((p + 1 : Nat) : Int) - 1 = (p : Int) by omega]; exact IntWalk.i64_in _ (by omega)
          have i1 : ((p + 1 : Nat) : Int) < (n : Int) := by omega
          have i2 : (p : Int) < (n : Int) := by omega
          have i3 : (0 : Int) ≤ (p : Int) := by omega
          have hg0 : decide ((0 : Int) < ((p + 1 : Nat) : Int)) = true := decide_eq_true (by omega)
          clear hx hy
          by_cases hxy : x < y
          · have hd : decide (x < y) = true := decide_eq_true hxy
            have HXY := Lib.hid hxy
            clear hxy
            go_wp2_with fail
            go_quiet (fail)
            go_wp2_with fail
            go_roundw
            case rel =>
              have hgo := sinkF_go (k := p) (xs := cur) (by rw [← HXX.out, ← HYY.out]; exact HXY.out)
              rw [← HXX.out, ← HYY.out] at hgo
              obtain ⟨o1, o2⟩ := own_swap (own_drewN HOI.out _) (k := p) y x
              exact ⟨p, _, by omega, rfl, by rw [List.length_set, List.length_set]; exact HC.out, hgo.symm.trans HS.out, o1, (HYI.out.trans (only_drew _ _ _ _)).trans o2, by rw [World.size_setCell, World.size_setCell]; exact HZI.out⟩
            case measure => simp [intOf]
          · have hd : decide (x < y) = false := decide_eq_false hxy
            have HXY := Lib.hid hxy
            clear hxy
            go_wp2_with fail
            go_quiet (fail)
            go_wp2_with fail
            go_roundw
            case rel =>
              have hstop : sinkF (p + 1) cur = cur := sinkF_stop (by rw [← HXX.out, ← HYY.out]; have := HXY.out; omega)
              refine ⟨k + 1, by omega, by go_num, .inl (by omega), own_drewN (by rw [← HS.out, hstop]; exact HOI.out) _, HYI.out.trans (only_drew _ _ _ _), HZI.out⟩
            case measure => simp [intOf]; omega
        · obtain rfl : q = 0 := by omega
          have hg0 : decide ((0 : Int) < ((0 : Nat) : Int)) = false := decide_eq_false (by omega)
          go_wp2_with fail
          go_quiet (fail)
          go_wp2_with fail
          go_roundw
          case rel => exact ⟨k + 1, by omega, by go_num, .inl (by omega), own_drewN (by rw [← HS.out, sinkF]; exact HOI.out) _, HYI.out.trans (only_drew _ _ _ _), HZI.out⟩
          case measure => simp [intOf]; omega
    · have hlt' : ¬ (k : Int) < (n : Int) := by omega
      go_wp2_with fail
      go_ret
      have e : sortF xs = sortTo xs k := by
        unfold sortF
        rw [HL.out]
        rcases hkn with h1 | h1
        · rw [show k = n by omega]
        · subst h1
          rw [show n = 1 by omega]
      rw [e]
      exact ⟨_, rfl, HO.out, Only.below HB.out HY.out HG1.out HB.out.size⟩

end Go.Proofs.Ytkhhemlfahdbnab
