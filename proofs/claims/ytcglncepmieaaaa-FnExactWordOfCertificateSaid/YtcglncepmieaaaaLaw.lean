/-
  What the walks of the laws stand on: lists, and lists of lists, of a call's own, in the blocks from lo up to, not including, hi; what marking them does, and what is held in them afterwards.
-/
import Derived.Test.YtcglncepmieaaaaHelp
namespace Go.Proofs.Ytcglncepmieaaaa
open Go.RowKit Go.Deep Go.ChangeShapes Go.WideShapes

/-- A list of numbers of a call's own in the blocks from lo on, below hi. -/
def IntsIn (lo hi : Nat) (w : World) (v : Value) (xs : List Int) : Prop :=
  w.ownsRow lo 2 1 v xs.length (xs.map (Value.int .i64)) ∧ ∀ g, v.ownBlock = some g → g < hi
theorem IntsIn.of {lo : Nat} {w : World} {v : Value} {xs : List Int} (h : w.ownsRow lo 2 1 v xs.length (xs.map (Value.int .i64))) : IntsIn lo w.heap.size w v xs := ⟨h, fun g hg => (h.lt g hg).2⟩
theorem IntsIn.below {lo hi : Nat} {w w' : World} {v : Value} {xs : List Int} (h : IntsIn lo hi w v xs) (hb : Below w.heap.size w w') : IntsIn lo hi w' v xs := ⟨own_below h.1 hb, h.2⟩
theorem IntsIn.only {lo hi lo' hi' : Nat} {w w' : World} {v : Value} {xs : List Int} (h : IntsIn lo hi w v xs) (ho : Only lo' hi' w w') (hd : hi ≤ lo' ∨ hi' ≤ lo) : IntsIn lo hi w' v xs :=
  ⟨ho.own h.1 (fun g hg => by have := h.2 g hg; have := (h.1.lt g hg).1; omega), h.2⟩
theorem IntsIn.wide {lo hi lo' hi' : Nat} {w : World} {v : Value} {xs : List Int} (h : IntsIn lo hi w v xs) (h1 : lo' ≤ lo) (h2 : hi ≤ hi') : IntsIn lo' hi' w v xs := ⟨own_base h.1 h1, fun g hg => Nat.lt_of_lt_of_le (h.2 g hg) h2⟩
theorem IntsIn.form {lo hi : Nat} {w : World} {v : Value} {xs : List Int} (h : IntsIn lo hi w v xs) : ∃ A c, v = .slice A xs.length c := own_form h.1
theorem IntsIn.nums {lo hi : Nat} {w : World} {A : Option Addr} {n c : Nat} {xs : List Int} (h : IntsIn lo hi w (.slice A n c) xs) (hn : xs.length = n) : NumsAt w A n xs := NumsAt.own h.1 rfl hn.symm

theorem markInts_in (lo hi n c : Nat) (A : Option Addr) (xs : List Int) (k0 : Int) (w : World) (h : IntsIn lo hi w (.slice A n c) xs) (hl : xs.length = n) (hk0 : 0 ≤ k0) (hn : k0 + (n : Int) ≤ 4611686018427387904) :
    Calls Try.prog 23 #[.slice A n c, .int .i64 k0] w fun e w' => e = .returned (.int .i64 (k0 + (n : Int))) ∧ Only lo hi w w' ∧ IntsIn lo hi w' (.slice A n c) (marks k0 n) ∧ w'.heap.size = w.heap.size := by
  subst hl
  refine (markInt64S_any lo A xs.length c _ k0 w h.1 hk0 hn).mono fun e w' ⟨he, ho, hg, hz⟩ => ⟨he, ?_, ⟨by rw [marks_length]; exact ho, h.2⟩, hz⟩
  refine ⟨hg.os, hg.tape, hg.output, hg.size, fun k hk hb => hg.block k hk (fun e => ?_)⟩
  have h1 := h.2 k e.symm
  have h2 := (h.1.lt k e.symm).1
  omega

/-- A list of lists of a call's own in the blocks from lo on, below hi: the values vs stand in the outer list, each of them a list of its own. -/
structure TabV (lo hi : Nat) (w : World) (v : Value) (vs : List Value) (xss : List (List Int)) : Prop where
  len : vs.length = xss.length
  out : w.ownsRow lo 35 1 v xss.length vs
  top : ∀ g, v.ownBlock = some g → g < hi
  row : ∀ (r : Nat) (u : Value) (xs : List Int), vs[r]? = some u → xss[r]? = some xs → IntsIn lo hi w u xs
  apart : ∀ (r r' : Nat) (u u' : Value) (g : Nat), vs[r]? = some u → vs[r']? = some u' → u.ownBlock = some g → u'.ownBlock = some g → r = r'
  outer : ∀ (r : Nat) (u : Value) (g : Nat), vs[r]? = some u → u.ownBlock = some g → v.ownBlock ≠ some g
def TabIn (lo hi : Nat) (w : World) (v : Value) (xss : List (List Int)) : Prop := ∃ vs, TabV lo hi w v vs xss

theorem TabV.below {lo hi : Nat} {w w' : World} {v : Value} {vs : List Value} {xss : List (List Int)} (h : TabV lo hi w v vs xss) (hb : Below w.heap.size w w') : TabV lo hi w' v vs xss :=
  ⟨h.len, own_below h.out hb, h.top, fun r u xs hu hx => (h.row r u xs hu hx).below hb, h.apart, h.outer⟩
theorem TabV.only {lo hi lo' hi' : Nat} {w w' : World} {v : Value} {vs : List Value} {xss : List (List Int)} (h : TabV lo hi w v vs xss) (ho : Only lo' hi' w w') (hd : hi ≤ lo' ∨ hi' ≤ lo) : TabV lo hi w' v vs xss :=
  ⟨h.len, ho.own h.out (fun g hg => by have := h.top g hg; have := (h.out.lt g hg).1; omega), h.top, fun r u xs hu hx => (h.row r u xs hu hx).only ho hd, h.apart, h.outer⟩
theorem TabV.wide {lo hi lo' hi' : Nat} {w : World} {v : Value} {vs : List Value} {xss : List (List Int)} (h : TabV lo hi w v vs xss) (h1 : lo' ≤ lo) (h2 : hi ≤ hi') : TabV lo' hi' w v vs xss :=
  ⟨h.len, own_base h.out h1, fun g hg => Nat.lt_of_lt_of_le (h.top g hg) h2, fun r u xs hu hx => (h.row r u xs hu hx).wide h1 h2, h.apart, h.outer⟩
theorem TabIn.below {lo hi : Nat} {w w' : World} {v : Value} {xss : List (List Int)} (h : TabIn lo hi w v xss) (hb : Below w.heap.size w w') : TabIn lo hi w' v xss := by
  obtain ⟨vs, h⟩ := h; exact ⟨vs, h.below hb⟩
theorem TabIn.only {lo hi lo' hi' : Nat} {w w' : World} {v : Value} {xss : List (List Int)} (h : TabIn lo hi w v xss) (ho : Only lo' hi' w w') (hd : hi ≤ lo' ∨ hi' ≤ lo) : TabIn lo hi w' v xss := by
  obtain ⟨vs, h⟩ := h; exact ⟨vs, h.only ho hd⟩
theorem TabIn.wide {lo hi lo' hi' : Nat} {w : World} {v : Value} {xss : List (List Int)} (h : TabIn lo hi w v xss) (h1 : lo' ≤ lo) (h2 : hi ≤ hi') : TabIn lo' hi' w v xss := by
  obtain ⟨vs, h⟩ := h; exact ⟨vs, h.wide h1 h2⟩
theorem TabIn.form {lo hi : Nat} {w : World} {v : Value} {xss : List (List Int)} (h : TabIn lo hi w v xss) : ∃ A c, v = .slice A xss.length c := by
  obtain ⟨vs, h⟩ := h; exact own_form h.out

theorem TabV.cell {lo hi : Nat} {w : World} {A : Option Addr} {n c r : Nat} {vs : List Value} {xss : List (List Int)} (h : TabV lo hi w (.slice A n c) vs xss) (hr : r < xss.length) :
    ∃ g u, A = some ⟨g, 0, none⟩ ∧ vs[r]? = some u ∧ w.cell? ⟨g, r, none⟩ = some u := by
  have hl := h.len
  obtain ⟨u, hu⟩ : ∃ u, vs[r]? = some u := ⟨vs[r]'(by omega), List.getElem?_eq_getElem (by omega)⟩
  have ho := h.out
  rcases ho.2 with ⟨hv, h0⟩ | ⟨g, cap, cur, hv, hg, hh, hn, hcap, hsz, htake⟩
  · omega
  · simp only [Value.slice.injEq] at hv
    obtain ⟨rfl, rfl, rfl⟩ := hv
    exact ⟨g, u, rfl, hu, by rw [ho.cellAt r (by omega), hu]⟩
theorem TabIn.rows {lo hi : Nat} {w : World} {A : Option Addr} {n c : Nat} {xss : List (List Int)} (h : TabIn lo hi w (.slice A n c) xss) (hn : xss.length = n) : RowsAt w A n xss := by
  subst hn
  obtain ⟨vs, h⟩ := h
  refine ⟨rfl, fun r xs hx => ?_⟩
  have hr : r < xss.length := by
    rcases Nat.lt_or_ge r xss.length with a | a
    · exact a
    · rw [List.getElem?_eq_none a] at hx; cases hx
  obtain ⟨g, u, rfl, hu, hc⟩ := h.cell hr
  have hi := h.row r u xs hu hx
  obtain ⟨A', c', rfl⟩ := hi.form
  exact ⟨g, 0, A', c', rfl, by rw [Nat.zero_add]; exact hc, hi.nums rfl⟩

theorem tab_of_grid {w : World} {g : Nat} {xss : List (List Int)} (h : Grid w g xss) : TabIn g (g + 1 + xss.length) w (.slice (some ⟨g, 0, none⟩) xss.length xss.length) xss := by
  have hat : ∀ (r : Nat) (u : Value), (xss.mapIdx (rowVal g))[r]? = some u → ∃ xs, xss[r]? = some xs ∧ u = rowVal g r xs := by
    intro r u hu
    rw [List.getElem?_mapIdx] at hu
    rcases hx : xss[r]? with _ | xs
    · rw [hx] at hu; cases hu
    · rw [hx] at hu; exact ⟨xs, rfl, (Option.some.inj hu).symm⟩
  refine ⟨xss.mapIdx (rowVal g), by simp, h.1, fun q hq => ?_, fun r u xs hu hx => ?_, fun r r' u u' q hu hu' hq hq' => ?_, fun r u q hu hq => ?_⟩
  · simp [Value.ownBlock] at hq; omega
  · obtain ⟨ys, hy, rfl⟩ := hat r u hu
    rw [hx] at hy; obtain rfl := Option.some.inj hy
    have hr : r < xss.length := by
      rcases Nat.lt_or_ge r xss.length with a | a
      · exact a
      · rw [List.getElem?_eq_none a] at hx; cases hx
    refine ⟨h.2 r xs hx, fun q hq => ?_⟩
    rw [row_block] at hq; have := Option.some.inj hq; omega
  · obtain ⟨ys, hy, rfl⟩ := hat r u hu
    obtain ⟨ys', hy', rfl⟩ := hat r' u' hu'
    rw [row_block] at hq hq'
    have := Option.some.inj hq; have := Option.some.inj hq'; omega
  · obtain ⟨ys, hy, rfl⟩ := hat r u hu
    rw [row_block] at hq
    have := Option.some.inj hq
    simp [Value.ownBlock]; omega

/-- What stands in a list of lists that is marked from k0 on. -/
def marksT (k0 : Int) (xss : List (List Int)) : List (List Int) := xss.mapIdx fun r xs => marks (k0 + (sumLens (xss.take r) : Int)) xs.length
def marksTo (j : Nat) (k0 : Int) (xss : List (List Int)) : List (List Int) := xss.mapIdx fun r xs => if r < j then marks (k0 + (sumLens (xss.take r) : Int)) xs.length else xs
theorem marksT_len (k0 : Int) (xss : List (List Int)) : (marksT k0 xss).length = xss.length := by simp [marksT]
theorem marksTo_len (j : Nat) (k0 : Int) (xss : List (List Int)) : (marksTo j k0 xss).length = xss.length := by simp [marksTo]
theorem marksT_at {k0 : Int} {xss : List (List Int)} {r : Nat} {xs : List Int} (hx : xss[r]? = some xs) : (marksT k0 xss)[r]? = some (marks (k0 + (sumLens (xss.take r) : Int)) xs.length) := by
  unfold marksT; rw [List.getElem?_mapIdx, hx]; rfl
theorem marksTo_0 (k0 : Int) (xss : List (List Int)) : marksTo 0 k0 xss = xss := by
  apply List.ext_getElem?
  intro r
  unfold marksTo; rw [List.getElem?_mapIdx]
  cases xss[r]? <;> simp
theorem marksTo_all {k0 : Int} {xss : List (List Int)} {n : Nat} (hn : xss.length = n) : marksTo n k0 xss = marksT k0 xss := by
  subst hn
  apply List.ext_getElem?
  intro r
  unfold marksTo marksT; rw [List.getElem?_mapIdx, List.getElem?_mapIdx]
  rcases Nat.lt_or_ge r xss.length with a | a
  · simp [a]
  · rw [List.getElem?_eq_none a]; rfl
theorem marksTo_at {j : Nat} {k0 : Int} {xss : List (List Int)} {xs : List Int} (hx : xss[j]? = some xs) : (marksTo j k0 xss)[j]? = some xs := by
  unfold marksTo; rw [List.getElem?_mapIdx, hx]; simp
theorem marksTo_step {j : Nat} {k0 : Int} {xss : List (List Int)} {xs : List Int} (hx : xss[j]? = some xs) : (marksTo j k0 xss).set j (marks (k0 + (sumLens (xss.take j) : Int)) xs.length) = marksTo (j + 1) k0 xss := by
  apply List.ext_getElem?
  intro r
  have hj : j < xss.length := by
    rcases Nat.lt_or_ge j xss.length with a | a
    · exact a
    · rw [List.getElem?_eq_none a] at hx; cases hx
  rw [List.getElem?_set, marksTo_len]
  unfold marksTo
  rw [List.getElem?_mapIdx, List.getElem?_mapIdx]
  by_cases h : j = r
  · subst h; rw [hx]; simp [hj]
  · simp only [h, if_false]
    rcases xss[r]? with _ | ys
    · rfl
    · simp only [Option.map_some]
      by_cases h2 : r < j
      · simp [h2, show r < j + 1 by omega]
      · simp [h2, show ¬ r < j + 1 by omega]

theorem TabV.set {lo hi : Nat} {w w' : World} {v : Value} {vs : List Value} {xss : List (List Int)} {j : Nat} {u : Value} {ys zs : List Int} (h : TabV lo hi w v vs xss) (hu : vs[j]? = some u) (_hy : xss[j]? = some ys)
    (hg : w.grownBy w' u.ownBlock) (hz : IntsIn lo hi w' u zs) : TabV lo hi w' v vs (xss.set j zs) := by
  refine ⟨by rw [List.length_set]; exact h.len, ?_, h.top, fun r u' xs hu' hx => ?_, h.apart, h.outer⟩
  · rw [List.length_set]
    refine h.out.kept hg ?_
    rcases hb : u.ownBlock with _ | g
    · rcases hv : v.ownBlock with _ | g'
      · exact .inl rfl
      · exact .inr (by simp)
    · exact .inr (h.outer j u g hu hb)
  · rw [List.getElem?_set] at hx
    by_cases hr : j = r
    · subst hr
      rw [if_pos rfl] at hx
      rw [hu] at hu'; obtain rfl := Option.some.inj hu'
      split at hx
      · obtain rfl := Option.some.inj hx; exact hz
      · cases hx
    · rw [if_neg hr] at hx
      have ho := h.row r u' xs hu' hx
      refine ⟨ho.1.kept hg ?_, ho.2⟩
      rcases hb : u'.ownBlock with _ | g
      · exact .inl rfl
      · refine .inr (fun e => hr ?_)
        exact h.apart j r u u' g hu hu' e.symm hb

set_option maxHeartbeats 1000000 in
theorem markTab_in (lo hi n c : Nat) (A : Option Addr) (xss : List (List Int)) (k0 : Int) (w : World) (h : TabIn lo hi w (.slice A n c) xss) (hl : xss.length = n) (hk0 : 0 ≤ k0) (hn : n ≤ 1048576) (hs : k0 + (sumLens xss : Int) ≤ 4611686018427387904) :
    Calls Try.prog 18 #[.slice A n c, .int .i64 k0] w fun e w' => e = .returned (.int .i64 (k0 + (sumLens xss : Int))) ∧ Only lo hi w w' ∧ TabIn lo hi w' (.slice A n c) (marksT k0 xss) ∧ w'.heap.size = w.heap.size := by
  obtain ⟨vs, h⟩ := h
  have HL := Lib.hid hl
  have HN := Lib.hid hn
  have hn' : n ≤ 4611686018427387904 := by omega
  have HS := Lib.hid hs
  have HT := Lib.hid h
  clear hl hn hs h
  go_enter Try.func18, Try.ntmps18
  go_wp2_with fail
  go_loopw [1, 5] (fun kv i wr => ∃ j : Nat, j ≤ n ∧ i = .int .i64 j ∧ kv = .int .i64 (k0 + (sumLens (xss.take j) : Int)) ∧ Only lo hi w wr ∧ TabV lo hi wr (.slice A n c) vs (marksTo j k0 xss) ∧ wr.heap.size = w.heap.size) (fun _ i _ => n - (intOf i).toNat)
  case atStart => exact ⟨0, Nat.zero_le _, rfl, by simp [sumLens], Only.refl _ _ _, by rw [marksTo_0]; exact HT.out, rfl⟩
  case round =>
    obtain ⟨j, hj, rfl, rfl, hon, htab, hsz⟩ := hrel
    have HO := Lib.hid hon
    have HB := Lib.hid htab
    have HZ := Lib.hid hsz
    clear hon hsz htab
    by_cases hlt : j < n
    · obtain ⟨g, u, rfl, hu, hc⟩ := HB.out.cell (r := j) (by rw [marksTo_len, HL.out]; exact hlt)
      obtain ⟨xs, hx⟩ : ∃ xs, xss[j]? = some xs := ⟨xss[j]'(by rw [HL.out]; exact hlt), List.getElem?_eq_getElem (by rw [HL.out]; exact hlt)⟩
      have hrow := HB.out.row j u xs hu (marksTo_at hx)
      obtain ⟨A', c', rfl⟩ := hrow.form
      have HX := Lib.hid hx
      have HU := Lib.hid hu
      have HR := Lib.hid hrow
      have hj0 : (0 : Int) ≤ (j : Int) := by omega
      have hjn : (j : Int) < (n : Int) := by omega
      have hsum := sumLens_snoc hx
      have hsum2 := sumLens_take xss (j + 1)
      have hs := HS.out
      have hb1 : 0 ≤ k0 + (sumLens (xss.take j) : Int) := by omega
      have hb2 : k0 + (sumLens (xss.take j) : Int) + (xs.length : Int) ≤ 4611686018427387904 := by omega
      have HQ := Lib.hid hsum
      clear hx hu hrow hsum hsum2 hs
      go_wp2_with fail
      refine (markInt64S_any lo A' xs.length c' _ _ wr HR.out.1 hb1 hb2).mono ?_
      rintro e w1 ⟨rfl, o1, g1, z1⟩
      have hi1 : IntsIn lo hi w1 (.slice A' xs.length c') (marks (k0 + (sumLens (xss.take j) : Int)) xs.length) := ⟨by rw [marks_length]; exact o1, HR.out.2⟩
      have HB1 := Lib.hid (HB.out.set HU.out (marksTo_at HX.out) g1 hi1)
      have HO1 : Hid (Only lo hi w w1) := Lib.hid (HO.out.trans ⟨g1.os, g1.tape, g1.output, g1.size, fun k hk hb => g1.block k hk (fun e => by
        have h1 := HR.out.2 k e.symm
        have h2 := (HR.out.1.lt k e.symm).1
        omega)⟩)
      have HZ1 := Lib.hid (z1.trans HZ.out)
      clear o1 g1 z1 hi1
      go_wp2_with fail
      go_roundw
      case rel => exact ⟨j + 1, by omega, by go_num, by rw [HQ.out]; go_num, HO1.out, by rw [← marksTo_step HX.out]; exact HB1.out, HZ1.out⟩
      case measure => simp [intOf]; omega
    · go_wp2
      go_ret
      have hjn : j = n := by omega
      subst hjn
      exact ⟨ret_int (by rw [List.take_of_length_le (Nat.le_of_eq HL.out)]), HO.out, ⟨vs, by rw [← marksTo_all HL.out]; exact HB.out⟩, HZ.out⟩

set_option maxHeartbeats 1000000 in
theorem heldTab_any (n c : Nat) (A : Option Addr) (xss : List (List Int)) (k0 : Int) (w : World) (h : RowsAt w A n (marksT k0 xss)) (hl : xss.length = n) (hk0 : 0 ≤ k0) (hn : n ≤ 1048576) (hs : k0 + (sumLens xss : Int) ≤ 4611686018427387904) :
    Calls Try.prog 19 #[.slice A n c, .int .i64 k0] w fun e w' => e = .returned (.int .i64 (k0 + (sumLens xss : Int))) ∧ Below w.heap.size w w' := by
  have HL := Lib.hid hl
  have HN := Lib.hid hn
  have hn' : n ≤ 4611686018427387904 := by omega
  have HS := Lib.hid hs
  have R := h
  clear hl hn hs h
  go_enter Try.func19, Try.ntmps19
  go_wp2_with fail
  go_loop [1, 5] (fun kv i => ∃ j : Nat, j ≤ n ∧ i = .int .i64 j ∧ kv = .int .i64 (k0 + (sumLens (xss.take j) : Int))) (fun _ i => n - (intOf i).toNat)
  case atStart => exact ⟨0, Nat.zero_le _, rfl, by simp [sumLens]⟩
  case round =>
    obtain ⟨j, hj, rfl, rfl⟩ := hrel
    by_cases hlt : j < n
    · obtain ⟨ys, b, off, A', c', hy, hA, hc, hnum⟩ := R.at_ hlt
      subst hA
      obtain ⟨xs, hx⟩ : ∃ xs, xss[j]? = some xs := ⟨xss[j]'(by rw [HL.out]; exact hlt), List.getElem?_eq_getElem (by rw [HL.out]; exact hlt)⟩
      rw [marksT_at hx] at hy
      obtain rfl := Option.some.inj hy
      rw [marks_length] at hc hnum
      have HR := Lib.hid hnum
      have hj0 : (0 : Int) ≤ (j : Int) := by omega
      have hjn : (j : Int) < (n : Int) := by omega
      have hsum := sumLens_snoc hx
      have hsum2 := sumLens_take xss (j + 1)
      have hs := HS.out
      have hb1 : 0 ≤ k0 + (sumLens (xss.take j) : Int) := by omega
      have hb2 : k0 + (sumLens (xss.take j) : Int) + (xs.length : Int) ≤ 4611686018427387904 := by omega
      have hb3 : 0 ≤ k0 + (sumLens (xss.take j) : Int) + (xs.length : Int) := by omega
      have HQ := Lib.hid hsum
      clear hx hy hnum hsum hsum2 hs
      go_wp2_with fail
      refine (heldInt64S_any A' xs.length c' (k0 + (sumLens (xss.take j) : Int)) _ HR.out hb1 hb2).mono ?_
      rintro e w1 ⟨rfl, rfl⟩
      go_wp2_with fail
      go_round
      case rel => exact ⟨j + 1, by omega, by go_num, by rw [HQ.out]; go_num⟩
      case measure => simp [intOf]; omega
    · go_wp2
      go_ret
      have hjn : j = n := by omega
      subst hjn
      exact ⟨ret_int (by rw [List.take_of_length_le (Nat.le_of_eq HL.out)]), Below.refl _ _⟩

theorem markAutomatonT_any (lo hi : Nat) (s : Int) (A : Option Addr) (n c : Nat) (xss : List (List Int)) (k0 : Int) (w : World) (h : TabIn lo hi w (.slice A n c) xss) (hl : xss.length = n) (hk0 : 0 ≤ k0) (hn : n ≤ 1048576) (hs : k0 + (sumLens xss : Int) ≤ 4611686018427387904) :
    Calls Try.prog 17 #[.agg #[.int .i64 s, .slice A n c], .int .i64 k0] w fun e w' => e = .returned (.int .i64 (k0 + (sumLens xss : Int))) ∧ Only lo hi w w' ∧ TabIn lo hi w' (.slice A n c) (marksT k0 xss) := by
  have HL := Lib.hid hl
  have HN := Lib.hid hn
  have HS := Lib.hid hs
  have HT := Lib.hid h
  clear hl hn hs h
  go_enter Try.func17, Try.ntmps17
  go_wp2_with fail
  refine (markTab_in lo hi n c A xss k0 _ (HT.out.below (by go_grown)) HL.out hk0 HN.out HS.out).mono ?_
  rintro e w1 ⟨rfl, o1, t1, z1⟩
  have HO := Lib.hid ((Only.of_below ((Below.refl _ w).alloc (Nat.le_refl _) _) _ _).trans o1)
  have HT1 := Lib.hid t1
  clear o1 z1 t1
  go_wp2_with fail
  go_ret
  exact ⟨rfl, HO.out, HT1.out⟩

/-- The block b begins with the values vs. -/
def Box (w : World) (b : Nat) (vs : List Value) : Prop := ∀ j u, vs[j]? = some u → w.cell? ⟨b, j, none⟩ = some u
theorem Box.new (w : World) (cs : Array Value) (t : TypeId) : Box (w.alloc (.cells cs t)) w.heap.size cs.toList := fun j u hu => by
  rw [cell_of_row _ w.heap.size j _ _ _ (heap_alloc_new w (.cells cs t)), ← Array.getElem?_toList]; exact hu
theorem Box.below {w w' : World} {b : Nat} {vs : List Value} (h : Box w b vs) (hb : Below w.heap.size w w') : Box w' b vs := fun j u hu => (hb.cell (cell_lt (h j u hu))).trans (h j u hu)
theorem Box.only {lo hi : Nat} {w w' : World} {b : Nat} {vs : List Value} (h : Box w b vs) (ho : Only lo hi w w') (hd : b < lo ∨ hi ≤ b) : Box w' b vs := fun j u hu => (ho.cell (cell_lt (h j u hu)) hd).trans (h j u hu)
theorem Box.rule {w : World} {b : Nat} {vs : List Value} (h : Box w b vs) {j : Nat} {u : Value} (hu : vs[j]? = some u) : ∀ W', Below w.heap.size w W' → W'.cell? ⟨b, j, none⟩ = some u := fun _ hb => (hb.cell (cell_lt (h j u hu))).trans (h j u hu)
theorem only_wide' {lo hi lo' hi' : Nat} {a b : World} (h : Only lo hi a b) (h1 : lo' ≤ lo) (h2 : hi ≤ hi') : Only lo' hi' a b := h.wide h1 h2

/-- A function that answers an automaton and a code. -/
def AutosTo (r : Int × List (List Int) × Int) (w : World) (e : Ending) (w' : World) : Prop :=
  ∃ v, e = .returned (.tuple #[.agg #[.int .i64 r.1, v], .int .i64 r.2.2]) ∧ TabIn w.heap.size w'.heap.size w' v r.2.1 ∧ Below w.heap.size w w'
theorem autosTo_mk {r : Int × List (List Int) × Int} {w w' : World} {s c : Int} {xss : List (List Int)} {v : Value} (h : r = (s, xss, c)) (ht : TabIn w.heap.size w'.heap.size w' v xss) (hb : Below w.heap.size w w') :
    AutosTo r w (.returned (.tuple #[.agg #[.int .i64 s, v], .int .i64 c])) w' := by subst h; exact ⟨v, rfl, ht, hb⟩
theorem tab_nil (lo hi : Nat) (w : World) : TabIn lo hi w (.slice none 0 0) [] := by
  refine ⟨[], rfl, World.ownsRow_nil _ _ _ _, fun g hg => ?_, fun r u xs hu => ?_, fun r r' u u' g hu => ?_, fun r u g hu => ?_⟩
  · simp [Value.ownBlock] at hg
  · simp at hu
  · simp at hu
  · simp at hu

end Go.Proofs.Ytcglncepmieaaaa
