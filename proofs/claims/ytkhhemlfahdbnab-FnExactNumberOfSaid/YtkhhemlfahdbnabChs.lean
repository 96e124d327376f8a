/-
  The arrangements of all towns: rows with their capacity; tables of tables of a call's own; the contracts of the model's l05Choices and l05Count.
-/
import Derived.Test.YtkhhemlfahdbnabApp
namespace Go.Proofs.Ytkhhemlfahdbnab
open Go.RowKit Go.Deep Go.ChangeShapes Go.WideShapes

def RowsC (w : World) (A : Option Addr) (n : Nat) (xss : List (List Int)) : Prop :=
  xss.length = n ∧ ∀ (r : Nat) (xs : List Int), xss[r]? = some xs → ∃ b off v, A = some ⟨b, off, none⟩ ∧ w.cell? ⟨b, off + r, none⟩ = some v ∧ CapAt w v xs
theorem RowsC.below {w w' : World} {A : Option Addr} {n : Nat} {xss : List (List Int)} (h : RowsC w A n xss) (hb : Below w.heap.size w w') : RowsC w' A n xss :=
  ⟨h.1, fun r xs hx => by
    obtain ⟨b, off, v, e, hc, hv⟩ := h.2 r xs hx
    exact ⟨b, off, v, e, (hb.cell (cell_lt hc)).trans hc, hv.below hb⟩⟩
theorem RowsC.rows {w : World} {A : Option Addr} {n : Nat} {xss : List (List Int)} (h : RowsC w A n xss) : RowsAt w A n xss :=
  ⟨h.1, fun r xs hx => by
    obtain ⟨b, off, v, e, hc, A', c', rfl, hn, _⟩ := h.2 r xs hx
    exact ⟨b, off, A', c', e, hc, hn⟩⟩
theorem TabIn.rowsC {lo hi : Nat} {w : World} {A : Option Addr} {n c : Nat} {xss : List (List Int)} (h : TabIn lo hi w (.slice A n c) xss) (hn : xss.length = n) : RowsC w A n xss := by
  subst hn
  obtain ⟨vs, h⟩ := h
  refine ⟨rfl, fun r xs hx => ?_⟩
  have hr : r < xss.length := by
    rcases Nat.lt_or_ge r xss.length with a | a
    · exact a
    · rw [List.getElem?_eq_none a] at hx; cases hx
  obtain ⟨g, u, rfl, hu, hc⟩ := h.cell hr
  exact ⟨g, 0, u, rfl, by rw [Nat.zero_add]; exact hc, CapAt.own (h.row r u xs hu hx).1⟩

/-- A table of tables of a call's own: each inner table in blocks of its own, among which the outer row's block is not. -/
structure Tabs3 (lo : Nat) (w : World) (v : Value) (vs : List Value) (X : List (List (List Int))) : Prop where
  len : vs.length = X.length
  out : w.ownsRow lo 22 1 v X.length vs
  row : ∀ (r : Nat) (u : Value) (xss : List (List Int)), vs[r]? = some u → X[r]? = some xss → ∃ l h, lo ≤ l ∧ h ≤ w.heap.size ∧ TabIn l h w u xss ∧ (∀ g, v.ownBlock = some g → g < l ∨ h ≤ g)
theorem TabIn.beside {lo hi : Nat} {w w' : World} {v : Value} {xss : List (List Int)} {row : Option Nat} (h : TabIn lo hi w v xss) (hg : w.grownBy w' row) (hr : ∀ g, row = some g → g < lo ∨ hi ≤ g) : TabIn lo hi w' v xss := by
  obtain ⟨vs, h⟩ := h; exact ⟨vs, h.beside hg hr⟩
theorem Tabs3.below {lo : Nat} {w w' : World} {v : Value} {vs : List Value} {X : List (List (List Int))} (h : Tabs3 lo w v vs X) (hb : Below w.heap.size w w') : Tabs3 lo w' v vs X :=
  ⟨h.len, own_below h.out hb, fun r u xss hu hx => by
    obtain ⟨l, hh, h1, h2, h3, h4⟩ := h.row r u xss hu hx
    exact ⟨l, hh, h1, Nat.le_trans h2 hb.size, h3.below hb, h4⟩⟩
theorem Tabs3.snoc {lo l hh : Nat} {w w' : World} {v v' u : Value} {vs : List Value} {X : List (List (List Int))} {xss : List (List Int)} (h : Tabs3 lo w v vs X) (ht : TabIn l hh w u xss) (hl : lo ≤ l) (hhs : hh ≤ w.heap.size) (hv : ∀ g, v.ownBlock = some g → g < l ∨ hh ≤ g)
    (ho : w'.ownsRow lo 22 1 v' (X.length + 1) (vs ++ [u])) (hg : w.grownBy w' v.ownBlock) (hat : v'.ownBlock = v.ownBlock ∨ v'.ownBlock = some w.heap.size) : Tabs3 lo w' v' (vs ++ [u]) (X ++ [xss]) := by
  have hz := hg.size
  have hnew : ∀ (l h : Nat), h ≤ w.heap.size → (∀ g, v.ownBlock = some g → g < l ∨ h ≤ g) → ∀ g, v'.ownBlock = some g → g < l ∨ h ≤ g := by
    intro l h h1 h2 g hg'
    rcases hat with e | e
    · exact h2 g (by rw [← e]; exact hg')
    · rw [e] at hg'
      have := Option.some.inj hg'
      exact .inr (by omega)
  refine ⟨by simp [h.len], by rw [List.length_append]; exact ho, fun r x ys hx hy => ?_⟩
  rcases Nat.lt_or_ge r vs.length with a | a
  · rw [List.getElem?_append_left a] at hx
    rw [List.getElem?_append_left (by rw [← h.len]; exact a)] at hy
    obtain ⟨l', h', h1, h2, h3, h4⟩ := h.row r x ys hx hy
    exact ⟨l', h', h1, Nat.le_trans h2 hz, h3.beside hg h4, hnew l' h' h2 h4⟩
  · rw [List.getElem?_append_right a] at hx
    rw [List.getElem?_append_right (by rw [← h.len]; exact a)] at hy
    have hr0 : r - vs.length = 0 := by
      rcases Nat.eq_zero_or_pos (r - vs.length) with e | e
      · exact e
      · rw [List.getElem?_eq_none (by simp; omega)] at hx; cases hx
    rw [hr0] at hx
    rw [← h.len, hr0] at hy
    simp at hx hy
    subst hx hy
    exact ⟨l, hh, hl, Nat.le_trans hhs hz, ht.beside hg hv, hnew l hh hhs hv⟩

theorem info_tabs3 : (Try.prog.info? 22).map (fun i => (i.zero, i.size, i.bytes)) = some (some (.slice none 0 0), 1, 24) := by kernel_rfl
def choF (m : Nat) (xss : List (List Int)) : List (List (List Int)) := xss.map (arrF m)
theorem choF_snoc {m k : Nat} {xss : List (List Int)} {xs : List Int} (h : xss[k]? = some xs) : choF m (xss.take (k + 1)) = choF m (xss.take k) ++ [arrF m xs] := by
  unfold choF; rw [take_snoc h, List.map_append]; rfl

set_option maxRecDepth 100000 in
set_option maxHeartbeats 4000000 in
theorem l05Choices_any (p n m cap : Nat) (A : Option Addr) (xss : List (List Int)) (w : World) (hg : GoodR n m xss) (c1 : w.cell? ⟨p, 1, none⟩ = some (.slice A n cap)) (h : RowsC w A n xss) :
    Calls Try.prog 69 #[.pointer (some ⟨p, 0, none⟩)] w fun e w' => ∃ u vs, e = .returned u ∧ Tabs3 w.heap.size w' u vs (choF m xss) ∧ Below w.heap.size w w' := by
  obtain ⟨i2, hi2, hq0, hq1, hq2⟩ := info_parts info_tabs3
  have HG := Lib.hid hg
  have HH := Lib.hid h
  have C1 := Lib.hid c1
  have hn7 := hg.n7
  have hm3 := hg.m3
  have HL := Lib.hid hg.len
  clear hg h c1
  go_enter Try.func69, Try.ntmps69
  go_wp2_with fail
  go_loopw [3, 4] (fun v i wr => ∃ (k : Nat) (vs : List Value) (X : List (List (List Int))), k ≤ n ∧ i = .int .i64 k ∧ X = choF m (xss.take k) ∧ Tabs3 w.heap.size wr v vs X ∧ Below w.heap.size w wr) (fun _ i _ => n - (intOf i).toNat)
  case atStart => exact ⟨0, [], [], Nat.zero_le _, rfl, by simp [choF], ⟨rfl, World.ownsRow_lit (e := 22) w #[] 0 (Nat.le_refl _) (Nat.zero_le _) rfl, fun r u ys hu => by simp at hu⟩, (Below.refl _ _).alloc (Nat.le_refl _) _⟩
  case round =>
    obtain ⟨k, vs, X, hk, rfl, hX, htab, hbel⟩ := hrel
    obtain ⟨A3, c3, rfl⟩ := own_form htab.out
    have hxl : X.length = k := by rw [hX]; unfold choF; rw [List.length_map, List.length_take, HL.out]; omega
    have HX := Lib.hid hX
    have HXL := Lib.hid hxl
    have HT := Lib.hid htab
    have HB := Lib.hid hbel
    have d1 := (hbel.cell (cell_lt C1.out)).trans C1.out
    clear hX htab hxl
    by_cases hlt : k < n
    · obtain ⟨row, hrow, hrl, hrb, _⟩ := HG.out.row k hlt
      obtain ⟨b, off, v, rfl, hcr, hcv⟩ := (HH.out.below hbel).2 k row hrow
      obtain ⟨A7, c7, rfl, hn7', hc7, hz7⟩ := hcv
      have HCV := Lib.hid (show CapAt wr (.slice A7 row.length c7) row from ⟨A7, c7, rfl, hn7', hc7, hz7⟩)
      have HSN := Lib.hid (choF_snoc (m := m) hrow)
      have HRL := Lib.hid hrl
      have ik0 : (0 : Int) ≤ (k : Int) := by omega
      have ik1 : (k : Int) < (n : Int) := by omega
      clear hrow hrl hrb hn7' hc7 hz7 hbel
      go_wp2_with fail
      refine (l05Arrange_any m (.slice A7 row.length c7) row wr HRL.out hm3 HCV.out).mono ?_
      rintro e w1 ⟨u, rfl, t1, b1⟩
      obtain ⟨A5, c5, rfl⟩ := t1.form
      obtain ⟨L, hL⟩ : ∃ L, L = arrF m row := ⟨_, rfl⟩
      rw [← hL] at t1 ⊢
      have HLL := Lib.hid hL
      have T1 := Lib.hid t1
      have B1 := Lib.hid b1
      have HT1 := Lib.hid (HT.out.below b1)
      have HLE := Lib.hid (show w.heap.size ≤ w1.heap.size from Nat.le_trans HB.out.size b1.size)
      have hxl7 : X.length ≤ 7 := by rw [HXL.out]; omega
      have HVB := Lib.hid (fun g (hg : (Value.slice A3 X.length c3).ownBlock = some g) => (HT.out.out.lt g hg).2)
      clear t1 b1 hL hcr d1
      go_wp2_with (at_builtin; refine wpList_append_own_at _ rfl _ _ 51 rfl w.heap.size 22 i2 (.slice none 0 0) 1 24 Try.underlying51 hi2 hq0 hq1 hq2 rfl (by decide) _ _ _ rfl (World.ownsRow.alloc HT1.out.out _) ⟨w1.heap.size, 0, none⟩ 1 1 [.slice A5 L.length c5] rfl rfl (cell_one_new _ _ _) (by simp [Value.oneCell']) (by unfold maxLen; omega) (by omega) (by rw [World.size_alloc]; exact Nat.le_succ_of_le HLE.out) ?_)
      intro v' w2 hown' hgrow _ hat
      have ba : Below w1.heap.size w1 (w1.alloc (.cells #[.slice A5 L.length c5] 22)) := (Below.refl _ _).alloc (Nat.le_refl _) _
      have htab2 := Tabs3.snoc (HT1.out.below ba) (T1.out.below ba) HB.out.size ba.size (fun g hg => .inl (HVB.out g hg)) hown' hgrow (by rw [World.size_alloc]; exact hat)
      have HT2 := Lib.hid htab2
      have HB2 := Lib.hid (below_grown (below_then HB.out (below_then B1.out ba)) hgrow (fun q hq => (HT.out.out.lt q hq).1))
      clear hown' hgrow hat ba htab2
      go_wp2_with fail
      go_roundw
      case rel => exact ⟨k + 1, _, X ++ [L], by omega, by go_num, by rw [HSN.out, HLL.out, HX.out], HT2.out, HB2.out⟩
      case measure => simp [intOf]; omega
    · have hkn : k = n := by omega
      have HKN := Lib.hid hkn
      clear hkn hbel
      go_wp2_with fail
      go_ret
      refine ⟨_, vs, rfl, ?_, HB.out⟩
      have hx : X = choF m xss := by rw [HX.out, HKN.out, List.take_of_length_le (by rw [HL.out]; exact Nat.le_refl _)]
      rw [← hx]
      exact HT.out

/-- How many colourings the first k towns have. -/
def cntC (X : List (List (List Int))) : Nat → Nat
  | 0 => 1
  | k + 1 => cntC X k * (X.getD k []).length
theorem cntC_le {X : List (List (List Int))} (h : ∀ x ∈ X, x.length ≤ 6) : ∀ k, cntC X k ≤ 6 ^ k
  | 0 => Nat.le_refl _
  | k + 1 => by
    have ih := cntC_le h k
    have h2 : (X.getD k []).length ≤ 6 := by
      rw [List.getD_eq_getElem?_getD]
      rcases hx : X[k]? with _ | x
      · exact Nat.zero_le _
      · exact h x (List.mem_of_getElem? hx)
    rw [cntC, Nat.pow_succ]
    exact Nat.mul_le_mul ih h2
theorem cntC_small {X : List (List (List Int))} (h : ∀ x ∈ X, x.length ≤ 6) {k : Nat} (hk : k ≤ 7) : cntC X k ≤ 279936 := by
  refine Nat.le_trans (cntC_le h k) ?_
  exact Nat.le_trans (Nat.pow_le_pow_right (by decide) hk) (by decide)
theorem choF_le {m : Nat} (hm : m ≤ 3) (xss : List (List Int)) : ∀ x ∈ choF m xss, x.length ≤ 6 := by
  intro x hx
  unfold choF at hx
  rw [List.mem_map] at hx
  obtain ⟨y, _, rfl⟩ := hx
  exact arrF_len6 hm y

set_option maxRecDepth 100000 in
set_option maxHeartbeats 2000000 in
theorem l05Count_any (lo n c : Nat) (A : Option Addr) (vs : List Value) (X : List (List (List Int))) (w : World) (h : Tabs3 lo w (.slice A n c) vs X) (hn : X.length = n) (hn7 : n ≤ 7) (hX : ∀ x ∈ X, x.length ≤ 6) :
    Calls Try.prog 68 #[.slice A n c] w fun e w' => e = .returned (.int .i64 (cntC X n : Int)) ∧ w = w' := by
  have HL := Lib.hid hn
  have HH := Lib.hid h
  have HXX := Lib.hid hX
  clear h hn hX
  go_enter Try.func68, Try.ntmps68
  go_wp2_with fail
  go_loop [3, 4] (fun u i => ∃ k : Nat, k ≤ n ∧ i = .int .i64 k ∧ u = .int .i64 (cntC X k : Int)) (fun _ i => n - (intOf i).toNat)
  case atStart => exact ⟨0, Nat.zero_le _, rfl, rfl⟩
  case round =>
    obtain ⟨k, hk, rfl, rfl⟩ := hrel
    by_cases hlt : k < n
    · obtain ⟨xss, hx⟩ : ∃ xss, X[k]? = some xss := ⟨X[k]'(by rw [HL.out]; exact hlt), List.getElem?_eq_getElem _⟩
      obtain ⟨u, hu⟩ : ∃ u, vs[k]? = some u := ⟨vs[k]'(by rw [HH.out.len, HL.out]; exact hlt), List.getElem?_eq_getElem _⟩
      obtain ⟨l, hh, _, _, ht, _⟩ := HH.out.row k u xss hu hx
      obtain ⟨A5, c5, rfl⟩ := ht.form
      have ho := HH.out.out
      rw [HL.out] at ho
      obtain ⟨g, rfl, _, _⟩ := own_blockN ho (by omega)
      have hc : w.cell? ⟨g, k, none⟩ = some (.slice A5 xss.length c5) := by rw [ho.cellAt k (by omega)]; exact hu
      have hs := cntC_small HXX.out (show k + 1 ≤ 7 by omega)
      have hcs : cntC X (k + 1) = cntC X k * xss.length := by rw [cntC, List.getD_eq_getElem?_getD, hx]; rfl
      have hcz : ((cntC X k : Nat) : Int) * (xss.length : Int) = ((cntC X (k + 1) : Nat) : Int) := by rw [hcs]; exact (Int.natCast_mul _ _).symm
      obtain ⟨CN, hCN⟩ : ∃ CN : Int, CN = ((cntC X (k + 1) : Nat) : Int) := ⟨_, rfl⟩
      have hwr : IntKind.i64.wrap (((cntC X k : Nat) : Int) * (xss.length : Int)) = CN := by rw [hcz, hCN]; exact IntWalk.i64_in _ (by omega)
      have HCN := Lib.hid hCN
      have ik0 : (0 : Int) ≤ (k : Int) := by omega
      have ik1 : (k : Int) < (n : Int) := by omega
      clear hx hu ht ho hs hcs hcz hCN
      go_wp2_with fail
      go_round
      case rel => exact ⟨k + 1, by omega, by go_num, by rw [HCN.out]⟩
      case measure => simp [intOf]; omega
    · have hkn : k = n := by omega
      subst hkn
      go_wp2_with fail
      go_ret
      exact ⟨rfl, rfl⟩

end Go.Proofs.Ytkhhemlfahdbnab
