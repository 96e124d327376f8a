/-
  The pairs of states with their merging words: the contract of pairWords.
-/
import Derived.Test.YtcglncepmieaaaaPrs
import Derived.Test.YtcglncepmieaaaaPairs
import Derived.Test.YtcglncepmieaaaaTabl
import Derived.Test.YtcglncepmieaaaaMerge
namespace Go.Proofs.Ytcglncepmieaaaa
open Go.RowKit Go.Deep Go.ChangeShapes Go.WideShapes
open Hunt Srch From Moved

/-- A pair of states, its word, and whether there is one. -/
structure PW where
  pair : Nat
  word : List Int
  ok : Bool
def wcells : List PW → List Value → List Value
  | p :: ps, u :: us => .int .u16 (p.pair : Int) :: u :: .bool p.ok :: wcells ps us
  | _, _ => []
theorem wcells_snoc : ∀ (ps : List PW) (us : List Value) (p : PW) (u : Value), ps.length = us.length → wcells (ps ++ [p]) (us ++ [u]) = wcells ps us ++ [.int .u16 (p.pair : Int), u, .bool p.ok]
  | [], [], _, _, _ => rfl
  | [], _ :: _, _, _, h => by simp at h
  | _ :: _, [], _, _, h => by simp at h
  | q :: ps, v :: us, p, u, h => by
    rw [List.cons_append, List.cons_append, wcells, wcells, wcells_snoc ps us p u (by simpa using h)]
    rfl
theorem wcells_at : ∀ {ps : List PW} {us : List Value} {k : Nat} {p : PW} {u : Value}, ps[k]? = some p → us[k]? = some u →
    (wcells ps us)[k * 3]? = some (.int .u16 (p.pair : Int)) ∧ (wcells ps us)[k * 3 + 1]? = some u ∧ (wcells ps us)[k * 3 + 2]? = some (.bool p.ok)
  | [], _, _, _, _, h, _ => by simp at h
  | _ :: _, [], _, _, _, _, h => by simp at h
  | q :: ps, v :: us, 0, p, u, h, h' => by
    simp only [List.getElem?_cons_zero, Option.some.injEq] at h h'
    subst h h'
    exact ⟨rfl, rfl, rfl⟩
  | q :: ps, v :: us, k + 1, p, u, h, h' => by
    simp only [List.getElem?_cons_succ] at h h'
    have := wcells_at h h'
    rw [show (k + 1) * 3 = k * 3 + 3 by omega]
    exact this

/-- The value v is a row of pairs with the words vs, which are lists of their own, in blocks from lo on and below hi. -/
structure PwV (lo hi : Nat) (w : World) (v : Value) (vs : List Value) (ps : List PW) : Prop where
  len : vs.length = ps.length
  out : w.ownsRow lo 76 3 v ps.length (wcells ps vs)
  top : ∀ g, v.ownBlock = some g → g < hi
  row : ∀ (r : Nat) (u : Value) (p : PW), vs[r]? = some u → ps[r]? = some p → IntsIn lo hi w u p.word
  apart : ∀ (r r' : Nat) (u u' : Value) (g : Nat), vs[r]? = some u → vs[r']? = some u' → u.ownBlock = some g → u'.ownBlock = some g → r = r'
  outer : ∀ (r : Nat) (u : Value) (g : Nat), vs[r]? = some u → u.ownBlock = some g → v.ownBlock ≠ some g
theorem pwV_nil (lo hi : Nat) (w : World) : PwV lo hi w (.slice none 0 0) [] [] := by
  refine ⟨rfl, own2_nil _ _ _ _, fun g hg => ?_, fun r u xs hu => ?_, fun r r' u u' g hu => ?_, fun r u g hu => ?_⟩
  · simp [Value.ownBlock] at hg
  · simp at hu
  · simp at hu
  · simp at hu
theorem PwV.below {lo hi : Nat} {w w' : World} {v : Value} {vs : List Value} {ps : List PW} (h : PwV lo hi w v vs ps) (hb : Below w.heap.size w w') : PwV lo hi w' v vs ps :=
  ⟨h.len, own2_below h.out hb, h.top, fun r u p hu hx => (h.row r u p hu hx).below hb, h.apart, h.outer⟩
theorem PwV.wide {lo hi lo' hi' : Nat} {w : World} {v : Value} {vs : List Value} {ps : List PW} (h : PwV lo hi w v vs ps) (h1 : lo' ≤ lo) (h2 : hi ≤ hi') : PwV lo' hi' w v vs ps :=
  ⟨h.len, own2_bs h.out h1, fun g hg => Nat.lt_of_lt_of_le (h.top g hg) h2, fun r u p hu hx => (h.row r u p hu hx).wide h1 h2, h.apart, h.outer⟩
theorem PwV.snoc {lo hi lu hu : Nat} {w w' : World} {v v' u : Value} {vs : List Value} {ps : List PW} {p : PW} (h : PwV lo hi w v vs ps) (hr : IntsIn lu hu w u p.word)
    (ho : w'.ownsRow lo 76 3 v' (ps.length + 1) (wcells (ps ++ [p]) (vs ++ [u]))) (hg : w.grownBy w' v.ownBlock) (hat : v'.ownBlock = v.ownBlock ∨ v'.ownBlock = some w.heap.size)
    (h1 : lo ≤ lu) (h2 : hi ≤ lu) (h3 : hu ≤ w.heap.size) : PwV lo w'.heap.size w' v' (vs ++ [u]) (ps ++ [p]) := by
  have hz := hg.size
  have hvn : ∀ g, v.ownBlock = some g → lo ≤ g ∧ g < hi := fun g e => ⟨(h.out.lt g e).1, h.top g e⟩
  have hun : ∀ g, u.ownBlock = some g → lu ≤ g ∧ g < hu := fun g e => ⟨(hr.1.lt g e).1, hr.2 g e⟩
  have hrn : ∀ (r : Nat) (x : Value) (g : Nat), vs[r]? = some x → x.ownBlock = some g → lo ≤ g ∧ g < hi ∧ g < w.heap.size := fun r x g hx e => by
    have hl : r < ps.length := by
      rw [← h.len]
      rcases Nat.lt_or_ge r vs.length with a | a
      · exact a
      · rw [List.getElem?_eq_none a] at hx; cases hx
    have hi := h.row r x ps[r] hx (List.getElem?_eq_getElem hl)
    exact ⟨(hi.1.lt g e).1, hi.2 g e, (hi.1.lt g e).2⟩
  have hup : IntsIn lo w'.heap.size w' u p.word := by
    refine ⟨own_base (hr.1.kept hg ?_) h1, fun g e => by have := hun g e; omega⟩
    rcases hb : u.ownBlock with _ | g
    · exact .inl rfl
    · refine .inr (fun e => ?_)
      have := hvn g e.symm
      have := hun g hb
      omega
  have hn' : ∀ (r : Nat) (x : Value), (vs ++ [u])[r]? = some x → (r < vs.length ∧ vs[r]? = some x) ∨ (r = vs.length ∧ x = u) := fun r x hx => by
    rcases Nat.lt_or_ge r vs.length with a | a
    · rw [List.getElem?_append_left a] at hx; exact .inl ⟨a, hx⟩
    · rw [List.getElem?_append_right a] at hx
      have hz : r - vs.length = 0 := by
        rcases Nat.eq_zero_or_pos (r - vs.length) with e | e
        · exact e
        · rw [List.getElem?_eq_none (by simp; omega)] at hx; cases hx
      rw [hz] at hx
      exact .inr ⟨by omega, by simpa using hx.symm⟩
  refine ⟨by simp [h.len], by rw [List.length_append]; exact ho, fun g e => (ho.lt g e).2, fun r x q hx hy => ?_, fun r r' x x' g hx hx' e e' => ?_, fun r x g hx e => ?_⟩
  · rcases hn' r x hx with ⟨a, b⟩ | ⟨a, rfl⟩
    · have hl := h.len
      rw [List.getElem?_append_left (by omega)] at hy
      have hi := h.row r x q b hy
      refine ⟨hi.1.kept hg ?_, fun g e => by have := hrn r x g b e; omega⟩
      rcases hb : x.ownBlock with _ | g
      · exact .inl rfl
      · exact .inr (fun e => h.outer r x g b hb e.symm)
    · have hl := h.len
      subst a
      rw [hl, List.getElem?_append_right (Nat.le_refl _), Nat.sub_self] at hy
      simp only [List.getElem?_cons_zero, Option.some.injEq] at hy
      subst hy
      exact hup
  · rcases hn' r x hx with ⟨a, b⟩ | ⟨a, rfl⟩ <;> rcases hn' r' x' hx' with ⟨a', b'⟩ | ⟨a', rfl⟩
    · exact h.apart r r' x x' g b b' e e'
    · have := hrn r x g b e; have := hun g e'; omega
    · have := hrn r' x' g b' e'; have := hun g e; omega
    · omega
  · intro hv'
    rcases hat with hat | hat
    · rw [hat] at hv'
      rcases hn' r x hx with ⟨a, b⟩ | ⟨a, rfl⟩
      · exact h.outer r x g b e hv'
      · have := hvn g hv'; have := hun g e; omega
    · rw [hat] at hv'
      have hgz := Option.some.inj hv'
      rcases hn' r x hx with ⟨a, b⟩ | ⟨a, rfl⟩
      · have := hrn r x g b e; omega
      · have := hun g e; omega
theorem PwV.cells {lo hi : Nat} {w : World} {A : Option Addr} {c k : Nat} {vs : List Value} {ps : List PW} {p : PW} (h : PwV lo hi w (.slice A ps.length c) vs ps) (hk : ps[k]? = some p) :
    ∃ g A' c', A = some ⟨g, 0, none⟩ ∧ w.cell? ⟨g, k * 3, none⟩ = some (.int .u16 (p.pair : Int)) ∧ w.cell? ⟨g, k * 3 + 1, none⟩ = some (.slice A' p.word.length c') ∧ w.cell? ⟨g, k * 3 + 2, none⟩ = some (.bool p.ok) ∧ vs[k]? = some (.slice A' p.word.length c') := by
  have hl := h.len
  have hkl : k < ps.length := by
    rcases Nat.lt_or_ge k ps.length with a | a
    · exact a
    · rw [List.getElem?_eq_none a] at hk; cases hk
  have hu : vs[k]? = some vs[k] := List.getElem?_eq_getElem (by omega)
  obtain ⟨A', c', hv⟩ := own_form (h.row k _ p hu hk).1
  obtain ⟨c1, c2, c3⟩ := wcells_at hk hu
  rcases h.out.2 with ⟨hv0, h0⟩ | ⟨g, cap', cur, hv0, hg, hh, hnc, hcap, hsz, htake⟩
  · omega
  · simp only [Value.slice.injEq] at hv0
    obtain ⟨rfl, _, rfl⟩ := hv0
    have hcell : ∀ i, i < ps.length * 3 → w.cell? ⟨g, i, none⟩ = (wcells ps vs)[i]? := fun i hi => h.out.cellAt i hi
    rw [hv] at c2 hu
    exact ⟨g, A', c', rfl, (hcell _ (by omega)).trans c1, (hcell _ (by omega)).trans c2, (hcell _ (by omega)).trans c3, hu⟩
theorem info_pw : (Try.prog.info? 76).map (fun i => (i.zero, i.size, i.bytes)) = some (some (.agg #[.int .u16 0, .slice none 0 0, .bool false]), 3, 40) := by kernel_rfl
theorem ones_pw (b : Int) (A : Option Addr) (n c : Nat) (o : Bool) : ∀ u ∈ [Value.int .u16 b, .slice A n c, .bool o], u.oneCell' = true := by
  intro u hu
  simp at hu
  rcases hu with rfl | rfl | rfl <;> rfl

/-- A pair with its word. -/
noncomputable def pwO (n m : Nat) (xss : List (List Int)) (b : Nat) : PW := ⟨b, (cutW n m xss b).1, hitB (firstF mergedB (fnd n m xss 400 b))⟩
noncomputable def pwL (n m : Nat) (xss : List (List Int)) : List PW := (prsS (2 ^ n - 1)).map (pwO n m xss)
theorem cut_code (n m : Nat) (xss : List (List Int)) (b : Nat) : ((cutW n m xss b).2 == 0) = hitB (firstF mergedB (fnd n m xss 400 b)) := by
  unfold cutW hitB
  rcases firstF mergedB (fnd n m xss 400 b) with _ | f <;> rfl

set_option maxRecDepth 100000 in
set_option maxHeartbeats 4000000 in
theorem pairWords_any (A : Option Addr) (n m cap : Nat) (xss : List (List Int)) (w : World) (hg : Good n m xss) (hR : RowsAt w A m xss) :
    Calls Try.prog 55 #[.agg #[.int .i64 (n : Int), .slice A m cap]] w fun e w' => ∃ u, e = .returned u ∧ (∃ vs, PwV w.heap.size w'.heap.size w' u vs (pwL n m xss)) ∧ Below w.heap.size w w' := by
  obtain ⟨i0, hi, hz0, hz1, hz2⟩ := info_parts info_pw
  have hn10 : n ≤ 10 := hg.n10
  obtain ⟨w1, hw1⟩ : ∃ w1, w1 = w.alloc (.cells #[.int .i64 (n : Int), .slice A m cap] 28) := ⟨_, rfl⟩
  have b1 : Below w.heap.size w w1 := by rw [hw1]; exact (Below.refl _ _).alloc (Nat.le_refl _) _
  have HBX := Lib.hid (show Box w1 w.heap.size [.int .i64 (n : Int), .slice A m cap] by rw [hw1]; exact Box.new _ _ _)
  have HX := Lib.hid (hR.below b1)
  have HB1 := Lib.hid b1
  have HW := Lib.hid hw1
  have HG := Lib.hid hg
  clear hR b1 hw1 hg
  go_enter Try.func55, Try.ntmps55
  go_wp2_with fail
  rw [← HW.out]
  refine (allStates_any A n m cap w1 hn10).mono ?_
  obtain ⟨F, hF⟩ : ∃ F, F = 2 ^ n - 1 := ⟨_, rfl⟩
  rw [← hF]
  have hF10 : F < 1024 := by have := pow_le hn10; have := Nat.two_pow_pos n; omega
  have HF := Lib.hid hF
  rintro e w2 ⟨rfl, b2⟩
  have HB2 := Lib.hid (below_then HB1.out b2)
  have HX2 := Lib.hid (HX.out.below b2)
  have HBX2 := Lib.hid (Box.below HBX.out b2)
  clear b2 hF
  go_wp2_with fail
  refine (pairs_any F w2 hF10).mono ?_
  rintro e w3 ⟨u, rfl, o3, b3⟩
  obtain ⟨P, hP⟩ : ∃ P, P = prsS F := ⟨_, rfl⟩
  rw [← hP] at o3
  have hPl : P.length ≤ 100 := by rw [hP]; exact prsS_len F
  have HPL := Lib.hid (show ∀ b ∈ P, b < 1024 from fun b hb => by rw [hP] at hb; exact prsS_lt hb)
  have HP := Lib.hid hP
  obtain ⟨A3, C3, rfl⟩ := own2_form o3
  obtain ⟨N, hN⟩ : ∃ N, N = P.length := ⟨_, rfl⟩
  rw [← hN] at o3 hPl ⊢
  have HN := Lib.hid hN
  have HS3 := Lib.hid (show ∀ (k b : Nat), P[k]? = some b → ∃ g, A3 = some ⟨g, 0, none⟩ ∧ w3.cell? ⟨g, k, none⟩ = some (.int .u16 (b : Int)) from fun k b hb => by
    have hk : k < P.length := by
      rcases Nat.lt_or_ge k P.length with a | a
      · exact a
      · rw [List.getElem?_eq_none a] at hb; cases hb
    rcases o3.2 with ⟨hv0, h0⟩ | ⟨g, cap', cur, hv0, hg, hh, hnc, hcap, hsz, htake⟩
    · omega
    · simp only [Value.slice.injEq] at hv0
      obtain ⟨rfl, _, rfl⟩ := hv0
      refine ⟨g, rfl, (o3.cellAt k (by omega)).trans ?_⟩
      rw [List.getElem?_map, hb]
      rfl)
  have HB3 := Lib.hid (below_then HB2.out b3)
  have HX3 := Lib.hid (HX2.out.below b3)
  have HBX3 := Lib.hid (Box.below HBX2.out b3)
  clear b3 hP hN o3
  go_wp2_with fail
  go_loopw [3, 12] (fun ov iv wr => ∃ (k : Nat) (vs : List Value) (Y : List PW), k ≤ N ∧ iv = .int .i64 k ∧ Y = (P.take k).map (pwO n m xss) ∧ Y.length = k ∧ PwV w3.heap.size wr.heap.size wr ov vs Y ∧ Below w3.heap.size w3 wr) (fun _ iv _ => N - (intOf iv).toNat)
  case atStart => exact ⟨0, [], [], Nat.zero_le _, rfl, rfl, rfl, pwV_nil _ _ _, Below.refl _ _⟩
  case round =>
    obtain ⟨k, vs, Y, hk, rfl, hY, hYl, hpw, hbel⟩ := hrel
    obtain ⟨A4, C4, rfl⟩ := own2_form hpw.out
    have HT := Lib.hid hpw
    have HB := Lib.hid hbel
    have HY := Lib.hid hY
    have HYL := Lib.hid hYl
    have hk0 : (0 : Int) ≤ (k : Int) := by omega
    have q0 := (Box.below HBX3.out hbel) 0 _ rfl
    have q1 := (Box.below HBX3.out hbel) 1 _ rfl
    clear hpw hbel hY
    by_cases hlt : k < N
    · have hkn : (k : Int) < (N : Int) := by omega
      obtain ⟨b, hbk⟩ : ∃ b, P[k]? = some b := ⟨P[k]'(by rw [← HN.out]; exact hlt), List.getElem?_eq_getElem _⟩
      obtain ⟨g, rfl, hc⟩ := HS3.out k b hbk
      have hcc := (HB.out.cell (cell_lt hc)).trans hc
      have hb10 := HPL.out b (List.mem_of_getElem? hbk)
      have HBK := Lib.hid hbk
      have hym : Y.length ≤ 100 := by omega
      clear hbk hc hYl
      go_wp2_with fail
      refine (mergingWord_any A n m cap b xss wr HG.out (HX3.out.below HB.out) hb10).mono ?_
      rintro e w4 ⟨u, rfl, o4, b4⟩
      obtain ⟨Z, hZ⟩ : ∃ Z, Z = (cutW n m xss b).1 := ⟨_, rfl⟩
      have HCC := Lib.hid (cut_code n m xss b)
      obtain ⟨cd, hcd⟩ : ∃ cd, cd = (cutW n m xss b).2 := ⟨_, rfl⟩
      obtain ⟨ok, hok⟩ : ∃ ok, ok = hitB (firstF mergedB (fnd n m xss 400 b)) := ⟨_, rfl⟩
      rw [← hZ] at o4
      rw [← hcd, ← hok] at HCC
      rw [← hcd]
      obtain ⟨A5, C5, rfl⟩ := own_form o4
      have HT4 := Lib.hid (HT.out.below b4)
      have HI4 := Lib.hid (IntsIn.of o4)
      have HW4 := Lib.hid (below_then HB.out b4)
      have HLE := Lib.hid (show w3.heap.size ≤ w4.heap.size from HW4.out.size)
      obtain ⟨p, hp⟩ : ∃ p, p = pwO n m xss b := ⟨_, rfl⟩
      have HPP := Lib.hid (show p.pair = b ∧ p.word = Z ∧ p.ok = ok by rw [hp, hZ, hok]; exact ⟨rfl, rfl, rfl⟩)
      have HNX := Lib.hid (show (P.take (k + 1)).map (pwO n m xss) = Y ++ [p] by rw [take_snoc HBK.out, List.map_append, ← HY.out, hp]; rfl)
      have HCD := Lib.hid hcd
      clear o4 b4 hZ hcc q0 q1 hp hok hcd
      go_wp2_with (at_builtin; refine wpList_append_own_at _ rfl _ _ 71 rfl w3.heap.size 76 i0 (.agg #[.int .u16 0, .slice none 0 0, .bool false]) 3 40 Try.underlying71 hi hz0 hz1 hz2 rfl (by decide) _ _ _ rfl (World.ownsRow.alloc HT4.out.out _) ⟨w4.heap.size, 0, none⟩ 1 1 [.int .u16 (b : Int), .slice A5 Z.length C5, .bool (cd == 0)] rfl rfl (World.news_of_block (heap_alloc_new w4 _)) (ones_pw _ _ _ _ _) (by unfold maxLen; omega) (by omega) (by rw [World.size_alloc]; exact Nat.le_succ_of_le HLE.out) ?_)
      rw [HCC.out]
      intro v' w5 hown' hgrow _ hat
      have ba : Below w4.heap.size w4 (w4.alloc (.cells #[.int .u16 (b : Int), .slice A5 Z.length C5, .bool ok] 76)) := (Below.refl _ _).alloc (Nat.le_refl _) _
      have hpp := HPP.out
      have ho5 : w5.ownsRow w3.heap.size 76 3 v' (Y.length + 1) (wcells (Y ++ [p]) (vs ++ [.slice A5 Z.length C5])) := by
        rw [wcells_snoc _ _ _ _ HT.out.len.symm, hpp.1, hpp.2.2]
        exact hown'
      have hpw2 := PwV.snoc (HT4.out.below ba) (p := p) (u := .slice A5 Z.length C5) (by rw [hpp.2.1]; exact HI4.out.below ba) ho5 hgrow (by rw [World.size_alloc]; exact hat) HB.out.size (Nat.le_refl _) (by have := ba.size; omega)
      rw [← HNX.out] at hpw2
      have HT5 := Lib.hid hpw2
      have HB5 := Lib.hid (below_grown (below_then HW4.out ba) hgrow (fun g hg => (HT4.out.out.lt g hg).1))
      have HN2 := Lib.hid (show ((P.take (k + 1)).map (pwO n m xss)).length = k + 1 by rw [HNX.out, List.length_append, HYL.out]; rfl)
      clear hown' hgrow hat ba hpw2 hpp ho5
      go_wp2_with fail
      go_roundw
      case rel => exact ⟨k + 1, _, _, by omega, by go_num, rfl, HN2.out, HT5.out, HB5.out⟩
      case measure => simp [intOf]; omega
    · have hke : k = N := by omega
      have hkn : ¬ (k : Int) < (N : Int) := by omega
      have HK := Lib.hid hke
      clear hke hlt q0 q1 hYl
      go_wp2_with fail
      go_ret
      refine ⟨_, rfl, ⟨vs, ?_⟩, below_then HB3.out HB.out⟩
      have e : pwL n m xss = Y := by rw [HY.out, HK.out, HN.out, List.take_length, HP.out, HF.out]; rfl
      rw [e]
      exact HT.out.wide HB3.out.size (Nat.le_refl _)

end Go.Proofs.Ytcglncepmieaaaa
