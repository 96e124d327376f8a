/-
  The colouring with a number, in the model: the contract of l05At.
-/
import Derived.Test.YtkhhemlfahdbnabTowns
import Derived.Test.YtkhhemlfahdbnabBuild
import Derived.StillTailTactics
namespace Go.Proofs.Ytkhhemlfahdbnab
open Go.RowKit Go.Deep Go.ChangeShapes Go.WideShapes

/-- The arrangement of the town s in the colouring with the number N. -/
def colF (X : List (List (List Int))) (n N s : Nat) : List Int := (X.getD s []).getD ((N / uD X n (n - 1 - s)) % (X.getD s []).length) []
def colX (X : List (List (List Int))) (n N x s : Nat) : Int := (colF X n N s).getD x 0
/-- Arrangements of n towns with m roads each. -/
structure GoodX (n m : Nat) (X : List (List (List Int))) : Prop where
  len : X.length = n
  n1 : 1 ≤ n
  n7 : n ≤ 7
  m1 : 1 ≤ m
  m3 : m ≤ 3
  some_ : ∀ s, s < n → 1 ≤ (X.getD s []).length ∧ (X.getD s []).length ≤ 6
  rows : ∀ s, s < n → ∀ l ∈ X.getD s [], l.length = m
theorem GoodX.all {n m : Nat} {X : List (List (List Int))} (h : GoodX n m X) : ∀ x ∈ X, x.length ≤ 6 := by
  intro x hx
  obtain ⟨i, hi, he⟩ := List.mem_iff_getElem.1 hx
  have := (h.some_ i (by rw [← h.len]; exact hi)).2
  rw [List.getD_eq_getElem?_getD, List.getElem?_eq_getElem hi, he] at this
  exact this
theorem GoodX.pos {n m : Nat} {X : List (List (List Int))} (h : GoodX n m X) : ∀ d, d ≤ n → 1 ≤ uD X n d
  | 0, _ => Nat.le_refl _
  | d + 1, hd => by
    have h1 := h.pos d (by omega)
    have h2 := (h.some_ (n - 1 - d) (by omega)).1
    rw [uD]
    exact Nat.mul_pos h1 h2
theorem getD_mem {Y : List (List Int)} {i : Nat} (h : i < Y.length) : Y[i]? = some (Y.getD i []) ∧ Y.getD i [] ∈ Y := by
  have e : Y[i]? = some Y[i] := List.getElem?_eq_getElem h
  have e2 : Y.getD i [] = Y[i] := by rw [List.getD_eq_getElem?_getD, e]; rfl
  exact ⟨by rw [e2]; exact e, by rw [e2]; exact List.getElem_mem h⟩
theorem GoodX.at_ {n m N s : Nat} {X : List (List (List Int))} (h : GoodX n m X) (hs : s < n) : (N / uD X n (n - 1 - s)) % (X.getD s []).length < (X.getD s []).length ∧ (X.getD s [])[(N / uD X n (n - 1 - s)) % (X.getD s []).length]? = some (colF X n N s) ∧ (colF X n N s).length = m := by
  have h1 : (N / uD X n (n - 1 - s)) % (X.getD s []).length < (X.getD s []).length := Nat.mod_lt _ (h.some_ s hs).1
  obtain ⟨e1, e2⟩ := getD_mem h1
  exact ⟨h1, e1, h.rows s hs _ e2⟩
theorem uD_step (X : List (List (List Int))) (n N d : Nat) : N / uD X n d / (X.getD (n - 1 - d) []).length = N / uD X n (d + 1) := by rw [uD, Nat.div_div_eq_div_mul]

theorem only_of_below5 {B : Nat} {w w' : World} (h : Below B w w') : Only B w.heap.size w w' := ⟨h.os, h.tape, h.output, h.size, fun k hk hb => h.block k (by omega)⟩
theorem tabV_nil5 (lo hi : Nat) (w : World) (n : Nat) (f : Nat → Nat → Int) : TabV lo hi w (.slice none 0 0) [] (rowsF n f 0) := by
  refine ⟨rfl, World.ownsRow_nil _ _ _ _, fun g hg => ?_, fun r u xs hu => ?_, fun r r' u u' g hu => ?_, fun r u g hu => ?_⟩
  · simp [Value.ownBlock] at hg
  · simp at hu
  · simp at hu
  · simp at hu

/-- The lists of the last d towns stand in a row of the call's own. -/
def LstAt (G n d m N : Nat) (X : List (List (List Int))) (w wr : World) : Prop :=
  ∃ cs : List Value, wr.ownsRow G 64 1 (.slice (some ⟨G, 0, none⟩) n n) n cs ∧ ∀ q, n - d ≤ q → q < n → ∃ A c, cs[q]? = some (.slice A m c) ∧ NumsAt w A m (colF X n N q)
theorem LstAt.drew {G n d m N : Nat} {X : List (List (List Int))} {w wr : World} (h : LstAt G n d m N X w wr) (k : Nat) : LstAt G n d m N X w (wr.drewN k) := h
theorem LstAt.store {G n d m N : Nat} {X : List (List (List Int))} {w wr : World} {A : Option Addr} {c : Nat} (h : LstAt G n d m N X w wr) (hd : d < n) (ha : NumsAt w A m (colF X n N (n - 1 - d))) : LstAt G n (d + 1) m N X w (wr.setCell ⟨G, n - 1 - d, none⟩ (.slice A m c)) := by
  obtain ⟨cs, h1, h2⟩ := h
  have hl := h1.1
  refine ⟨_, (h1.stored (n - 1 - d) (.slice A m c)).1, fun q hq hn => ?_⟩
  by_cases he : q = n - 1 - d
  · subst he
    exact ⟨A, c, by rw [List.getElem?_set_self (by omega)], ha⟩
  · obtain ⟨A', c', e1, e2⟩ := h2 q (by omega) hn
    exact ⟨A', c', by rw [List.getElem?_set_ne (by omega)]; exact e1, e2⟩
theorem LstAt.rows {G n m N : Nat} {X : List (List (List Int))} {w wr : World} (hg : GoodX n m X) (h : LstAt G n n m N X w wr) (hb : Below w.heap.size w wr) : RowsAt wr (some ⟨G, 0, none⟩) n ((List.range n).map (colF X n N)) := by
  obtain ⟨cs, h1, h2⟩ := h
  refine ⟨by simp, fun r xs hx => ?_⟩
  rw [List.getElem?_map] at hx
  rcases Nat.lt_or_ge r n with hr | hr
  · rw [List.getElem?_range hr] at hx
    obtain rfl := Option.some.inj hx
    obtain ⟨A, c, e1, e2⟩ := h2 r (by omega) hr
    have hl := (hg.at_ (N := N) hr).2.2
    refine ⟨G, 0, A, c, rfl, ?_, ?_⟩
    · rw [Nat.zero_add, h1.cellAt r (by omega), e1, hl]
    · rw [hl]; exact e2.below hb
  · rw [List.getElem?_eq_none (by simpa using hr)] at hx
    cases hx

set_option maxRecDepth 100000 in
set_option maxHeartbeats 8000000 in
theorem l05At_any (lo n m c N : Nat) (A : Option Addr) (vs : List Value) (X : List (List (List Int))) (w : World) (hg : GoodX n m X) (h : Tabs3 lo w (.slice A n c) vs X) (hN : N ≤ 1000000) :
    Calls Try.prog 76 #[.slice A n c, .int .i64 (N : Int)] w fun e w' => ∃ v, e = .returned (.agg #[.int .i64 (n : Int), v]) ∧ TabIn w.heap.size w'.heap.size w' v (rowsF n (colX X n N) m) ∧ Below w.heap.size w w' := by
  obtain ⟨i0, hi, hz0, hz1, hz2⟩ := info_parts info_int64
  obtain ⟨i1, hi1, hy0, hy1, hy2⟩ := info_parts info_ints
  have HG := Lib.hid hg
  have hn1 := hg.n1
  have hn7 := hg.n7
  have hm1 := hg.m1
  have hm3 := hg.m3
  have HL := Lib.hid hg.len
  have HH := Lib.hid h
  obtain ⟨w1, hw1⟩ : ∃ w1, w1 = w.alloc (.cells #[.int .i64 0, .slice none 0 0] 33) := ⟨_, rfl⟩
  have b1 : Below w.heap.size w w1 := by rw [hw1]; exact (Below.refl _ _).alloc (Nat.le_refl _) _
  have x0 : w1.heap[w.heap.size]? = some (.cells #[.int .i64 0, .slice none 0 0] 33 (0, 0)) := by rw [hw1]; exact heap_alloc_new _ _
  have hs1 : w1.heap.size = w.heap.size + 1 := by rw [hw1]; simp
  have hmk := run_make_row' (P := Try.prog) 22 64 (.slice none 0 0) 24 Try.underlying22 info_ints rfl .i64 .i64 n (by omega) (by omega) w1
  obtain ⟨w2, hw2⟩ : ∃ w2, w2 = w1.alloc (.cells (madeCells #[.slice none 0 0] n) 64) := ⟨_, rfl⟩
  have b2 : Below w1.heap.size w1 w2 := by rw [hw2]; exact (Below.refl _ _).alloc (Nat.le_refl _) _
  have HL0 := Lib.hid (show LstAt w1.heap.size n 0 m N X w w2 from ⟨(madeCells #[.slice none 0 0] n).toList, by rw [hw2]; exact World.ownsRow_lit w1 _ n (Nat.le_refl _) (by unfold maxLen; omega) (by rw [size_madeCells, Nat.mul_one]), fun q hq hn => absurd hn (by omega)⟩)
  have X2 := Lib.hid ((b2.block _ (block_lt x0)).trans x0)
  have B2 := Lib.hid (below_then b1 b2)
  have HS2 := Lib.hid (show w2.heap.size = w.heap.size + 2 by rw [hw2, World.size_alloc, hs1])
  have HS1 := Lib.hid hs1
  have hwr : IntKind.i64.wrap ((n : Int) - 1) = (n : Int) - 1 := IntWalk.i64_in _ (by omega)
  rw [← hw2] at hmk
  rw [hw1] at hmk
  clear hg h hw1 hw2 b1 b2 x0 hs1
  go_enter Try.func76, Try.ntmps76
  go_wp2_with fail
  clear hmk hwr
  go_loopw [1, 7] (fun nv iv wr => ∃ d : Nat, d ≤ n ∧ iv = .int .i64 ((n : Int) - 1 - (d : Int)) ∧ nv = .int .i64 ((N / uD X n d : Nat) : Int) ∧ LstAt (w.heap.size + 1) n d m N X w wr ∧ wr.heap[w.heap.size]? = some (.cells #[.int .i64 0, .slice none 0 0] 33 (0, 0)) ∧ Below w.heap.size w wr ∧ wr.heap.size = w.heap.size + 2) (fun _ iv _ => (intOf iv + 1).toNat)
  case atStart => exact ⟨0, Nat.zero_le _, by simp, by simp [uD], by rw [← HS1.out]; exact HL0.out, X2.out, B2.out, HS2.out⟩
  case round =>
    obtain ⟨d, hd, rfl, rfl, hlst, hres, hbel, hsz⟩ := hrel
    have HLS := Lib.hid hlst
    have HRS := Lib.hid hres
    have HB := Lib.hid hbel
    have HSZ := Lib.hid hsz
    clear hlst hres hsz HL0 X2 B2 HS2
    by_cases hlt : d < n
    · obtain ⟨k, hk⟩ : ∃ k, k = n - 1 - d := ⟨_, rfl⟩
      have hik : (n : Int) - 1 - (d : Int) = (k : Int) := by omega
      rw [hik]
      have hkn : k < n := by omega
      have HKE := Lib.hid hk
      obtain ⟨hp1, hp6⟩ := HG.out.some_ k hkn
      obtain ⟨ha1, ha2, ha3⟩ := HG.out.at_ (N := N) hkn
      have hdk : n - 1 - k = d := by omega
      rw [hdk] at ha1 ha2
      obtain ⟨Y, hY⟩ : ∃ Y, Y = X.getD k [] := ⟨_, rfl⟩
      rw [← hY] at hp1 hp6 ha1 ha2
      obtain ⟨Q, hQ⟩ : ∃ Q, Q = N / uD X n d := ⟨_, rfl⟩
      rw [← hQ] at ha1 ha2 ⊢
      have hq0 : Q ≤ 1000000 := by rw [hQ]; exact Nat.le_trans (Nat.div_le_self _ _) hN
      obtain ⟨P, hP⟩ : ∃ P, P = Q % Y.length := ⟨_, rfl⟩
      rw [← hP] at ha1 ha2
      have hxk : X[k]? = some Y := by
        rw [hY, List.getElem?_eq_getElem (by rw [HL.out]; exact hkn), List.getD_eq_getElem?_getD, List.getElem?_eq_getElem (by rw [HL.out]; exact hkn)]
        rfl
      obtain ⟨u, hu⟩ : ∃ u, vs[k]? = some u := ⟨vs[k]'(by rw [HH.out.len, HL.out]; exact hkn), List.getElem?_eq_getElem _⟩
      obtain ⟨l, hh, _, _, ht, _⟩ := HH.out.row k u Y hu hxk
      obtain ⟨A5, c5, rfl⟩ := ht.form
      have ho := HH.out.out
      rw [HL.out] at ho
      obtain ⟨g, hAg, _, _⟩ := own_blockN ho (by omega)
      subst hAg
      have hc0 : w.cell? ⟨g, k, none⟩ = some (.slice A5 Y.length c5) := by rw [ho.cellAt k (by omega)]; exact hu
      obtain ⟨b6, off6, A6, c6, hA6, hc6, hn6⟩ := (ht.rows rfl).2 P _ ha2
      rw [ha3] at hc6 hn6
      subst hA6
      have e0 := (hbel.cell (cell_lt hc0)).trans hc0
      have e6 := (hbel.cell (cell_lt hc6)).trans hc6
      have HN6 := Lib.hid hn6
      have hst := HLS.out.store (c := c6) hlt (by rw [← hk]; exact hn6)
      rw [← hk] at hst
      have HST := Lib.hid hst
      obtain ⟨cs, hr1, _⟩ := HLS.out
      have hcl := hr1.1
      obtain ⟨u0, hu0⟩ : ∃ u, wr.cell? ⟨w.heap.size + 1, k, none⟩ = some u := ⟨cs[k]'(by omega), by rw [hr1.cellAt k (by omega)]; exact List.getElem?_eq_getElem _⟩
      have f0 : wr.frozen? ⟨w.heap.size + 1, k, none⟩ = false := hr1.frozenAt _
      have i1 : (0 : Int) ≤ (k : Int) := by omega
      have i2 : (k : Int) < (n : Int) := by omega
      have i3 : (0 : Int) ≤ (P : Int) := by omega
      have i4 : (P : Int) < (Y.length : Int) := by omega
      obtain ⟨D, hD⟩ : ∃ D, D = Q / Y.length := ⟨_, rfl⟩
      have hds : D = N / uD X n (d + 1) := by rw [hD, hQ, hY, hk, uD_step]
      have HDS := Lib.hid hds
      have hD0 : D ≤ 1000000 := by rw [hD]; exact Nat.le_trans (Nat.div_le_self _ _) hq0
      have hdiv : (Q : Int).tdiv (Y.length : Int) = (D : Int) := by rw [hD, Int.tdiv_eq_ediv_of_nonneg (by omega), Int.natCast_ediv]
      have hmod : (Q : Int).tmod (Y.length : Int) = (P : Int) := by rw [hP, Int.tmod_eq_emod_of_nonneg (by omega), Int.natCast_emod]
      have hdiv' : (Q : Int) / (Y.length : Int) = (D : Int) := by rw [hD, Int.natCast_ediv]
      have hmod' : (Q : Int) % (Y.length : Int) = (P : Int) := by rw [hP, Int.natCast_emod]
      have hne : ((Y.length : Int) == 0) = false := by rw [beq_eq_false_iff_ne]; omega
      have hdec : IntKind.i64.wrap ((k : Int) - 1) = (k : Int) - 1 := IntWalk.i64_in _ (by omega)
      have hB2 := Lib.hid hbel
      have HQ := Lib.hid hQ
      have HP := Lib.hid hP
      have HY := Lib.hid hY
      clear hst hr1 hcl hp1 hp6 ha1 ha2 ha3 hk hQ hP hY hxk hu ht ho hc0 hc6 hn6 hik hdk hbel hD hds
      go_wp2_with fail
      go_region
      go_wp2_with fail
      go_roundw
      case rel =>
        have hke := HKE.out
        refine ⟨d + 1, by omega, by go_num, by rw [← HDS.out], HST.out, ?_, ?_, ?_⟩
        · show (wr.setCell ⟨w.heap.size + 1, k, none⟩ (.slice A6 m c6)).heap[w.heap.size]? = _
          rw [heap_setCell_other wr ⟨w.heap.size + 1, k, none⟩ w.heap.size _ (by simp)]
          exact HRS.out
        · exact below_drewN' (hB2.out.setCell (by simp) _) 1
        · show (wr.setCell ⟨w.heap.size + 1, k, none⟩ (.slice A6 m c6)).heap.size = _
          rw [World.size_setCell]; exact HSZ.out
      case measure => simp [intOf] <;> omega
    · have hde : d = n := by omega
      have hneg : ¬ (0 : Int) ≤ (n : Int) - 1 - (d : Int) := by omega
      have hlr := HLS.out
      rw [hde] at hlr
      have hrows := hlr.rows HG.out hbel
      obtain ⟨LL, hLL⟩ : ∃ LL, LL = (List.range n).map (colF X n N) := ⟨_, rfl⟩
      rw [← hLL] at hrows
      have hll : ∀ q, q < n → LL[q]? = some (colF X n N q) := fun q hq => by rw [hLL, List.getElem?_map, List.getElem?_range hq]; rfl
      have hl0 := (HG.out.at_ (N := N) (show 0 < n by omega)).2.2
      -- from here on the world is w5: what comes is behind it
      obtain ⟨w5, hw5⟩ : ∃ w5, w5 = wr := ⟨_, rfl⟩
      have HW5 := Lib.hid hw5
      rw [← hw5] at hrows hbel ⊢
      have HRW := Lib.hid hrows
      have HLL := Lib.hid hll
      have HL0' := Lib.hid hl0
      have B5 := Lib.hid hbel
      have HRS5 := Lib.hid (show w5.heap[w.heap.size]? = some (.cells #[.int .i64 0, .slice none 0 0] 33 (0, 0)) by rw [hw5]; exact HRS.out)
      have HZ5 := Lib.hid (show w5.heap.size = w.heap.size + 2 by rw [hw5]; exact HSZ.out)
      obtain ⟨w6, hw6⟩ : ∃ w6, w6 = w5.alloc (.cells #[.int .i64 (n : Int), .slice none 0 0] 33) := ⟨_, rfl⟩
      have b6 : Below w5.heap.size w5 w6 := by rw [hw6]; exact (Below.refl _ _).alloc (Nat.le_refl _) _
      have HX6 := Lib.hid (show w6.heap[w5.heap.size]? = some (.cells #[.int .i64 (n : Int), .slice none 0 0] 33 (0, 0)) by rw [hw6]; exact heap_alloc_new _ _)
      have B6 := Lib.hid b6
      have HZ6 := Lib.hid (show w6.heap.size = w5.heap.size + 1 by rw [hw6, World.size_alloc])
      have HW6 := Lib.hid hw6
      clear hde hlr hbel hll hl0 hLL hw5 hw6 b6 hrows HLS HRS HSZ HB
      go_wp2_with fail
      rw [← HW6.out]
      go_loopw [10] (fun i wr => ∃ (k : Nat) (v : Value) (vs' : List Value), k ≤ m ∧ i = .int .i64 k ∧ wr.heap[w5.heap.size]? = some (.cells #[.int .i64 (n : Int), v] 33 (0, 0)) ∧
          TabV (w5.heap.size + 1) wr.heap.size wr v vs' (rowsF n (colX X n N) k) ∧ Below w5.heap.size w5 wr ∧ w5.heap.size + 1 ≤ wr.heap.size) (fun i _ => m - (intOf i).toNat)
      case atStart => exact ⟨0, .slice none 0 0, [], Nat.zero_le _, rfl, HX6.out, tabV_nil5 _ _ _ _ _, B6.out, by rw [HZ6.out]; exact Nat.le_refl _⟩
      case round =>
        obtain ⟨k, v, vs', hk, rfl, hx1, htab, hbel, hlo⟩ := hrel
        obtain ⟨A3, c3, rfl⟩ := own_form htab.out
        obtain ⟨b0, off0, A0, c0, he0, hc0, _⟩ := (HRW.out.below hbel).2 0 _ (HLL.out 0 (by omega))
        rw [HL0'.out] at hc0
        simp only [Option.some.injEq, Addr.mk.injEq, and_true] at he0
        obtain ⟨rfl, rfl⟩ := he0
        rw [Nat.add_zero] at hc0
        have HX1 := Lib.hid hx1
        have HT := Lib.hid htab
        have HB := Lib.hid hbel
        have HLO := Lib.hid hlo
        have j0 : (0 : Int) < (n : Int) := by omega
        by_cases hlt : k < m
        · have j1 : (0 : Int) ≤ (k : Int) := by omega
          have j2 : (k : Int) < (m : Int) := by omega
          clear hx1 htab hbel hlo
          obtain ⟨G9, hG9⟩ : ∃ G9, G9 = wr.heap.size := ⟨_, rfl⟩
          have HG9 := Lib.hid hG9
          have hb1 : Below wr.heap.size wr (wr.alloc (.cells #[] 2)) := (Below.refl _ _).alloc (Nat.le_refl _) _
          have HN0 := Lib.hid (own_none' (w := wr) (base := G9) (g := G9) hG9 (Nat.le_of_eq hG9))
          have HT1 := Lib.hid (HT.out.below hb1)
          have HY1 := Lib.hid ((hb1.block _ (block_lt HX1.out)).trans HX1.out)
          have HB1 := Lib.hid (below_then HB.out hb1)
          have HZ1 := Lib.hid (show wr.heap.size + 1 ≤ (wr.alloc (.cells #[] 2)).heap.size by simp)
          have HLO := Lib.hid (show w5.heap.size + 1 ≤ G9 by rw [hG9]; exact HLO.out)
          rw [← hG9] at HT1 HZ1
          clear hG9 hb1
          go_wp2_with fail
          rw [← HG9.out]
          clear hc0
          go_loopw [11, 12] (fun rv j wi => ∃ (q : Nat) (C : List Int), q ≤ n ∧ j = .int .i64 q ∧ C = (List.range q).map (colX X n N k) ∧ wi.heap[w5.heap.size]? = some (.cells #[.int .i64 (n : Int), .slice A3 (rowsF n (colX X n N) k).length c3] 33 (0, 0)) ∧
              TabV (w5.heap.size + 1) G9 wi (.slice A3 (rowsF n (colX X n N) k).length c3) vs' (rowsF n (colX X n N) k) ∧ wi.ownsRow G9 2 1 rv C.length (C.map (Value.int .i64)) ∧ Below w5.heap.size w5 wi ∧ G9 + 1 ≤ wi.heap.size) (fun _ j _ => n - (intOf j).toNat)
          case atStart => exact ⟨0, [], Nat.zero_le _, rfl, rfl, HY1.out, HT1.out, HN0.out, HB1.out, HZ1.out⟩
          case round =>
            obtain ⟨q, C, hq, rfl, hC, hz1, htb, hown, hbl, hsz⟩ := hrel
            have hclen : C.length ≤ 10 := by rw [hC]; simp; omega
            obtain ⟨A5, c5, rfl⟩ := own_form hown
            have HC := Lib.hid hC
            have HZ1 := Lib.hid hz1
            have HTB := Lib.hid htb
            have HOW := Lib.hid hown
            have HBL := Lib.hid hbl
            have HSZ := Lib.hid hsz
            clear hC hz1 htb hown hsz HT1 HY1 HB1 HN0
            by_cases hqn : q < n
            · obtain ⟨b7, off7, A7, c7, he7, hc7, hn7'⟩ := (HRW.out.below hbl).2 q _ (HLL.out q hqn)
              simp only [Option.some.injEq, Addr.mk.injEq, and_true] at he7
              obtain ⟨rfl, rfl⟩ := he7
              have hlq := (HG.out.at_ (N := N) hqn).2.2
              obtain ⟨z, b8, off8, hz8, hA8, hc8⟩ := hn7'.at_ (show k < (colF X n N q).length by rw [hlq]; exact hlt)
              rw [hlq, Nat.zero_add] at hc7
              subst hA8
              have hzx : z = colX X n N k q := by unfold colX; rw [List.getD_eq_getElem?_getD, hz8]; rfl
              have HZX := Lib.hid hzx
              have k1 : (0 : Int) ≤ (q : Int) := by omega
              have k2 : (q : Int) < (n : Int) := by omega
              have HROW := Lib.hid (fun g (hg : (Value.slice A5 C.length c5).ownBlock = some g) => (HOW.out.lt g hg).1)
              have HG5 := Lib.hid (show w5.heap.size ≤ G9 by have := HLO.out; omega)
              have HSZ9 := Lib.hid (show G9 ≤ wr.heap.size by have := HSZ.out; omega)
              clear hbl hn7' hlq hz8 hzx
              go_wp2_with (at_builtin; refine wpList_append_own _ rfl _ _ 64 rfl (G9) 2 i0 (.int .i64 0) 1 8 Try.underlying64 hi hz0 hz1 hz2 rfl (by decide) _ _ _ rfl (World.ownsRow.alloc (HOW.out) _) ⟨(wr).heap.size, 0, none⟩ 1 1 [.int .i64 z] rfl rfl (cell_one_new _ _ _) (ones_i64 [z]) (by unfold maxLen; omega) (by omega) (by rw [World.size_alloc]; exact Nat.le_succ_of_le (HSZ9.out)) ?_)
              intro v' w7 hown' hgrow _
              have ba : Below wr.heap.size wr (wr.alloc (.cells #[.int .i64 z] 2)) := (Below.refl _ _).alloc (Nat.le_refl _) _
              have hb7 : Below G9 wr w7 := Below.grown ((Below.refl _ _).alloc HSZ9.out _) hgrow (by rw [World.size_alloc]; exact Nat.le_succ_of_le HSZ9.out) (fun g hg => HROW.out g hg)
              have HB7 := Lib.hid hb7
              have HO7 := Lib.hid hown'
              clear hown' hgrow ba hb7 hc7 hc8
              go_wp2_with fail
              go_roundw
              case rel =>
                have hlo := HLO.out
                have hon := only_of_below5 HB7.out
                refine ⟨q + 1, C ++ [z], by omega, by go_num, by rw [List.range_succ, List.map_append, ← HC.out]; simp only [List.map_cons, List.map_nil]; rw [HZX.out], (HB7.out.block _ (by omega)).trans HZ1.out, HTB.out.only hon (.inl (Nat.le_refl _)), by rw [List.length_append, List.map_append]; exact HO7.out, HBL.out.trans (HB7.out.mono HG5.out), by have h1 := HB7.out.size; have h2 := HSZ.out; omega⟩
              case measure => simp [intOf]; omega
            · have hqe : q = n := by omega
              have HQE := Lib.hid hqe
              have hx1 := HZ1.out
              have e1 : wr.cell? ⟨w5.heap.size, 1, none⟩ = some (.slice A3 (rowsF n (colX X n N) k).length c3) := cell_of_row _ w5.heap.size 1 _ _ _ hx1
              have hrl : (rowsF n (colX X n N) k).length ≤ 3 := by rw [rowsF_len]; omega
              have HLE := Lib.hid (show w5.heap.size + 1 ≤ wr.heap.size by have h1 := HSZ.out; have h2 := HLO.out; omega)
              clear hx1 hqe hbl
              go_wp2_with (at_builtin; refine wpList_append_own_at _ rfl _ _ 22 rfl (w5.heap.size + 1) 64 i1 (.slice none 0 0) 1 24 Try.underlying22 hi1 hy0 hy1 hy2 rfl (by decide) _ _ _ rfl (World.ownsRow.alloc (HTB.out.out) _) ⟨(wr).heap.size, 0, none⟩ 1 1 [.slice A5 C.length c5] rfl rfl (cell_one_new _ _ _) (by simp [Value.oneCell']) (by unfold maxLen; omega) (by omega) (by rw [World.size_alloc]; exact Nat.le_succ_of_le HLE.out) ?_)
              intro v' w7 hown' hgrow _ hat
              obtain ⟨A6, c6, rfl⟩ := own_form hown'
              have hrow : IntsIn G9 wr.heap.size wr (.slice A5 C.length c5) C := IntsIn.of HOW.out
              have hC := HC.out
              rw [HQE.out] at hC
              have ba : Below wr.heap.size wr (wr.alloc (.cells #[.slice A5 C.length c5] 64)) := (Below.refl _ _).alloc (Nat.le_refl _) _
              have htab2 := TabV.snoc (HTB.out.below ba) (hrow.below ba) hown' hgrow (by rw [World.size_alloc]; exact hat) HLO.out (Nat.le_refl _) ba.size
              rw [hC, ← rowsF_succ] at htab2
              rw [← hC] at htab2
              have HT2 := Lib.hid htab2
              have hvn : ∀ g, (Value.slice A3 (rowsF n (colX X n N) k).length c3).ownBlock = some g → w5.heap.size + 1 ≤ g := fun g hg => (HTB.out.out.lt g hg).1
              have hu1 : w7.heap[w5.heap.size]? = some (.cells #[.int .i64 (n : Int), .slice A3 (rowsF n (colX X n N) k).length c3] 33 (0, 0)) := (hgrow.block _ (Nat.lt_of_lt_of_le (block_lt HZ1.out) ba.size) (fun e => by have := hvn _ e.symm; omega)).trans ((ba.block _ (block_lt HZ1.out)).trans HZ1.out)
              have HU1 := Lib.hid hu1
              have hc1 : w7.cell? ⟨w5.heap.size, 1, none⟩ = some (.slice A3 (rowsF n (colX X n N) k).length c3) := cell_of_row _ w5.heap.size 1 _ _ _ hu1
              have hf1 : w7.frozen? ⟨w5.heap.size, 1, none⟩ = false := frozen_of_row _ w5.heap.size 1 _ _ hu1
              have HB2 := Lib.hid (below_grown (below_then HBL.out ba) hgrow (fun g hg => by have := hvn g hg; omega))
              have HLE2 := Lib.hid (show w5.heap.size + 1 ≤ w7.heap.size by have h1 := HLE.out; have := hgrow.size; have := ba.size; omega)
              have HL1 := Lib.hid (show (rowsF n (colX X n N) (k + 1)).length = (rowsF n (colX X n N) k).length + 1 by rw [rowsF_len, rowsF_len])
              clear hown' hgrow hat ba hvn hu1 e1 hrow htab2 hC
              go_wp2_with fail
              go_roundw
              case rel =>
                have hon := only_setCell w7 w5.heap.size 1 (.slice A6 ((rowsF n (colX X n N) k).length + 1) c6)
                refine ⟨k + 1, .slice A6 ((rowsF n (colX X n N) k).length + 1) c6, vs' ++ [.slice A5 C.length c5], by omega, by go_num, ?_, ?_, HB2.out.setCell (by simp) _, by rw [World.size_setCell]; exact HLE2.out⟩
                · rw [heap_setCell_same w7 w5.heap.size 1 _ _ _ HU1.out]; rfl
                · rw [World.size_setCell]
                  exact HT2.out.only hon (.inr (Nat.le_refl _))
              case measure => simp [intOf]; omega
        · have hkm : k = m := by omega
          have HKM := Lib.hid hkm
          obtain ⟨e0, e1, _, _⟩ := box2_cellsR hx1
          have hres := (hbel.block _ (block_lt HRS5.out)).trans HRS5.out
          obtain ⟨e2, e3, e4, e5⟩ := box2_cellsR hres
          obtain ⟨g2, g3⟩ := box2_setR hres (.int .i64 (n : Int)) (.slice A3 (rowsF n (colX X n N) k).length c3)
          have j2 : ¬ (k : Int) < (m : Int) := by omega
          clear hx1 htab hbel hkm hlo hres
          go_wp2_with fail
          refine bodyPost_ret (v := .agg #[.int .i64 (n : Int), .slice A3 (rowsF n (colX X n N) k).length c3]) (by simp [results, Try.results76, go_sem, g2, g3]) rfl ?_
          refine ⟨_, rfl, ?_, ((below_then B5.out HB.out).setCell (by simp) _).setCell (by simp) _⟩
          rw [set2_sizeR, ← HKM.out]
          have hz := HZ5.out
          exact (TabIn.only ⟨vs', HT.out⟩ (set2_onlyR _ _ _ _) (.inr (by omega))).wide (by omega) (Nat.le_refl _)

end Go.Proofs.Ytkhhemlfahdbnab
