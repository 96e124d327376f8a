/-
  append onto a list of a call's own, whatever is appended (nil, nothing, a list in a block), at a step of a region that draws; the model's copy of any list; the contract of the model's l05Arrange.
-/
import Derived.Test.YtkhhemlfahdbnabArr
import Derived.Maps.AppendAt
namespace Go.Proofs.Ytkhhemlfahdbnab
open Go.RowKit Go.Deep Go.ChangeShapes Go.WideShapes

theorem run_append_src (w : World) (ty : TypeId) (base : Nat) (v : Value) (xs : List Int) (vx : Value) (ys : List Int) (hown : w.ownsRow base 2 1 v xs.length (xs.map (Value.int .i64))) (hs : SrcAt w vx ys) (h63 : xs.length + ys.length ≤ 100000) (hbase : base ≤ w.heap.size) :
    ∃ A c w', (Builtin.append_ #[64, 64] ty #[v, vx]).run Try.prog w = .ok (.slice A (xs ++ ys).length c) w' ∧ w'.ownsRow base 2 1 (.slice A (xs ++ ys).length c) (xs ++ ys).length ((xs ++ ys).map (Value.int .i64)) ∧ w.grownBy w' v.ownBlock ∧
      ((Value.slice A (xs ++ ys).length c).ownBlock = v.ownBlock ∨ (Value.slice A (xs ++ ys).length c).ownBlock = some w.heap.size) := by
  obtain ⟨i0, hi, hz0, hz1, hz2⟩ := info_parts info_int64
  rcases hs with ⟨rfl, rfl⟩ | ⟨b, off, c, rfl, hn⟩
  · obtain ⟨A, c, rfl⟩ := own_form hown
    have h := run_append_owned_none (P := Try.prog) (w := w) base 64 ty 2 i0 1 Try.underlying64 hi _ _ _ hown
    rw [List.append_nil]
    exact ⟨A, c, w, h, hown, ⟨rfl, rfl, rfl, Nat.le_refl _, fun _ _ _ => rfl⟩, .inl rfl⟩
  · obtain ⟨v', w', hr, h2, h3, _, h5⟩ := run_append_own_at (P := Try.prog) (w := w) base 64 ty 2 i0 (.int .i64 0) 1 8 Try.underlying64 hi hz0 hz1 hz2 rfl (by decide) v xs.length _ hown ⟨b, off, none⟩ ys.length c (ys.map (Value.int .i64)) (by rw [List.length_map, Nat.mul_one]) (nums_cells hn) (ones_i64 ys) (by unfold maxLen; omega) (by omega) hbase
    rw [← List.length_append, ← List.map_append] at h2
    obtain ⟨A, c', rfl⟩ := own_form h2
    exact ⟨A, c', w', hr, h2, h3, h5⟩

theorem step_append_src (w : World) {ops : Array Oper} {o : Oper} {a : Act} {K : Act → World → Prop} {Q : Exit → Act → World → Prop} {E : Prop} (hgd : o.guard = none) (s x : Operand)
    (ho : o.op = .call { callee := .builtin .append, args := #[s, x], argTypes := #[64, 64] })
    (base : Nat) (v : Value) (xs : List Int) (vx : Value) (ys M : List Int) (hM : M = xs ++ ys) (hv : a.eval s = v) (hx : a.eval x = vx) (hown : w.ownsRow base 2 1 v xs.length (xs.map (Value.int .i64))) (hs : SrcAt w vx ys) (h63 : xs.length + ys.length ≤ 100000) (hbase : base ≤ w.heap.size)
    (h : ∀ A c w', w'.ownsRow base 2 1 (.slice A M.length c) M.length (M.map (Value.int .i64)) → w.grownBy w' v.ownBlock → ((Value.slice A M.length c).ownBlock = v.ownBlock ∨ (Value.slice A M.length c).ownBlock = some w.heap.size) → K (a.put o.dst (.slice A M.length c)) w') :
    if Region.wanted o (yielded ops a.tmps) = true then Oper.wp Try.prog o a w K Q else E := by
  have hw : Region.wanted o (yielded ops a.tmps) = true := by simp [Region.wanted, hgd]
  rw [if_pos hw]
  subst hM
  obtain ⟨A, c, w', hr, h2, h3, h4⟩ := run_append_src w o.type base v xs vx ys hown hs h63 hbase
  unfold Oper.wp execOp
  simp only [ho, resolve, invoke, builtin, Sem.run_bind, Sem.run_pure, Result.andThen_ok, List.map_toArray, List.map_cons, List.map_nil, hv, hx, hr]
  exact h A c w' h2 h3 h4

set_option maxRecDepth 100000 in
set_option maxHeartbeats 2000000 in
theorem l00Own_src (b off n cap : Nat) (xs : List Int) (w : World) (h : NumsAt w (some ⟨b, off, none⟩) n xs) (hn : n ≤ 1000) :
    Calls Try.prog 90 #[.slice (some ⟨b, off, none⟩) n cap] w fun e w' => ∃ u, e = .returned u ∧ w'.ownsRow w.heap.size 2 1 u xs.length (xs.map (Value.int .i64)) ∧ Below w.heap.size w w' := by
  obtain ⟨i0, hi, hz0, hz1, hz2⟩ := info_parts info_int64
  have hl := h.1
  have HN := Lib.hid (h.below ((Below.refl w.heap.size w).alloc (Nat.le_refl _) (.cells #[] 2)))
  clear h
  go_enter Try.func90, Try.ntmps90
  go_wp2_with (at_builtin; refine wpList_append_own _ rfl _ _ 64 rfl w.heap.size 2 i0 (.int .i64 0) 1 8 Try.underlying64 hi hz0 hz1 hz2 rfl (by decide) _ _ _ rfl (own_none w _ (Nat.le_refl _)) ⟨b, off, none⟩ n cap (xs.map (Value.int .i64)) rfl (by rw [List.length_map, hl, Nat.mul_one]) (nums_cells HN.out) (ones_i64 xs) (by unfold maxLen; omega) (by omega) (by rw [World.size_alloc]; exact Nat.le_succ _) ?_)
  intro v' w2 hown' hgrow _
  have ba : Below w.heap.size w (w.alloc (.cells #[] 2)) := (Below.refl _ _).alloc (Nat.le_refl _) _
  have HB2 := Lib.hid (below_grown ba hgrow (fun g hg => by simp [Value.ownBlock] at hg; omega))
  have HO2 := Lib.hid hown'
  clear hown' hgrow ba
  go_wp2_with fail
  go_ret
  refine ⟨v', rfl, ?_, HB2.out⟩
  have h1 := HO2.out
  simp only [← hl] at h1
  exact h1

set_option maxRecDepth 100000 in
set_option maxHeartbeats 16000000 in
theorem l05Arrange_any : ∀ (N : Nat) (v : Value) (xs : List Int) (w : World), xs.length = N → N ≤ 3 → CapAt w v xs →
    Calls Try.prog 129 #[v] w fun e w' => ∃ u, e = .returned u ∧ TabIn w.heap.size w'.heap.size w' u (arrF N xs) ∧ Below w.heap.size w w'
  | 0, v, xs, w, hN, hN3, hv => by
    obtain ⟨A, c, rfl, hn, hc, _⟩ := hv
    have hl : xs.length = 0 := hN
    go_enter Try.func129, Try.ntmps129
    go_wp2_with fail
    go_ret
    have hz : (w.alloc (.cells #[] 2)).heap.size = w.heap.size + 1 := World.size_alloc _ _
    refine ⟨_, rfl, ⟨[.slice (some ⟨w.heap.size, 0, none⟩) 0 0], rfl, ?_, fun g hg => ?_, fun r u ys hu hy => ?_, fun r r' u u' g hu hu' hg hg' => ?_, fun r u g hu hg => ?_⟩, ((Below.refl _ _).alloc (Nat.le_refl _) _).alloc (by simp) _⟩
    · rw [← hz]
      exact World.ownsRow_lit (base := w.heap.size) (e := 64) (w.alloc (.cells #[] 2)) #[.slice (some ⟨w.heap.size, 0, none⟩) 0 0] 1 (by simp) (by unfold maxLen; omega) rfl
    · simp [Value.ownBlock] at hg; subst hg; simp
    · rcases r with _ | r
      · simp [arrF] at hu hy
        subst hu hy
        exact ⟨own_below (World.ownsRow_lit (e := 2) w #[] 0 (Nat.le_refl _) (Nat.zero_le _) rfl) ((Below.refl _ _).alloc (Nat.le_refl _) _), fun g hg => by simp [Value.ownBlock] at hg; subst hg; simp; omega⟩
      · simp at hu
    · rcases r with _ | r <;> rcases r' with _ | r' <;> simp at hu hu' ⊢
    · rcases r with _ | r
      · simp at hu; subst hu; simp [Value.ownBlock] at hg ⊢; omega
      · simp at hu
  | N + 1, v, xs, w, hN, hN3, hv => by
    have IH := Lib.hid (l05Arrange_any N)
    obtain ⟨i1, hi1, hy0, hy1, hy2⟩ := info_parts info_ints
    obtain ⟨A, c, rfl, hn, hc, _⟩ := hv
    have HN := Lib.hid hN
    rw [hN] at hn hc ⊢
    obtain ⟨b, off, rfl, hcells⟩ := nums_base hn (by omega)
    have HNUM := Lib.hid hn
    have HC := Lib.hid hcells
    clear hn hcells hN
    have hlz : ((N : Int) + 1 == 0) = false := by rw [beq_eq_false_iff_ne]; omega
    go_enter Try.func129, Try.ntmps129
    go_wp2_with fail
    clear hlz
    go_loopw [3, 4] (fun v i wr => ∃ (k : Nat) (vs : List Value) (Y : List (List Int)), k ≤ N + 1 ∧ i = .int .i64 k ∧ Y = arrTo (arrF N) xs k ∧ TabV w.heap.size wr.heap.size wr v vs Y ∧ Below w.heap.size w wr) (fun _ i _ => N + 1 - (intOf i).toNat)
    case atStart =>
      refine ⟨0, [], [], Nat.zero_le _, rfl, rfl, ⟨rfl, World.ownsRow_lit (e := 64) w #[] 0 (Nat.le_refl _) (Nat.zero_le _) rfl, fun g hg => ?_, fun r u xs hu => ?_, fun r r' u u' g hu => ?_, fun r u g hu => ?_⟩, (Below.refl _ _).alloc (Nat.le_refl _) _⟩
      · simp [Value.ownBlock] at hg; subst hg; simp
      · simp at hu
      · simp at hu
      · simp at hu
    case round =>
      obtain ⟨k, vs, Y, hk, rfl, hY, htab, hbel⟩ := hrel
      obtain ⟨A3, c3, rfl⟩ := own_form htab.out
      have HY := Lib.hid hY
      have HT := Lib.hid htab
      have HB := Lib.hid hbel
      clear hY htab
      by_cases hlt : k < N + 1
      · obtain ⟨x, hx⟩ : ∃ x, xs[k]? = some x := ⟨xs[k]'(by rw [HN.out]; exact hlt), List.getElem?_eq_getElem _⟩
        have hcx := (hbel.cell (cell_lt (HC.out k x hx))).trans (HC.out k x hx)
        have HX := Lib.hid hx
        have ik0 : (0 : Int) ≤ (k : Int) := by omega
        have ik1 : (k : Int) < ((N + 1 : Nat) : Int) := by omega
        clear hbel
        rcases hsk : skipB xs k with _ | _
        · have HSK := Lib.hid (arrOne_go (f := arrF N) hsk hx)
          have h9 : Below wr.heap.size wr wr := Below.refl _ _
          have hcap : (N + 1 : Nat) ≤ c := hc
          have hadd : IntKind.i64.wrap ((k : Int) + 1) = ((k + 1 : Nat) : Int) := by rw [show (k : Int) + 1 = ((k + 1 : Nat) : Int) by omega]; exact IntWalk.i64_in _ (by omega)
          have ik2 : (k : Int) ≤ (c : Int) := by omega
          have ik3 : ((k + 1 : Nat) : Int) ≤ ((N + 1 : Nat) : Int) := by omega
          have ik4 : (0 : Int) ≤ ((k + 1 : Nat) : Int) := by omega
          have ik5 : ((N + 1 : Nat) : Int) ≤ (c : Int) := by omega
          have ik6 : k ≤ N := by omega
          have ik7 : (0 : Int) ≤ (k : Int) + 1 := by omega
          have hlt1 : (xs.take k).length = k := by rw [List.length_take, HN.out]; omega
          have hlt2 : (xs.drop (k + 1)).length = N - k := by rw [List.length_drop, HN.out]; omega
          have KN := Lib.hid (show ∀ W', Below wr.heap.size wr W' → NumsAt W' (some ⟨b, off, none⟩) (N + 1) xs from fun W' hb => HNUM.out.below (below_then HB.out hb))
          have KN1 := Lib.hid (show ∀ W', Below wr.heap.size wr W' → NumsAt W' (some ⟨b, off, none⟩) k (xs.take k) from fun W' hb => by
            have h := cut_src (KN.out W' hb) (i := 0) (j := k) (by omega) (by omega)
            simpa using h)
          have KS2 := Lib.hid (show ∀ W', Below wr.heap.size wr W' → SrcAt W' (.slice (if c = k + 1 then some ⟨b, off, none⟩ else some ⟨b, off + (k + 1), none⟩) (N - k) (c - (k + 1))) (xs.drop (k + 1)) from fun W' hb => by
            have h := cut_src (KN.out W' hb) (i := k + 1) (j := N + 1) (by omega) (by omega)
            rw [List.take_of_length_le (by rw [HN.out]; exact Nat.le_refl _), show N + 1 - (k + 1) = N - k by omega] at h
            split
            · rename_i e
              have hz : N - k = 0 := by omega
              rw [hz] at hlt2
              have : xs.drop (k + 1) = [] := List.eq_nil_of_length_eq_zero hlt2
              rw [hz, this]
              exact .inr ⟨b, off, _, rfl, NumsAt.nil _ _⟩
            · refine .inr ⟨b, off + (k + 1), _, by rw [hlt2], ?_⟩
              rw [hlt2]
              exact h)
          have HL3 := Lib.hid (show (xs.take k ++ xs.drop (k + 1)).length = N by rw [List.length_append, hlt1, hlt2]; omega)
          have HL1 := Lib.hid hlt1
          have HL2 := Lib.hid hlt2
          obtain ⟨R, hR⟩ : ∃ R, R = xs.take k ++ xs.drop (k + 1) := ⟨_, rfl⟩
          have HR := Lib.hid hR
          have HRL := Lib.hid (show R.length = N by rw [hR]; exact HL3.out)
          clear hlt1 hlt2 hR
          rcases Nat.eq_zero_or_pos k with hk0 | hk0
          case' inl =>
            have hg0 : decide ((0 : Int) < (k : Int)) = false := decide_eq_false (by omega)
            have hk1 : ¬ 0 < k := by omega
            have hk2 : ¬ (0 : Int) < (k : Int) := by omega
            clear hk0
            go_wp2_with fail
            go_quiet (fail)
            clear hg0 hk1 hk2
          case' inr =>
            obtain ⟨y, hy⟩ : ∃ y, xs[k - 1]? = some y := ⟨xs[k - 1]'(by rw [HN.out]; omega), List.getElem?_eq_getElem _⟩
            have hcy := (HB.out.cell (cell_lt (HC.out (k - 1) y hy))).trans (HC.out (k - 1) y hy)
            rw [skipB_is hk0 hx hy, decide_eq_false_iff_not] at hsk
            have hyx : (x == y) = false := by rw [beq_eq_false_iff_ne]; exact fun e => hsk e.symm
            have hg0 : decide ((0 : Int) < (k : Int)) = true := decide_eq_true (by omega)
            have hwr : IntKind.i64.wrap ((k : Int) - 1) = (k : Int) - 1 := IntWalk.i64_in _ (by omega)
            have hto : ((k : Int) - 1).toNat = k - 1 := by omega
            have j1 : (0 : Int) ≤ (k : Int) - 1 := by omega
            have j2 : (k : Int) - 1 < ((N + 1 : Nat) : Int) := by omega
            go_wp2_with fail
            go_quiet (fail)
            clear hk0 hg0 hwr hto j1 j2 hyx hcy hy
          all_goals
            clear hsk hx
            go_wp2_with fail
            go_region_law
              (first
                | (refine step_append_src _ rfl _ _ rfl wr.heap.size _ (xs.take k) _ (xs.drop (k + 1)) R HR.out rfl rfl (own_below OA.out (by first | exact Below.refl _ _ | exact (Below.refl _ _).drew | exact below_drewN' (Below.refl _ _) _)) (KS2.out _ (by first | exact hA | exact hA.drew | exact below_drewN' hA _)) (by rw [HL1.out, HL2.out]; omega) (by first | exact hA.size | (show wr.heap.size ≤ _; exact hA.size)) ?_; intro A9 c9 w9 own9 grow9 hat9; have hC : Below wr.heap.size wr w9 := Below.grown (by first | exact hA | exact hA.drew | exact below_drewN' hA _) grow9 (by first | exact hA.size | (show wr.heap.size ≤ _; exact hA.size)) (fun g hg => (OA.out.lt g hg).1); have OC := Lib.hid own9; clear own9 grow9 hat9)
                | (go_simp; go_at_call 90; refine (l00Own_src b off k c (xs.take k) _ (KN1.out _ (by first | exact h9 | exact h9.drew | exact below_drewN' h9 _ | exact (below_drewN' h9 _).drew)) (by omega)).mono ?_; rintro e' wA ⟨uA, rfl, oA, bA⟩; have hA : Below wr.heap.size wr wA := below_then (by first | exact h9 | exact h9.drew | exact below_drewN' h9 _ | exact (below_drewN' h9 _).drew) bA; have OA := Lib.hid (own_base oA (show wr.heap.size ≤ _ from by first | exact Nat.le_refl _ | (simp; done))); clear oA bA)
                | fail)
            generalize (if c = k + 1 then (some ⟨b, off, none⟩ : Option Addr) else some ⟨b, off + (k + 1), none⟩) = A2
            go_simp
            go_wp2_with fail
            refine (IH.out _ R _ HRL.out (by omega) (CapAt.below (CapAt.own OC.out) (by first | exact Below.refl _ _ | exact (Below.refl _ _).drew | exact below_drewN' (Below.refl _ _) _))).mono ?_
            rintro e wD ⟨uD, rfl, tD, bD⟩
            have hD : Below wr.heap.size wr wD := below_then (by first | exact hC | exact hC.drew | exact below_drewN' hC _) bD
            obtain ⟨AD, cD, rfl⟩ := tD.form
            obtain ⟨L, hL⟩ : ∃ L, L = arrF N R := ⟨_, rfl⟩
            have TD := tD.wide (lo' := wr.heap.size) (hi' := wD.heap.size) (by first | exact hC.size | (show wr.heap.size ≤ _; exact hC.size)) (Nat.le_refl _)
            rw [← hL] at TD
            rw [← hL]
            have HL := Lib.hid hL
            have HLL := Lib.hid (show L.length ≤ 6 by rw [hL]; exact arrF_len6 (by omega) _)
            have HYL := Lib.hid (show Y.length ≤ 18 by rw [HY.out]; exact arrTo_len18 hN3 hk xs)
            obtain ⟨us, tv⟩ := TD
            obtain ⟨LO, hLO⟩ : ∃ LO, LO = wr.heap.size := ⟨_, rfl⟩
            obtain ⟨HI, hHI⟩ : ∃ HI, HI = wD.heap.size := ⟨_, rfl⟩
            rw [← hLO, ← hHI] at tv
            have TV := Lib.hid tv
            have HLO := Lib.hid hLO
            have HHI := Lib.hid hHI
            have HBD := Lib.hid (below_then HB.out hD)
            have HTD := Lib.hid (HT.out.below hD)
            have HZD := Lib.hid (show wr.heap.size ≤ HI by rw [hHI]; exact hD.size)
            have HHL := Lib.hid (show ∀ W', Below wD.heap.size wD W' → W'.cell? ⟨b, off + k, none⟩ = some (.int .i64 x) from fun W' hb => ((below_then HBD.out hb).cell (cell_lt (HC.out k x HX.out))).trans (HC.out k x HX.out))
            clear hLO hHI tv hL h9 hC hD hcap hadd ik2 ik3 ik4 ik5 ik6 ik7 hcx tD bD
            go_wp2_with fail
            go_loopw [3, 7] (fun v j wi => ∃ (q : Nat) (vs2 : List Value) (Z : List (List Int)), q ≤ L.length ∧ j = .int .i64 q ∧ Z = Y ++ (L.take q).map (fun l => x :: l) ∧ TabV w.heap.size wi.heap.size wi v vs2 Z ∧ TabV LO HI wi (.slice AD L.length cD) us L ∧ (∀ g, v.ownBlock = some g → g < LO ∨ HI ≤ g) ∧ Below w.heap.size w wi ∧ HI ≤ wi.heap.size) (fun _ j _ => L.length - (intOf j).toNat)
            case atStart => exact ⟨0, vs, Y, Nat.zero_le _, rfl, by simp, (HTD.out.wide (Nat.le_refl _) (by have := HZD.out; rw [HHI.out] at this; exact this)), TV.out, fun g hg => .inl (by rw [HLO.out]; exact HT.out.top g hg), HBD.out, Nat.le_of_eq HHI.out⟩
            case round =>
              obtain ⟨q, vs2, Z, hq, rfl, hZ, htab, htv, hown, hbi, hhi⟩ := hrel
              obtain ⟨A6, c6, rfl⟩ := own_form htab.out
              have HZ := Lib.hid hZ
              have HT2 := Lib.hid htab
              have HBI := Lib.hid hbi
              have TV2 := Lib.hid htv
              have HOWN := Lib.hid hown
              have HHZ := Lib.hid hhi
              have hzl : Z.length ≤ 100 := by
                rw [hZ, List.length_append, List.length_map, List.length_take]
                have := HLL.out
                have := HYL.out
                omega
              have hcx := (hbi.cell (cell_lt (HC.out k x HX.out))).trans (HC.out k x HX.out)
              clear hZ htab htv hown hhi
              by_cases hql : q < L.length
              · obtain ⟨g, u, rfl, hu, hcu⟩ := TV2.out.cell hql
                obtain ⟨l, hl⟩ : ∃ l, L[q]? = some l := ⟨L[q]'hql, List.getElem?_eq_getElem _⟩
                have hrow := TV2.out.row q u l hu hl
                obtain ⟨A7, c7, rfl⟩ := hrow.form
                have hll : l.length = N := arrF_rows N _ HRL.out l (by rw [← HL.out]; exact List.mem_of_getElem? hl)
                have KSL := Lib.hid (show ∀ W', Below wr.heap.size wr W' → SrcAt W' (.slice A7 l.length c7) l from fun W' hb => (SrcAt.own hrow.1).below hb)
                have HLQ := Lib.hid hl
                have HLN := Lib.hid hll
                have hq6 : q ≤ 6 := by have := HLL.out; omega
                have iq0 : (0 : Int) ≤ (q : Int) := by omega
                have iq1 : (q : Int) < (L.length : Int) := by omega
                have h9 : Below wr.heap.size wr wr := Below.refl _ _
                have KU := Lib.hid (show ∀ W', Below wr.heap.size wr W' → W'.cell? ⟨g, q, none⟩ = some (.slice A7 l.length c7) from fun W' hb => (hb.cell (cell_lt hcu)).trans hcu)
                have KX := Lib.hid (show ∀ W', Below wr.heap.size wr W' → W'.cell? ⟨b, off + k, none⟩ = some (.int .i64 x) from fun W' hb => (hb.cell (cell_lt hcx)).trans hcx)
                have qu1 : ∀ o, (wr.alloc o).cell? ⟨g, q, none⟩ = some (.slice A7 l.length c7) := fun o => KU.out _ (h9.alloc (Nat.le_refl _) o)
                have qx1 : ∀ o, (wr.alloc o).cell? ⟨b, off + k, none⟩ = some (.int .i64 x) := fun o => KX.out _ (h9.alloc (Nat.le_refl _) o)
                obtain ⟨M, hM⟩ : ∃ M, M = [x] ++ l := ⟨_, rfl⟩
                have HM := Lib.hid hM
                have HOU := Lib.hid (fun q' (hq' : (Value.slice A6 Z.length c6).ownBlock = some q') => (HT2.out.out.lt q' hq').1)
                clear hu hl hrow hll hM hbi
                go_wp2_with fail
                go_region_law
                  (first
                    | (refine step_append_src _ rfl _ _ rfl wr.heap.size (.slice (some ⟨wr.heap.size, 0, none⟩) 1 1) [x] (.slice A7 l.length c7) l M HM.out rfl rfl (by first | exact World.ownsRow_lit (base := wr.heap.size) (e := 2) _ #[.int .i64 x] 1 (by first | exact Nat.le_refl _ | (simp; done)) (by unfold maxLen; omega) rfl | exact own_below (World.ownsRow_lit (base := wr.heap.size) (e := 2) _ #[.int .i64 x] 1 (by first | exact Nat.le_refl _ | (simp; done)) (by unfold maxLen; omega) rfl) (Below.refl _ _).drew) (KSL.out _ (by first | exact h9.alloc (Nat.le_refl _) _ | exact h9.drew.alloc (Nat.le_refl _) _ | exact (h9.alloc (Nat.le_refl _) _).drew)) (by rw [HLN.out]; simp; omega) (by simp) ?_; intro AI cI w5 own5 grow5 hat5; have h5 : Below wr.heap.size wr w5 := Below.grown (by first | exact h9.alloc (Nat.le_refl _) _ | exact h9.drew.alloc (Nat.le_refl _) _ | exact (h9.alloc (Nat.le_refl _) _).drew) grow5 (by first | (simp; done) | exact (h9.alloc (Nat.le_refl _) _).size | exact (h9.alloc (Nat.le_refl _) _).drew.size) (fun g hg => by simp [Value.ownBlock] at hg; omega); have O5 := Lib.hid own5; have HT5 := Lib.hid (HT2.out.below h5); have H5 := Lib.hid h5; have HZ5 := Lib.hid h5.size; clear own5 grow5 hat5 h5)
                    | (refine step_append_lies _ rfl _ _ 22 rfl w.heap.size 64 i1 (.slice none 0 0) 1 24 Try.underlying22 hi1 hy0 hy1 hy2 rfl (by decide) _ _ _ rfl (own_below HT5.out.out (by first | exact (Below.refl _ _).alloc (Nat.le_refl _) _ | exact ((Below.refl _ _).alloc (Nat.le_refl _) _).drew | exact (Below.refl _ _).drew.alloc (Nat.le_refl _) _)) ⟨_, 0, none⟩ 1 1 [.slice AI M.length cI] rfl rfl (cell_one_new _ _ _) (by simp [Value.oneCell']) (by decide) (by unfold maxLen; omega) (by omega) (by have h1 := HBI.out.size; have h2 := HZ5.out; simp; omega) _ rfl ?_; intro g6 cap6 w6 hown6 hgrow6 hat6 hlt6; have hgr6 : (w5.alloc (.cells #[.slice AI M.length cI] 64)).grownBy w6 (Value.slice A6 Z.length c6).ownBlock := ⟨hgrow6.os, hgrow6.tape, hgrow6.output, hgrow6.size, hgrow6.block⟩; have HG6 := Lib.hid hgr6; have HO6 := Lib.hid hown6; have HAT6 := Lib.hid hat6; clear hown6 hgrow6 hat6 hlt6 hgr6)
                    | fail)
                all_goals
                  have ba : Below w5.heap.size w5 (w5.alloc (.cells #[.slice AI M.length cI] 64)) := (Below.refl _ _).alloc (Nat.le_refl _) _
                  have hat := HAT6.out
                  have hrow2 : IntsIn wr.heap.size w5.heap.size w5 (.slice AI M.length cI) M := ⟨O5.out, fun q hq => (O5.out.lt q hq).2⟩
                  have htab2 := TabV.snoc (HT5.out.below ba) (hrow2.below ba) HO6.out HG6.out (hat.elim (fun e => .inl e.symm) (fun e => .inr (by rw [e]; rfl))) HBI.out.size (Nat.le_refl _) ba.size
                  have HT6 := Lib.hid htab2
                  have HB6 := Lib.hid (below_grown (below_then HBI.out (below_then H5.out ba)) HG6.out (fun q' hq' => HOU.out q' hq'))
                  have TV6 := Lib.hid (TabV.beside ((TV2.out.below H5.out).below ba) HG6.out HOWN.out)
                  have hzz : HI ≤ (w5.alloc (.cells #[.slice AI M.length cI] 64)).heap.size := Nat.le_trans HHZ.out (Nat.le_trans HZ5.out ba.size)
                  have HOW6 := Lib.hid (show ∀ g, (Value.slice (some ⟨g6, 0, none⟩) (Z.length + 1) cap6).ownBlock = some g → g < LO ∨ HI ≤ g from fun g hg => by
                    rcases hat with e | e
                    · exact HOWN.out g (e.trans hg)
                    · have hg' : g6 = g := by simpa [Value.ownBlock] using hg
                      rw [World.size_alloc] at e hzz
                      have h1 := HHZ.out
                      have h2 := HZ5.out
                      exact .inr (by omega))
                  have HZ6 := Lib.hid (show HI ≤ w6.heap.size from Nat.le_trans hzz HG6.out.size)
                  clear hat ba hrow2 htab2 hzz qu1 qx1 h9 hcx hcu
                  go_wp2_with fail
                  go_roundw
                  case rel =>
                    refine ⟨q + 1, _, Z ++ [M], by omega, by go_num, ?_, HT6.out.below (by first | exact Below.refl _ _ | exact (Below.refl _ _).drew), TV6.out.below (by first | exact Below.refl _ _ | exact (Below.refl _ _).drew), HOW6.out, below_then HB6.out (by first | exact Below.refl _ _ | exact (Below.refl _ _).drew), HZ6.out⟩
                    rw [HZ.out, HM.out, take_snoc HLQ.out, List.map_append, List.append_assoc]
                    rfl
                  case measure => simp [intOf]; omega
              · have hqe : q = L.length := by omega
                have HQE := Lib.hid hqe
                clear hqe hbi hcx
                go_wp2_with fail
                go_roundw
                case rel =>
                  refine ⟨k + 1, vs2, Z, by omega, by go_num, ?_, HT2.out, HBI.out⟩
                  rw [arrTo, HSK.out, HZ.out, HQE.out, List.take_length, HY.out, HL.out, HR.out]
                case measure => simp [intOf]; omega
        · have HSK := Lib.hid (arrOne_skip (f := arrF N) hsk)
          have hk0 : 0 < k := by
            rcases Nat.eq_zero_or_pos k with h | h
            · subst h; rw [skipB_0] at hsk; cases hsk
            · exact h
          obtain ⟨y, hy⟩ : ∃ y, xs[k - 1]? = some y := ⟨xs[k - 1]'(by rw [HN.out]; omega), List.getElem?_eq_getElem _⟩
          have hcy := (HB.out.cell (cell_lt (HC.out (k - 1) y hy))).trans (HC.out (k - 1) y hy)
          rw [skipB_is hk0 hx hy, decide_eq_true_eq] at hsk
          subst hsk
          have hyy : (y == y) = true := by simp
          have hg0 : decide ((0 : Int) < (k : Int)) = true := decide_eq_true (by omega)
          have hwr : IntKind.i64.wrap ((k : Int) - 1) = (k : Int) - 1 := IntWalk.i64_in _ (by omega)
          have hto : ((k : Int) - 1).toNat = k - 1 := by omega
          have j1 : (0 : Int) ≤ (k : Int) - 1 := by omega
          have j2 : (k : Int) - 1 < ((N + 1 : Nat) : Int) := by omega
          clear hx hy
          go_wp2_with fail
          go_quiet (fail)
          go_wp2_with fail
          go_roundw
          case rel => exact ⟨k + 1, vs, Y, by omega, by go_num, by rw [arrTo, HSK.out, List.append_nil]; exact HY.out, HT.out.below (below_drewN' (Below.refl _ _) _), below_drewN' HB.out _⟩
          case measure => simp [intOf]; omega
      · have hkn : k = N + 1 := by omega
        have HKN := Lib.hid hkn
        clear hkn hbel
        go_wp2_with fail
        go_ret
        refine ⟨_, rfl, ⟨vs, ?_⟩, HB.out⟩
        rw [arrF, ← HKN.out, ← HY.out]
        exact HT.out

end Go.Proofs.Ytkhhemlfahdbnab
