/-
  The list of all states; the least closed set: the contracts of l01All, l01Sink and of both SinkOf.
-/
import Derived.Test.YtfkmpabohebcfaaConn
import Derived.Test.YtfkmpabohebcfaaAll
namespace Go.Proofs.Ytfkmpabohebcfaa
open Go.RowKit Go.Deep Go.ChangeShapes Go.WideShapes

theorem own_apart {w w' : World} {base : Nat} {e : TypeId} {v : Value} {n : Nat} {cs : List Value} {row : Option Nat} (h : w.ownsRow base e 1 v n cs) (hg : w.grownBy w' row) (hne : ∀ k, v.ownBlock = some k → row ≠ some k) : w'.ownsRow base e 1 v n cs :=
  h.kept hg (by
    rcases hv : v.ownBlock with _ | g
    · exact .inl rfl
    · exact .inr (fun e => hne g hv e.symm))
/-- The states that the first k states reach. -/
noncomputable def sinkF (m : Nat) (xss : List (List Int)) (k : Nat) : Nat → Bool := fun q => (List.range k).all fun s => reachF m xss s q
theorem sinkF_0 (m : Nat) (xss : List (List Int)) : sinkF m xss 0 = fun _ => true := by funext q; simp [sinkF]
theorem sinkF_step (m : Nat) (xss : List (List Int)) (k q : Nat) : sinkF m xss (k + 1) q = (sinkF m xss k q && reachF m xss k q) := by simp [sinkF, List.range_succ]
/-- Of the first i elements of a list those that are in another one. -/
def inL (L here : List Int) (i : Nat) : List Int := (L.take i).filter (hasB here)
theorem inL_t {L here : List Int} {i : Nat} {x : Int} (hx : L[i]? = some x) (h : hasB here x = true) : inL L here (i + 1) = inL L here i ++ [x] := by
  unfold inL; rw [take_snoc hx, List.filter_append]; simp [h]
theorem inL_f {L here : List Int} {i : Nat} {x : Int} (hx : L[i]? = some x) (h : hasB here x = false) : inL L here (i + 1) = inL L here i := by
  unfold inL; rw [take_snoc hx, List.filter_append]; simp [h]
theorem inL_len (L here : List Int) (i : Nat) : (inL L here i).length ≤ L.length := Nat.le_trans (List.length_filter_le _ _) (List.length_take_le' _ _)
theorem inL_setL {f g : Nat → Bool} {n : Nat} (hn : n ≤ 10) : inL (setL f n) (setL g 10) (setL f n).length = setL (fun q => f q && g q) n := by
  unfold inL
  rw [List.take_length]
  unfold setL
  rw [List.filter_map, List.filter_filter]
  congr 1
  apply List.filter_congr
  intro q hq
  have hq' : q < 10 := by have := List.mem_range.1 hq; omega
  have := has_setL (f := g) (k := 10) hq'
  unfold setL at this
  simp only [Function.comp_apply]
  rw [this, Bool.and_comm]

set_option maxRecDepth 100000 in
set_option maxHeartbeats 1500000 in
theorem l01Sink_any (p : Nat) (A : Option Addr) (n m cap : Nat) (xss : List (List Int)) (w : World) (hg : Good n m xss) (c0 : w.cell? ⟨p, 0, none⟩ = some (.int .i64 (n : Int))) (c1 : w.cell? ⟨p, 1, none⟩ = some (.slice A m cap)) (hR : RowsAt w A m xss) :
    Calls Try.prog 61 #[.pointer (some ⟨p, 0, none⟩)] w fun e w' => ∃ v, e = .returned (.tuple #[v, .bool (decide (0 < (setL (sinkF m xss n) n).length))]) ∧ w'.ownsRow w.heap.size 2 1 v (setL (sinkF m xss n) n).length ((setL (sinkF m xss n) n).map (Value.int .i64)) ∧ Below w.heap.size w w' := by
  obtain ⟨i0, hi, hz0, hz1, hz2⟩ := info_parts info_int64
  have HG := Lib.hid hg
  have hn10 : n ≤ 10 := hg.n10
  clear hg
  go_enter Try.func61, Try.ntmps61
  go_wp2_with fail
  refine (l01All_any n w hn10).mono ?_
  rintro e w0 ⟨v0, rfl, o0, b0⟩
  have HO0 := Lib.hid o0
  have HB0 := Lib.hid b0
  clear o0 b0
  go_wp2_with fail
  go_loopw [4, 5] (fun v i wr => ∃ (k : Nat) (L : List Int), k ≤ n ∧ i = .int .i64 k ∧ L = setL (sinkF m xss k) n ∧ wr.ownsRow w.heap.size 2 1 v L.length (L.map (Value.int .i64)) ∧ Below w.heap.size w wr) (fun _ i _ => n - (intOf i).toNat)
  case atStart => exact ⟨0, allL n, Nat.zero_le _, rfl, by rw [sinkF_0, allL_setL], HO0.out, HB0.out⟩
  case round =>
    obtain ⟨k, L, hk, rfl, hL, hown, hbel⟩ := hrel
    have hlen : L.length ≤ 10 := by rw [hL]; exact Nat.le_trans (setL_len _ _) hn10
    have HL := Lib.hid hL
    obtain ⟨A3, c3, rfl⟩ := own_form hown
    have HO := Lib.hid hown
    have HB := Lib.hid hbel
    have d0 : wr.cell? ⟨p, 0, none⟩ = some (.int .i64 (n : Int)) := (hbel.cell (cell_lt c0)).trans c0
    have d1 : wr.cell? ⟨p, 1, none⟩ = some (.slice A m cap) := (hbel.cell (cell_lt c1)).trans c1
    clear hown hbel hL
    by_cases hlt : k < n
    · have d1' : (wr.alloc (.cells #[] 2)).cell? ⟨p, 1, none⟩ = some (.slice A m cap) := (((Below.refl _ wr).alloc (Nat.le_refl _) _).cell (cell_lt d1)).trans d1
      have D1' := Lib.hid d1'
      have HBE := Lib.hid (HB.out.alloc HB.out.size (.cells #[] 2))
      obtain ⟨R, hRR⟩ : ∃ R, R = setL (reachF m xss k) 10 := ⟨_, rfl⟩
      have hRlen : R.length ≤ 10 := by rw [hRR]; exact setL_len _ _
      have HRR := Lib.hid hRR
      clear d1' hRR
      go_wp2_with fail
      refine (l01Reached_any p A n m cap k xss _ HG.out D1'.out (hR.below HBE.out) hlt).mono ?_
      rw [← HRR.out]
      rintro e w3 ⟨v3, rfl, o3, b3⟩
      obtain ⟨A4, c4, rfl⟩ := own_form o3
      have HB3 := Lib.hid (below_then HBE.out b3)
      have HO4 := Lib.hid (own_below (World.ownsRow.alloc HO.out (.cells #[] 2)) b3)
      have HO5 := Lib.hid (own_below (own_none wr w.heap.size HB.out.size) b3)
      obtain ⟨G0, hG0⟩ : ∃ G0, G0 = wr.heap.size := ⟨_, rfl⟩
      have U5 := Lib.hid (show ∀ q, Value.ownBlock (.slice (some ⟨wr.heap.size, 0, none⟩) 0 0) = some q → q = G0 ∨ w3.heap.size ≤ q by intro q hq; simp [Value.ownBlock] at hq; omega)
      have Z3 := Lib.hid (show G0 + 1 ≤ w3.heap.size by have := b3.size; rw [hG0]; simpa using this)
      have UL := Lib.hid (show ∀ q, Value.ownBlock (.slice A3 L.length c3) = some q → q < G0 by intro q hq; rw [hG0]; exact (HO.out.lt q hq).2)
      have UR := Lib.hid (show ∀ q, Value.ownBlock (.slice A4 R.length c4) = some q → G0 + 1 ≤ q ∧ q < w3.heap.size by intro q hq; have := o3.lt q hq; rw [World.size_alloc] at this; omega)
      have HO3 := Lib.hid (own_base (base' := w.heap.size) o3 (by rw [World.size_alloc]; exact Nat.le_succ_of_le HB.out.size))
      have HG0 := Lib.hid hG0
      clear hG0
      clear o3 b3 d0 d1
      go_wp2_with fail
      go_loopw [6, 8] (fun v i wi => ∃ (j : Nat) (C : List Int), j ≤ L.length ∧ i = .int .i64 j ∧ C = inL L R j ∧ wi.ownsRow w.heap.size 2 1 v C.length (C.map (Value.int .i64)) ∧ (∀ q, v.ownBlock = some q → q = G0 ∨ w3.heap.size ≤ q) ∧ Below w.heap.size w wi ∧
          wi.ownsRow w.heap.size 2 1 (.slice A3 L.length c3) L.length (L.map (Value.int .i64)) ∧ wi.ownsRow w.heap.size 2 1 (.slice A4 R.length c4) R.length (R.map (Value.int .i64)) ∧ w3.heap.size ≤ wi.heap.size) (fun _ i _ => L.length - (intOf i).toNat)
      case atStart => exact ⟨0, [], Nat.zero_le _, rfl, by simp [inL], HO5.out, U5.out, HB3.out, HO4.out, HO3.out, Nat.le_refl _⟩
      case round =>
        obtain ⟨j, C, hj, rfl, hC, hown, hu, hbel, hL1, hR1, hz⟩ := hrel
        have hclen : C.length ≤ 10 := by rw [hC]; exact Nat.le_trans (inL_len _ _ _) hlen
        have HC := Lib.hid hC
        obtain ⟨A5, c5, rfl⟩ := own_form hown
        have HO1 := Lib.hid hown
        have HU1 := Lib.hid hu
        have HB1 := Lib.hid hbel
        have HL1 := Lib.hid hL1
        have HR1 := Lib.hid hR1
        have HZ1 := Lib.hid hz
        clear hC hown hu hbel hL1 hR1 hz
        by_cases hjl : j < L.length
        · obtain ⟨x, b, off, hx, hA, hcell⟩ := (NumsAt.own HL1.out (by simp) rfl).at_ hjl
          subst hA
          have HX := Lib.hid hx
          have i1 : (0 : Int) ≤ (j : Int) := by omega
          have i2 : (j : Int) < (L.length : Int) := by omega
          rcases hhas : hasB R x with _ | _
          · have HH := Lib.hid hhas
            clear hx
            go_wp2_with fail
            refine (l00Has_any A4 R.length c4 R x _ (NumsAt.own HR1.out (by simp) rfl) (by omega)).mono ?_
            rw [hhas]
            rintro e wh ⟨rfl, rfl⟩
            go_wp2_with fail
            go_roundw
            case rel => exact ⟨j + 1, C, by omega, by go_num, by rw [inL_f HX.out HH.out]; exact HC.out, HO1.out, HU1.out, HB1.out, HL1.out, HR1.out, HZ1.out⟩
            case measure => simp [intOf]; omega
          · have HH := Lib.hid hhas
            clear hx
            go_wp2_with fail
            refine (l00Has_any A4 R.length c4 R x _ (NumsAt.own HR1.out (by simp) rfl) (by omega)).mono ?_
            rw [hhas]
            rintro e wh ⟨rfl, rfl⟩
            go_wp2_with (at_builtin; refine wpList_append_own_at _ rfl _ _ 26 rfl (w.heap.size) 2 i0 (.int .i64 0) 1 8 Try.underlying26 hi hz0 hz1 hz2 rfl (by decide) _ _ _ rfl (World.ownsRow.alloc (HO1.out) _) ⟨(wr).heap.size, 0, none⟩ 1 1 [.int .i64 x] rfl rfl (cell_one_new _ _ _) (ones_i64 [x]) (by unfold maxLen; omega) (by omega) (by rw [World.size_alloc]; exact Nat.le_succ_of_le (HB1.out.size)) ?_)
            intro v' w2 hown' hgrow _ hat
            have HO2 := Lib.hid hown'
            have HG2 := Lib.hid hgrow
            have HAT := Lib.hid hat
            have kL := own_apart (World.ownsRow.alloc HL1.out _) hgrow (fun q hq e => by have h1 := UL.out q hq; have h2 := HU1.out q e; have := Z3.out; omega)
            have kR := own_apart (World.ownsRow.alloc HR1.out _) hgrow (fun q hq e => by have h1 := UR.out q hq; have h2 := HU1.out q e; omega)
            have KL := Lib.hid kL
            have KR := Lib.hid kR
            clear hown' hgrow hat kL kR
            go_wp2_with fail
            go_roundw
            case rel =>
              refine ⟨j + 1, C ++ [x], by omega, by go_num, by rw [inL_t HX.out HH.out, ← HC.out], by rw [List.length_append, List.map_append]; exact HO2.out, fun q hq => ?_, ?_, KL.out, KR.out, ?_⟩
              · rcases HAT.out with e | e
                · exact HU1.out q (e ▸ hq)
                · rw [e] at hq
                  have h1 := Option.some.inj hq
                  have h2 := HZ1.out
                  omega
              · exact (HB1.out.alloc HB1.out.size _).grown HG2.out (by rw [World.size_alloc]; exact Nat.le_succ_of_le HB1.out.size) (fun j hj => (HO1.out.lt j hj).1)
              · have := HG2.out.size
                rw [World.size_alloc] at this
                have := HZ1.out
                omega
            case measure => simp [intOf]; omega
        · have hjl' : j = L.length := by omega
          have HJ := Lib.hid hjl'
          clear hjl'
          go_wp2_with fail
          go_roundw
          case rel =>
            refine ⟨k + 1, C, by omega, by go_num, ?_, HO1.out, HB1.out⟩
            have e1 := HC.out
            rw [HJ.out] at e1
            rw [e1, HL.out, HRR.out, inL_setL hn10]
            congr 1
            funext q
            rw [sinkF_step]
          case measure => simp [intOf]; omega
    · have hkn : k = n := by omega
      subst hkn
      obtain ⟨T, hT⟩ : ∃ T, T = decide (0 < L.length) := ⟨_, rfl⟩
      have HTT := Lib.hid hT
      have e0 : decide ((0 : Int) < (L.length : Int)) = T := by rw [hT]; simp
      clear hT
      go_wp2_with fail
      go_ret2
      rw [← HL.out, ← HTT.out]
      exact ⟨_, rfl, HO.out, HB.out⟩

/-- What SinkOf answers. -/
noncomputable def sinkOf (s : Int) (xss : List (List Int)) : List Int × Int :=
  if okA s xss = true then (if 0 < (setL (sinkF xss.length xss s.toNat) s.toNat).length then (setL (sinkF xss.length xss s.toNat) s.toNat, 0) else ([], 6)) else ([], 1)
theorem sinkOf_1 {s : Int} {xss : List (List Int)} (h : okA s xss = false) : sinkOf s xss = ([], 1) := by unfold sinkOf; rw [if_neg (by simp [h])]
theorem sinkOf_6 {n m : Nat} {xss : List (List Int)} (h : okA (n : Int) xss = true) (hm : xss.length = m) (h' : ¬ 0 < (setL (sinkF m xss n) n).length) : sinkOf (n : Int) xss = ([], 6) := by
  unfold sinkOf; rw [if_pos h, hm]; show (if 0 < (setL (sinkF m xss n) n).length then _ else _) = _; rw [if_neg h']
theorem sinkOf_0 {n m : Nat} {xss : List (List Int)} (h : okA (n : Int) xss = true) (hm : xss.length = m) (h' : 0 < (setL (sinkF m xss n) n).length) : sinkOf (n : Int) xss = (setL (sinkF m xss n) n, 0) := by
  unfold sinkOf; rw [if_pos h, hm]; show (if 0 < (setL (sinkF m xss n) n).length then _ else _) = _; rw [if_pos h']; rfl
theorem sinkOf_len (s : Int) (xss : List (List Int)) : (sinkOf s xss).1.length ≤ 10 := by
  unfold sinkOf
  split
  · rename_i h
    obtain ⟨⟨_, h2⟩, _⟩ := okA_parts h
    split
    · exact Nat.le_trans (setL_len _ _) (by omega)
    · simp
  · simp
theorem sink_common {n m : Nat} {xss : List (List Int)} (hg : Good n m xss) : setL (comK m xss n) 10 = setL (sinkF m xss n) n := by
  have e := setL_short (f := comK m xss n) (n := n) (fun q hq => reachF_lt hg hg.n1 (by simp [comK] at hq; exact hq.1)) (10 - n)
  have hn10 := hg.n10
  rw [show n + (10 - n) = 10 by omega] at e
  rw [e]
  unfold setL
  congr 1
  apply List.filter_congr
  intro q hq
  have h0 := hg.n1
  rw [Bool.eq_iff_iff]
  simp only [comK, sinkF, Bool.and_eq_true, List.all_eq_true, List.mem_range]
  exact ⟨fun h => h.2, fun h => ⟨h 0 h0, h⟩⟩

set_option maxRecDepth 100000 in
set_option maxHeartbeats 1000000 in
theorem specSinkOf_any (s : Int) (A : Option Addr) (m cap : Nat) (xss : List (List Int)) (w : World) (h : RowsAt w A m xss) (hm : m ≤ 4611686018427387904)
    (hrows : ∀ (r : Nat) (xs : List Int), xss[r]? = some xs → xs.length ≤ 4611686018427387904) :
    Calls Try.prog 26 #[.agg #[.int .i64 s, .slice A m cap]] w (ListsTo (sinkOf s xss) w) := by
  have HR := Lib.hid hrows
  have HM := Lib.hid h.1
  have b0 : Below w.heap.size w (w.alloc (.cells #[.int .i64 s, .slice A m cap] 29)) := (Below.refl _ _).alloc (Nat.le_refl _) _
  have H0 := Lib.hid (h.below b0)
  have B0 := Lib.hid b0
  clear hrows b0
  rcases hok : okA s xss with _ | _
  · have HF := Lib.hid (sinkOf_1 hok)
    go_enter Try.func26, Try.ntmps26
    go_wp2_with fail
    refine (l01Ok_any w.heap.size s A m cap xss _ (by go_cell) (by go_cell) H0.out hm HR.out).mono ?_
    rw [hok]
    rintro e w' ⟨rfl, d, rfl⟩
    go_wp2_with fail
    go_ret2
    exact listsTo_mk HF.out (own_none' (by simp) (by simp)) ((below_drewN' B0.out _).alloc (by simp) _)
  · obtain ⟨n, hsn, hg⟩ := good_of hok HM.out
    subst hsn
    have HG := Lib.hid hg
    clear hg
    obtain ⟨L, hL⟩ : ∃ L, L = setL (sinkF m xss n) n := ⟨_, rfl⟩
    have HL := Lib.hid hL
    clear hL
    by_cases hpos : 0 < L.length
    · have HF := Lib.hid (sinkOf_0 hok HM.out (by rw [← HL.out]; exact hpos))
      have hd : decide (0 < L.length) = true := by simpa using hpos
      have HD := Lib.hid hd
      clear hpos hd
      go_enter Try.func26, Try.ntmps26
      go_wp2_with fail
      refine (l01Ok_any w.heap.size (n : Int) A m cap xss _ (by go_cell) (by go_cell) H0.out hm HR.out).mono ?_
      rw [hok]
      rintro e w' ⟨rfl, d, rfl⟩
      go_wp2_with fail
      refine (l01Sink_any w.heap.size A n m cap xss _ HG.out (by go_cell) (by go_cell) (H0.out.drewN _)).mono ?_
      rw [← HL.out, HD.out]
      rintro e w2 ⟨v, rfl, o2, b2⟩
      obtain ⟨V2, e2, rfl⟩ := own_form o2
      have O2 := Lib.hid o2
      have B2 := Lib.hid (below_then (below_drewN' B0.out d) b2)
      clear o2 b2
      go_wp2_with fail
      go_ret2
      exact listsTo_mk (by rw [HF.out, ← HL.out]) (own_base O2.out (by simp)) B2.out
    · have HF := Lib.hid (sinkOf_6 hok HM.out (by rw [← HL.out]; exact hpos))
      have hd : decide (0 < L.length) = false := by simpa using hpos
      have HD := Lib.hid hd
      clear hpos hd
      go_enter Try.func26, Try.ntmps26
      go_wp2_with fail
      refine (l01Ok_any w.heap.size (n : Int) A m cap xss _ (by go_cell) (by go_cell) H0.out hm HR.out).mono ?_
      rw [hok]
      rintro e w' ⟨rfl, d, rfl⟩
      go_wp2_with fail
      refine (l01Sink_any w.heap.size A n m cap xss _ HG.out (by go_cell) (by go_cell) (H0.out.drewN _)).mono ?_
      rw [← HL.out, HD.out]
      rintro e w2 ⟨v, rfl, o2, b2⟩
      obtain ⟨V2, e2, rfl⟩ := own_form o2
      have B2 := Lib.hid (below_then (below_drewN' B0.out d) b2)
      clear o2 b2
      go_wp2_with fail
      go_ret2
      exact listsTo_mk HF.out (own_none' (by simp) (by have := B2.out.size; simp at this ⊢; omega)) (B2.out.alloc B2.out.size _)

set_option maxRecDepth 100000 in
set_option maxHeartbeats 1000000 in
theorem implSinkOf_any (s : Int) (A : Option Addr) (m cap : Nat) (xss : List (List Int)) (w : World) (h : RowsAt w A m xss) (hm : m ≤ 4611686018427387904)
    (hrows : ∀ (r : Nat) (xs : List Int), xss[r]? = some xs → xs.length ≤ 4611686018427387904) :
    Calls Try.prog 27 #[.agg #[.int .i64 s, .slice A m cap]] w (ListsTo (sinkOf s xss) w) := by
  have HR := Lib.hid hrows
  have HM := Lib.hid h.1
  have b0 : Below w.heap.size w (w.alloc (.cells #[.int .i64 s, .slice A m cap] 29)) := (Below.refl _ _).alloc (Nat.le_refl _) _
  have H0 := Lib.hid (h.below b0)
  have B0 := Lib.hid b0
  clear hrows b0
  rcases hok : okA s xss with _ | _
  · have HF := Lib.hid (sinkOf_1 hok)
    go_enter Try.func27, Try.ntmps27
    go_wp2_with fail
    refine (implValid_any s A m cap xss _ H0.out hm HR.out).mono ?_
    rw [hok]
    rintro e w1 ⟨rfl, b1⟩
    have B1 := Lib.hid (below_then B0.out b1)
    clear b1
    go_wp2_with fail
    go_ret2
    exact listsTo_mk HF.out (World.ownsRow_nil _ _ _ _) B1.out
  · obtain ⟨n, hsn, hg⟩ := good_of hok HM.out
    subst hsn
    have HG := Lib.hid hg
    have HC := Lib.hid (sink_common hg)
    clear hg
    obtain ⟨L, hL⟩ : ∃ L, L = setL (sinkF m xss n) n := ⟨_, rfl⟩
    have HL := Lib.hid hL
    clear hL
    have hLn : L.length ≤ 10 := by rw [HL.out]; exact Nat.le_trans (setL_len _ _) HG.out.n10
    by_cases hpos : 0 < L.length
    all_goals
      go_enter Try.func27, Try.ntmps27
      go_wp2_with fail
      refine (implValid_any (n : Int) A m cap xss _ H0.out hm HR.out).mono ?_
      rw [hok]
      rintro e w1 ⟨rfl, b1⟩
      have d0 : w1.cell? ⟨w.heap.size, 0, none⟩ = some (.int .i64 (n : Int)) := (b1.cell (by simp)).trans (by go_cell)
      have d1 : w1.cell? ⟨w.heap.size, 1, none⟩ = some (.slice A m cap) := (b1.cell (by simp)).trans (by go_cell)
      have H1 := Lib.hid (H0.out.below b1)
      have B1 := Lib.hid (below_then B0.out b1)
      clear b1
      go_wp2_with fail
      refine (reachedFromAll_any A n m cap xss _ HG.out H1.out).mono ?_
      rintro e w2 ⟨rfl, b2⟩
      have B2 := Lib.hid (below_then B1.out b2)
      clear b2
      go_wp2_with fail
      refine (marksSet_any (comK m xss n) _).mono ?_
      rw [HC.out, ← HL.out]
      rintro e w3 ⟨v, rfl, o3, b3⟩
      obtain ⟨V3, e3, rfl⟩ := own_form o3
      have O3 := Lib.hid o3
      have B3 := Lib.hid (below_then B2.out b3)
      have HZ := Lib.hid B2.out.size
      clear o3 b3
    · have hne : ((L.length : Int) == 0) = false := by rw [beq_eq_false_iff_ne]; omega
      have HF := Lib.hid (sinkOf_0 hok HM.out (by rw [← HL.out]; exact hpos))
      clear hpos
      go_wp2_with fail
      go_ret2
      exact listsTo_mk (by rw [HF.out, ← HL.out]) (own_base O3.out HZ.out) B3.out
    · have hne : ((L.length : Int) == 0) = true := by rw [beq_iff_eq]; omega
      have HF := Lib.hid (sinkOf_6 hok HM.out (by rw [← HL.out]; exact hpos))
      clear hpos
      go_wp2_with fail
      go_ret2
      exact listsTo_mk HF.out (World.ownsRow_nil _ _ _ _) B3.out

end Go.Proofs.Ytfkmpabohebcfaa
