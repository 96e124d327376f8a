/-
  Arrangements of a list in order, on lists alone; rows with their capacity; the contract of the program's arrangementsOf.
-/
import Derived.Test.YtkhhemlfahdbnabCat
import Derived.Test.YtkhhemlfahdbnabRoadO
import Derived.Deep.DeepCutAuto
import Derived.Deep.RegionLaw
namespace Go.Proofs.Ytkhhemlfahdbnab
open Go.RowKit Go.Deep Go.ChangeShapes Go.WideShapes

/-- The place k of a list has the number of the place before it. -/
def skipB (xs : List Int) (k : Nat) : Bool := decide (0 < k) && decide (xs.getD (k - 1) 0 = xs.getD k 0)
def arrOne (f : List Int → List (List Int)) (xs : List Int) (k : Nat) : List (List Int) := if skipB xs k = true then [] else (f (xs.take k ++ xs.drop (k + 1))).map (fun l => xs.getD k 0 :: l)
def arrTo (f : List Int → List (List Int)) (xs : List Int) : Nat → List (List Int)
  | 0 => []
  | k + 1 => arrTo f xs k ++ arrOne f xs k
def arrF : Nat → List Int → List (List Int)
  | 0, _ => [[]]
  | N + 1, xs => arrTo (arrF N) xs (N + 1)
theorem arrTo_len {f : List Int → List (List Int)} {K : Nat} (hf : ∀ ys, (f ys).length ≤ K) (xs : List Int) : ∀ k, (arrTo f xs k).length ≤ k * K
  | 0 => by simp [arrTo]
  | k + 1 => by
    have h := arrTo_len hf xs k
    have h2 := hf (xs.take k ++ xs.drop (k + 1))
    rw [arrTo, List.length_append, Nat.add_mul, Nat.one_mul]
    unfold arrOne
    split
    · simp; omega
    · rw [List.length_map]; omega
def arrB : Nat → Nat
  | 0 => 1
  | N + 1 => (N + 1) * arrB N
theorem arrF_len : ∀ (N : Nat) (xs : List Int), (arrF N xs).length ≤ arrB N
  | 0, _ => Nat.le_refl _
  | N + 1, xs => arrTo_len (arrF_len N) xs (N + 1)
theorem arrB_le {N : Nat} (h : N ≤ 3) : arrB N ≤ 6 := by
  have : N = 0 ∨ N = 1 ∨ N = 2 ∨ N = 3 := by omega
  rcases this with rfl | rfl | rfl | rfl <;> decide
theorem arrF_len6 {N : Nat} (h : N ≤ 3) (xs : List Int) : (arrF N xs).length ≤ 6 := Nat.le_trans (arrF_len N xs) (arrB_le h)
theorem arrTo_len18 {N k : Nat} (h : N + 1 ≤ 3) (hk : k ≤ N + 1) (xs : List Int) : (arrTo (arrF N) xs k).length ≤ 18 := by
  have h1 := arrTo_len (arrF_len N) xs k
  have h2 := arrB_le (N := N) (by omega)
  have h3 : k * arrB N ≤ 3 * 6 := Nat.mul_le_mul (by omega) h2
  omega
theorem arrF_rows : ∀ (N : Nat) (xs : List Int), xs.length = N → ∀ l ∈ arrF N xs, l.length = N
  | 0, _, _, l, hl => by simp [arrF] at hl; rw [hl]; rfl
  | N + 1, xs, hx, l, hl => by
    have : ∀ k, k ≤ N + 1 → ∀ l ∈ arrTo (arrF N) xs k, l.length = N + 1 := by
      intro k
      induction k with
      | zero => intro _ l hl; simp [arrTo] at hl
      | succ k ih =>
        intro hk l hl
        rw [arrTo, List.mem_append] at hl
        rcases hl with hl | hl
        · exact ih (by omega) l hl
        · unfold arrOne at hl
          split at hl
          · simp at hl
          · rw [List.mem_map] at hl
            obtain ⟨t, ht, rfl⟩ := hl
            have := arrF_rows N (xs.take k ++ xs.drop (k + 1)) (by simp; omega) t ht
            simp [this]
    exact this (N + 1) (Nat.le_refl _) l hl
theorem skipB_0 (xs : List Int) : skipB xs 0 = false := by simp [skipB]
theorem skipB_is {xs : List Int} {k : Nat} {x y : Int} (h0 : 0 < k) (hx : xs[k]? = some x) (hy : xs[k - 1]? = some y) : skipB xs k = decide (y = x) := by
  unfold skipB
  rw [decide_eq_true h0, Bool.true_and, List.getD_eq_getElem?_getD, List.getD_eq_getElem?_getD, hx, hy]
  rfl
theorem arrOne_skip {f : List Int → List (List Int)} {xs : List Int} {k : Nat} (h : skipB xs k = true) : arrOne f xs k = [] := by unfold arrOne; rw [if_pos h]
theorem arrOne_go {f : List Int → List (List Int)} {xs : List Int} {k : Nat} {x : Int} (h : skipB xs k = false) (hx : xs[k]? = some x) : arrOne f xs k = (f (xs.take k ++ xs.drop (k + 1))).map (fun l => x :: l) := by
  unfold arrOne; rw [if_neg (by rw [h]; simp), List.getD_eq_getElem?_getD, hx]; rfl

/-! ### Lists with their capacity -/
def CapAt (w : World) (v : Value) (xs : List Int) : Prop := ∃ A c, v = .slice A xs.length c ∧ NumsAt w A xs.length xs ∧ xs.length ≤ c ∧ (A = none → c = 0)
theorem CapAt.below {w w' : World} {v : Value} {xs : List Int} (h : CapAt w v xs) (hb : Below w.heap.size w w') : CapAt w' v xs := by
  obtain ⟨A, c, e, h1, h2, h3⟩ := h
  exact ⟨A, c, e, h1.below hb, h2, h3⟩
theorem CapAt.own {w : World} {base : Nat} {v : Value} {xs : List Int} (h : w.ownsRow base 2 1 v xs.length (xs.map (Value.int .i64))) : CapAt w v xs := by
  rcases h.2 with ⟨hv, h0⟩ | ⟨g, cap, cur, hv, hg, hh, hn, hcap, hsz, htake⟩
  · have : xs = [] := List.eq_nil_of_length_eq_zero h0
    subst this
    exact ⟨none, 0, hv, NumsAt.nil _ _, Nat.le_refl _, fun _ => rfl⟩
  · subst hv
    exact ⟨_, cap, rfl, NumsAt.own h rfl rfl, hn, fun e => by cases e⟩
/-- What a cut of a list reads as. -/
theorem cut_src {w : World} {b off n i j : Nat} {xs : List Int} (h : NumsAt w (some ⟨b, off, none⟩) n xs) (hij : i ≤ j) (hj : j ≤ n) : NumsAt w (some ⟨b, off + i, none⟩) (j - i) ((xs.take j).drop i) := by
  refine ⟨by rw [List.length_drop, List.length_take, h.1]; omega, fun k x hx => ?_⟩
  rw [List.getElem?_drop, List.getElem?_take] at hx
  split at hx
  · obtain ⟨b', off', e, hc⟩ := h.2 _ x hx
    simp only [Option.some.injEq, Addr.mk.injEq, and_true] at e
    obtain ⟨rfl, rfl⟩ := e
    exact ⟨b, off + i, rfl, by rw [Nat.add_assoc]; exact hc⟩
  · cases hx

theorem TabV.beside {lo hi : Nat} {w w' : World} {v : Value} {vs : List Value} {xss : List (List Int)} {row : Option Nat} (h : TabV lo hi w v vs xss) (hg : w.grownBy w' row) (hr : ∀ g, row = some g → g < lo ∨ hi ≤ g) : TabV lo hi w' v vs xss := by
  cases row with
  | none => exact h.below ⟨hg.os, hg.tape, hg.output, hg.size, fun k hk => hg.block k hk (by simp)⟩
  | some g =>
    rcases hr g rfl with a | a
    · exact h.only (Only.of_grown hg) (.inr (by omega))
    · exact h.only (Only.of_grown hg) (.inl a)

theorem info_ints' : (Try.prog.info? 64).map (fun i => (i.zero, i.size, i.bytes)) = some (some (.slice none 0 0), 1, 24) := by kernel_rfl

set_option maxRecDepth 100000 in
set_option maxHeartbeats 8000000 in
theorem arrangementsOf_any : ∀ (N : Nat) (v : Value) (xs : List Int) (w : World), xs.length = N → N ≤ 3 → CapAt w v xs →
    Calls Try.prog 133 #[v] w fun e w' => ∃ u, e = .returned u ∧ TabIn w.heap.size w'.heap.size w' u (arrF N xs) ∧ Below w.heap.size w w'
  | 0, v, xs, w, hN, hN3, hv => by
    obtain ⟨A, c, rfl, hn, hc, _⟩ := hv
    have hl : xs.length = 0 := hN
    go_enter Try.func133, Try.ntmps133
    go_wp2_with fail
    go_ret
    refine ⟨_, rfl, ⟨[.slice none 0 0], rfl, World.ownsRow_lit (e := 64) w #[.slice none 0 0] 1 (Nat.le_refl _) (by unfold maxLen; omega) rfl, fun g hg => ?_, fun r u ys hu hy => ?_, fun r r' u u' g hu hu' hg => ?_, fun r u g hu hg => ?_⟩, (Below.refl _ _).alloc (Nat.le_refl _) _⟩
    · simp [Value.ownBlock] at hg; subst hg; simp
    · rcases r with _ | r
      · simp [arrF] at hu hy
        subst hu hy
        exact ⟨World.ownsRow_nil _ _ _ _, fun g hg => by simp [Value.ownBlock] at hg⟩
      · simp at hu
    · rcases r with _ | r
      · simp at hu; subst hu; simp [Value.ownBlock] at hg
      · simp at hu
    · rcases r with _ | r
      · simp at hu; subst hu; simp [Value.ownBlock] at hg
      · simp at hu
  | N + 1, v, xs, w, hN, hN3, hv => by
    have IH := Lib.hid (arrangementsOf_any N)
    obtain ⟨i1, hi1, hy0, hy1, hy2⟩ := info_parts info_ints
    obtain ⟨A, c, rfl, hn, hc, _⟩ := hv
    have HN := Lib.hid hN
    rw [hN] at hn hc ⊢
    obtain ⟨b, off, rfl, hcells⟩ := nums_base hn (by omega)
    have HNUM := Lib.hid hn
    have HC := Lib.hid hcells
    clear hn hcells hN
    have hlz : ((N : Int) + 1 == 0) = false := by rw [beq_eq_false_iff_ne]; omega
    go_enter Try.func133, Try.ntmps133
    go_wp2_with fail
    clear hlz
    go_loopw [3, 14] (fun v i wr => ∃ (k : Nat) (vs : List Value) (Y : List (List Int)), k ≤ N + 1 ∧ i = .int .i64 k ∧ Y = arrTo (arrF N) xs k ∧ TabV w.heap.size wr.heap.size wr v vs Y ∧ Below w.heap.size w wr) (fun _ i _ => N + 1 - (intOf i).toNat)
    case atStart => exact ⟨0, [], [], Nat.zero_le _, rfl, rfl, tabV_nil _ _ _, Below.refl _ _⟩
    case round =>
      obtain ⟨k, vs, Y, hk, rfl, hY, htab, hbel⟩ := hrel
      obtain ⟨A3, c3, rfl⟩ := own_form htab.out
      have HY := Lib.hid hY
      have HT := Lib.hid htab
      have HB := Lib.hid hbel
      clear hY htab
      by_cases hlt : k < N + 1
      · obtain ⟨x, hx⟩ : ∃ x, xs[k]? = some x := ⟨xs[k]'(by rw [HN.out]; exact hlt), List.getElem?_eq_getElem _⟩
        have hcx := (hbel.cell (cell_lt (HC.out k x hx))).trans (HC.out k x hx)
        have HX := Lib.hid hx
        have ik0 : (0 : Int) ≤ (k : Int) := by omega
        have ik1 : (k : Int) < ((N + 1 : Nat) : Int) := by omega
        clear hbel
        rcases hsk : skipB xs k with _ | _
        · have HSK := Lib.hid (arrOne_go (f := arrF N) hsk hx)
          have h9 : Below wr.heap.size wr wr := Below.refl _ _
          have hcap : (N + 1 : Nat) ≤ c := hc
          have hadd : IntKind.i64.wrap ((k : Int) + 1) = ((k + 1 : Nat) : Int) := by rw [show (k : Int) + 1 = ((k + 1 : Nat) : Int) by omega]; exact IntWalk.i64_in _ (by omega)
          have ik2 : (k : Int) ≤ (c : Int) := by omega
          have ik3 : ((k + 1 : Nat) : Int) ≤ ((N + 1 : Nat) : Int) := by omega
          have ik4 : (0 : Int) ≤ ((k + 1 : Nat) : Int) := by omega
          have ik5 : ((N + 1 : Nat) : Int) ≤ (c : Int) := by omega
          have ik6 : k ≤ N := by omega
          have ik7 : (0 : Int) ≤ (k : Int) + 1 := by omega
          have hlt1 : (xs.take k).length = k := by rw [List.length_take, HN.out]; omega
          have hlt2 : (xs.drop (k + 1)).length = N - k := by rw [List.length_drop, HN.out]; omega
          have KN := Lib.hid (show ∀ W', Below wr.heap.size wr W' → NumsAt W' (some ⟨b, off, none⟩) (N + 1) xs from fun W' hb => HNUM.out.below (below_then HB.out hb))
          have KS1 := Lib.hid (show ∀ W', Below wr.heap.size wr W' → SrcAt W' (.slice (some ⟨b, off, none⟩) k c) (xs.take k) from fun W' hb => by
            refine .inr ⟨b, off, c, by rw [hlt1], ?_⟩
            have h := cut_src (KN.out W' hb) (i := 0) (j := k) (by omega) (by omega)
            rw [hlt1]
            simpa using h)
          have KS2 := Lib.hid (show ∀ W', Below wr.heap.size wr W' → SrcAt W' (.slice (if c = k + 1 then some ⟨b, off, none⟩ else some ⟨b, off + (k + 1), none⟩) (N - k) (c - (k + 1))) (xs.drop (k + 1)) from fun W' hb => by
            have h := cut_src (KN.out W' hb) (i := k + 1) (j := N + 1) (by omega) (by omega)
            rw [List.take_of_length_le (by rw [HN.out]; exact Nat.le_refl _), show N + 1 - (k + 1) = N - k by omega] at h
            split
            · rename_i e
              have hz : N - k = 0 := by omega
              rw [hz] at hlt2
              have : xs.drop (k + 1) = [] := List.eq_nil_of_length_eq_zero hlt2
              rw [hz, this]
              exact .inr ⟨b, off, _, rfl, NumsAt.nil _ _⟩
            · refine .inr ⟨b, off + (k + 1), _, by rw [hlt2], ?_⟩
              rw [hlt2]
              exact h)
          have HL3 := Lib.hid (show (xs.take k ++ xs.drop (k + 1)).length = N by rw [List.length_append, hlt1, hlt2]; omega)
          have HL1 := Lib.hid hlt1
          have HL2 := Lib.hid hlt2
          clear hlt1 hlt2
          rcases Nat.eq_zero_or_pos k with hk0 | hk0
          case' inl =>
            have hg0 : ¬ (0 : Int) < (k : Int) := by omega
            clear hk0
            go_wp2_with fail
            clear hg0
          case' inr =>
            obtain ⟨y, hy⟩ : ∃ y, xs[k - 1]? = some y := ⟨xs[k - 1]'(by rw [HN.out]; omega), List.getElem?_eq_getElem _⟩
            have hcy := (HB.out.cell (cell_lt (HC.out (k - 1) y hy))).trans (HC.out (k - 1) y hy)
            rw [skipB_is hk0 hx hy, decide_eq_false_iff_not] at hsk
            have hyx : (y == x) = false := by rw [beq_eq_false_iff_ne]; exact hsk
            have hg0 : decide ((0 : Int) < (k : Int)) = true := decide_eq_true (by omega)
            have hwr : IntKind.i64.wrap ((k : Int) - 1) = (k : Int) - 1 := IntWalk.i64_in _ (by omega)
            have hto : ((k : Int) - 1).toNat = k - 1 := by omega
            have j1 : (0 : Int) ≤ (k : Int) - 1 := by omega
            have j2 : (k : Int) - 1 < ((N + 1 : Nat) : Int) := by omega
            go_wp2_with fail
            clear hk0 hg0 hwr hto j1 j2 hyx hcy hy
          all_goals
            clear hsk hx
            go_region_law
              (first
                | (go_simp; go_at_call 171; refine (concat_any wr.heap.size _ _ (xs.take k) (xs.drop (k + 1)) _ (by first | exact cell_of_row _ _ 0 _ _ _ (heap_alloc_new _ _)) (by first | exact cell_of_row _ _ 1 _ _ _ (heap_alloc_new _ _)) (KS1.out _ (by first | exact h9.alloc (Nat.le_refl _) _ | exact h9.drew.alloc (Nat.le_refl _) _ | exact (h9.alloc (Nat.le_refl _) _).drew | exact (h9.drew.alloc (Nat.le_refl _) _).drew)) (KS2.out _ (by first | exact h9.alloc (Nat.le_refl _) _ | exact h9.drew.alloc (Nat.le_refl _) _ | exact (h9.alloc (Nat.le_refl _) _).drew | exact (h9.drew.alloc (Nat.le_refl _) _).drew)) (by rw [HL1.out]; omega) (by rw [HL2.out]; omega)).mono ?_; rintro e' wC ⟨uC, rfl, oC, bC⟩; have hC : Below wr.heap.size wr wC := below_then (by first | exact h9.alloc (Nat.le_refl _) _ | exact h9.drew.alloc (Nat.le_refl _) _ | exact (h9.alloc (Nat.le_refl _) _).drew | exact (h9.drew.alloc (Nat.le_refl _) _).drew) bC; have OC := Lib.hid oC; clear oC bC)
                | (go_simp; go_at_call 133; refine (IH.out uC (xs.take k ++ xs.drop (k + 1)) _ HL3.out (by omega) (CapAt.below (CapAt.own OC.out) (by first | exact Below.refl _ _ | exact (Below.refl _ _).drew | exact below_drewN' (Below.refl _ _) _))).mono ?_; rintro e' wD ⟨uD, rfl, tD, bD⟩; have hD : Below wr.heap.size wr wD := below_then (by first | exact hC | exact hC.drew | exact below_drewN' hC _) bD; obtain ⟨AD, cD, rfl⟩ := tD.form; have TD := Lib.hid (tD.wide (lo' := wr.heap.size) (hi' := wD.heap.size) (by first | exact hC.size | (show wr.heap.size ≤ _; exact hC.size)) (Nat.le_refl _)); clear tD bD)
                | fail)
            generalize (if c = k + 1 then (some ⟨b, off, none⟩ : Option Addr) else some ⟨b, off + (k + 1), none⟩) = A2
            obtain ⟨L, hL⟩ : ∃ L, L = arrF N (xs.take k ++ xs.drop (k + 1)) := ⟨_, rfl⟩
            rw [← hL] at TD
            rw [← hL]
            have HL := Lib.hid hL
            have HLL := Lib.hid (show L.length ≤ 6 by rw [hL]; exact arrF_len6 (by omega) _)
            have HYL := Lib.hid (show Y.length ≤ 18 by rw [HY.out]; exact arrTo_len18 hN3 hk xs)
            obtain ⟨us, tv⟩ := TD.out
            obtain ⟨LO, hLO⟩ : ∃ LO, LO = wr.heap.size := ⟨_, rfl⟩
            obtain ⟨HI, hHI⟩ : ∃ HI, HI = wD.heap.size := ⟨_, rfl⟩
            rw [← hLO, ← hHI] at tv
            have TV := Lib.hid tv
            have HLO := Lib.hid hLO
            have HHI := Lib.hid hHI
            have HD := Lib.hid hD
            have HBD := Lib.hid (below_then HB.out hD)
            have HTD := Lib.hid (HT.out.below hD)
            have HZD := Lib.hid (show wr.heap.size ≤ HI by rw [hHI]; exact hD.size)
            clear hLO hHI
            clear tv TD hL h9 hC hD hcap hadd ik2 ik3 ik4 ik5 ik6 ik7 hcx
            go_simp
            go_wp2_with fail
            go_loopw [3, 41] (fun v j wi => ∃ (q : Nat) (vs2 : List Value) (Z : List (List Int)), q ≤ L.length ∧ j = .int .i64 q ∧ Z = Y ++ (L.take q).map (fun l => x :: l) ∧ TabV w.heap.size wi.heap.size wi v vs2 Z ∧ TabV LO HI wi (.slice AD L.length cD) us L ∧ (∀ g, v.ownBlock = some g → g < LO ∨ HI ≤ g) ∧ Below w.heap.size w wi ∧ HI ≤ wi.heap.size) (fun _ j _ => L.length - (intOf j).toNat)
            case atStart => exact ⟨0, vs, Y, Nat.zero_le _, rfl, by simp, (HTD.out.wide (Nat.le_refl _) (by have := HZD.out; rw [HHI.out] at this; exact this)), TV.out, fun g hg => .inl (by rw [HLO.out]; exact HT.out.top g hg), HBD.out, Nat.le_of_eq HHI.out⟩
            case round =>
              obtain ⟨q, vs2, Z, hq, rfl, hZ, htab, htv, hown, hbi, hhi⟩ := hrel
              obtain ⟨A6, c6, rfl⟩ := own_form htab.out
              have HZ := Lib.hid hZ
              have HT2 := Lib.hid htab
              have HBI := Lib.hid hbi
              have TV2 := Lib.hid htv
              have HOWN := Lib.hid hown
              have HHZ := Lib.hid hhi
              have hzl : Z.length ≤ 100 := by
                rw [hZ, List.length_append, List.length_map, List.length_take]
                have := HLL.out
                have := HYL.out
                omega
              clear hZ htab htv hown hhi
              by_cases hql : q < L.length
              · obtain ⟨g, u, rfl, hu, hcu⟩ := TV2.out.cell hql
                obtain ⟨l, hl⟩ : ∃ l, L[q]? = some l := ⟨L[q]'hql, List.getElem?_eq_getElem _⟩
                have hrow := TV2.out.row q u l hu hl
                have hcq := hcu
                obtain ⟨A7, c7, rfl⟩ := hrow.form
                have hll : l.length = N := arrF_rows N _ HL3.out l (by rw [← HL.out]; exact List.mem_of_getElem? hl)
                have SL := Lib.hid (show SrcAt wr (.slice A7 l.length c7) l from SrcAt.own hrow.1)
                have HLQ := Lib.hid hl
                have HLN := Lib.hid hll
                have hq6 : q ≤ 6 := by have := HLL.out; omega
                have iq0 : (0 : Int) ≤ (q : Int) := by omega
                have iq1 : (q : Int) < (L.length : Int) := by omega
                obtain ⟨W2, hW2⟩ : ∃ W2, W2 = (wr.alloc (.cells #[.int .i64 x] 2)).alloc (.cells #[.slice (some ⟨wr.heap.size, 0, none⟩) 1 1, .slice A7 l.length c7] 64) := ⟨_, rfl⟩
                have b2 : Below wr.heap.size wr W2 := by rw [hW2]; go_grown
                have s0 : W2.cell? ⟨wr.heap.size + 1, 0, none⟩ = some (.slice (some ⟨wr.heap.size, 0, none⟩) 1 1) := by rw [hW2]; go_cell
                have s1 : W2.cell? ⟨wr.heap.size + 1, 1, none⟩ = some (.slice A7 l.length c7) := by rw [hW2]; go_cell
                have s2 : W2.cell? ⟨wr.heap.size, 0, none⟩ = some (.int .i64 x) := by rw [hW2]; go_cell
                have S0 := Lib.hid s0
                have S1 := Lib.hid s1
                have S2 := Lib.hid (show SrcAt W2 (.slice (some ⟨wr.heap.size, 0, none⟩) 1 1) [x] from .inr ⟨wr.heap.size, 0, 1, rfl, ⟨rfl, fun j y hy => by
                  rcases j with _ | j
                  · simp at hy; subst hy; exact ⟨wr.heap.size, 0, rfl, s2⟩
                  · simp at hy⟩⟩)
                have SB := Lib.hid b2
                have HW2 := Lib.hid hW2
                clear hu hcu hl hrow hll s0 s1 s2 b2 hW2
                go_wp2_with fail
                rw [← HW2.out]
                refine (concat_any (wr.heap.size + 1) _ _ [x] l W2 S0.out S1.out S2.out (SL.out.below SB.out) (by simp) (by rw [HLN.out]; omega)).mono ?_
                rintro e wE ⟨uE, rfl, oE, bE⟩
                obtain ⟨M, hM⟩ : ∃ M, M = [x] ++ l := ⟨_, rfl⟩
                rw [← hM] at oE
                obtain ⟨AE, cE, rfl⟩ := own_form oE
                have OE := Lib.hid oE
                have BE := Lib.hid (below_then SB.out bE)
                have HM := Lib.hid hM
                have HWE := Lib.hid (show W2.heap.size ≤ wE.heap.size from bE.size)
                have HTE := Lib.hid (HT2.out.below BE.out)
                have HLE := Lib.hid (show w.heap.size ≤ wE.heap.size from Nat.le_trans HBI.out.size BE.out.size)
                clear oE bE hM hcq hbi
                go_wp2_with (at_builtin; refine wpList_append_own_at _ rfl _ _ 105 rfl w.heap.size 64 i1 (.slice none 0 0) 1 24 Try.underlying105 hi1 hy0 hy1 hy2 rfl (by decide) _ _ _ rfl (World.ownsRow.alloc HTE.out.out _) ⟨wE.heap.size, 0, none⟩ 1 1 [.slice AE M.length cE] rfl rfl (cell_one_new _ _ _) (by simp [Value.oneCell']) (by unfold maxLen; omega) (by omega) (by rw [World.size_alloc]; exact Nat.le_succ_of_le HLE.out) ?_)
                intro v' w5 hown' hgrow _ hat
                have ba : Below wE.heap.size wE (wE.alloc (.cells #[.slice AE M.length cE] 64)) := (Below.refl _ _).alloc (Nat.le_refl _) _
                have hrow2 : IntsIn W2.heap.size wE.heap.size wE (.slice AE M.length cE) M := IntsIn.of OE.out
                have htab2 := TabV.snoc (HTE.out.below ba) (hrow2.below ba) hown' hgrow (by rw [World.size_alloc]; exact hat) (Nat.le_trans HBI.out.size SB.out.size) SB.out.size ba.size
                have HT5 := Lib.hid htab2
                have HB5 := Lib.hid (below_grown (below_then HBI.out (below_then BE.out ba)) hgrow (fun q hq => (HTE.out.out.lt q hq).1))
                have TV5 := Lib.hid (TabV.beside ((TV2.out.below BE.out).below ba) hgrow HOWN.out)
                have hzz : HI ≤ (wE.alloc (.cells #[.slice AE M.length cE] 64)).heap.size := Nat.le_trans HHZ.out (Nat.le_trans BE.out.size ba.size)
                have HOW5 := Lib.hid (show ∀ g, v'.ownBlock = some g → g < LO ∨ HI ≤ g from fun g hg => by
                  rcases hat with e | e
                  · rw [e] at hg; exact HOWN.out g hg
                  · rw [e] at hg
                    have := Option.some.inj hg
                    rw [World.size_alloc] at hzz
                    have h1 := HHZ.out
                    have h2 := BE.out.size
                    exact .inr (by omega))
                have HZ5 := Lib.hid (show HI ≤ w5.heap.size from Nat.le_trans hzz hgrow.size)
                clear hown' hgrow hat ba hrow2 htab2 hzz
                go_wp2_with fail
                go_roundw
                case rel =>
                  refine ⟨q + 1, _, Z ++ [M], by omega, by go_num, ?_, HT5.out, TV5.out, HOW5.out, HB5.out, HZ5.out⟩
                  rw [HZ.out, HM.out, take_snoc HLQ.out, List.map_append, List.append_assoc]
                  rfl
                case measure => simp [intOf]; omega
              · have hqe : q = L.length := by omega
                have HQE := Lib.hid hqe
                clear hqe hbi
                go_wp2_with fail
                go_roundw
                case rel =>
                  refine ⟨k + 1, vs2, Z, by omega, by go_num, ?_, HT2.out, HBI.out⟩
                  rw [arrTo, HSK.out, HZ.out, HQE.out, List.take_length, HY.out, HL.out]
                case measure => simp [intOf]; omega
        · have HSK := Lib.hid (arrOne_skip (f := arrF N) hsk)
          have hk0 : 0 < k := by
            rcases Nat.eq_zero_or_pos k with h | h
            · subst h; rw [skipB_0] at hsk; cases hsk
            · exact h
          obtain ⟨y, hy⟩ : ∃ y, xs[k - 1]? = some y := ⟨xs[k - 1]'(by rw [HN.out]; omega), List.getElem?_eq_getElem _⟩
          have hcy := (HB.out.cell (cell_lt (HC.out (k - 1) y hy))).trans (HC.out (k - 1) y hy)
          rw [skipB_is hk0 hx hy, decide_eq_true_eq] at hsk
          subst hsk
          have hg0 : decide ((0 : Int) < (k : Int)) = true := decide_eq_true (by omega)
          have hwr : IntKind.i64.wrap ((k : Int) - 1) = (k : Int) - 1 := IntWalk.i64_in _ (by omega)
          have hto : ((k : Int) - 1).toNat = k - 1 := by omega
          have j1 : (0 : Int) ≤ (k : Int) - 1 := by omega
          have j2 : (k : Int) - 1 < ((N + 1 : Nat) : Int) := by omega
          clear hx hy
          go_wp2_with fail
          go_roundw
          case rel => exact ⟨k + 1, vs, Y, by omega, by go_num, by rw [arrTo, HSK.out, List.append_nil]; exact HY.out, HT.out, HB.out⟩
          case measure => simp [intOf]; omega
      · have hkn : k = N + 1 := by omega
        have HKN := Lib.hid hkn
        clear hkn hbel
        go_wp2_with fail
        go_ret
        refine ⟨_, rfl, ⟨vs, ?_⟩, HB.out⟩
        rw [arrF, ← HKN.out, ← HY.out]
        exact HT.out

end Go.Proofs.Ytkhhemlfahdbnab
