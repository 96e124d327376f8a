/-
  The automaton of the classes of a congruence: the contracts of l01Quotient and of both QuotientOf.
-/
import Derived.Test.YtfkmpabohebcfaaRen
import Derived.Test.YtfkmpabohebcfaaKeeps
import Derived.StillTailTactics
namespace Go.Proofs.Ytfkmpabohebcfaa
open Go.RowKit Go.Deep Go.ChangeShapes Go.WideShapes

/-- Where a letter leads from a class. -/
def quoF (xss : List (List Int)) (cls : List Int) (n x c : Nat) : Int := ((cl cls (nx xss x (lst cls n c)) : Nat) : Int)

set_option maxRecDepth 100000 in
set_option maxHeartbeats 1000000 in
theorem quoLead_any (bc ba bl : Nat) (A AC AL : Option Addr) (n m cap cc ll cl' x c : Nat) (xss : List (List Int)) (cls : List Int) (W : World) (hg : Good n m xss) (hd : DivOk n cls) (hR : RowsAt W A m xss) (hC : NumsAt W AC n cls) (hLs : NumsAt W AL ll (leastK cls n))
    (c0 : W.cell? ⟨bc, 0, none⟩ = some (.slice AC n cc)) (c1 : W.cell? ⟨ba, 1, none⟩ = some (.slice A m cap)) (c2 : W.cell? ⟨bl, 0, none⟩ = some (.slice AL ll cl')) (hx : x < m) (hc : c < cntK cls n) :
    Calls Try.prog 73 #[.int .i64 (x : Int), .int .i64 (c : Int), .pointer (some ⟨bc, 0, none⟩), .pointer (some ⟨ba, 0, none⟩), .pointer (some ⟨bl, 0, none⟩)] W fun e w' => e = .returned (.int .i64 (quoF xss cls n x c)) ∧ Below W.heap.size W w' := by
  obtain ⟨hl1, hl2, hl3⟩ := hd.least c hc
  have hll : ll = cntK cls n := by rw [← hLs.1, leastK_len]
  obtain ⟨y, b3, off3, hy, rfl, hcy⟩ := hLs.at_ (k := c) (by omega)
  rw [hl1] at hy
  obtain rfl := Option.some.inj hy
  obtain ⟨b, off1, b2, off2, cr, rfl, hcr, hcells⟩ := row_base hg hR hx
  have hct := hcells _ hl2
  have hto := hg.nextD hx hl2
  obtain ⟨z, b4, off4, hz, rfl, hcz⟩ := hC.at_ hto
  rw [hd.at_ _ hto] at hz
  obtain rfl := Option.some.inj hz
  obtain ⟨t, ht⟩ : ∃ t, t = lst cls n c := ⟨_, rfl⟩
  rw [← ht] at hcy hct hto hl2 hcz
  obtain ⟨u, hu⟩ : ∃ u, u = nx xss x t := ⟨_, rfl⟩
  rw [← hu] at hct hto hcz
  have HE := Lib.hid (show quoF xss cls n x c = ((cl cls u : Nat) : Int) by unfold quoF; rw [← ht, ← hu])
  have i1 : (0 : Int) ≤ (x : Int) := by omega
  have i2 : (x : Int) < (m : Int) := by omega
  have i3 : (0 : Int) ≤ (c : Int) := by omega
  have i4 : (c : Int) < (ll : Int) := by omega
  have i5 : (0 : Int) ≤ (t : Int) := by omega
  have i6 : (t : Int) < (n : Int) := by omega
  have i7 : (0 : Int) ≤ (u : Int) := by omega
  have i8 : (u : Int) < (n : Int) := by omega
  clear hl1 hl3 hcells hR hC hLs hg hd ht hu hy hz hll
  go_enter Try.func73, Try.ntmps73
  go_wp2_with fail
  go_quiet (fail)
  go_wp2_with fail
  go_ret
  exact ⟨ret_int HE.out.symm, below_drewN' (Below.refl _ _) _⟩

theorem l00Max_any (a b : Int) (w : World) : Calls Try.prog 115 #[.int .i64 a, .int .i64 b] w fun e w' => e = .returned (.int .i64 (if b < a then a else b)) ∧ w = w' := by
  by_cases h : b < a
  · have HH := Lib.hid h
    go_enter Try.func115, Try.ntmps115
    go_wp2_with fail
    go_ret
    exact ⟨ret_int (by first | rfl | (have := HH.out; split <;> omega)), rfl⟩
  · have HH := Lib.hid h
    go_enter Try.func115, Try.ntmps115
    go_wp2_with fail
    go_ret
    exact ⟨ret_int (by first | rfl | (have := HH.out; split <;> omega)), rfl⟩

theorem div_le {n : Nat} {cls : List Int} (h : divB (n : Int) cls = true) : ∀ j, j < n → cl cls j ≤ cntK cls j := by
  simp only [divB, Bool.and_eq_true, List.all_eq_true, List.mem_range, decide_eq_true_eq] at h
  obtain ⟨hall, hlen⟩ := h
  intro j hj
  have hj' : j < cls.length := by omega
  have h1 := hall j hj'
  rw [divAt_is (List.getElem?_eq_getElem hj')] at h1
  have h2 : 0 ≤ cls[j] ∧ cls[j] ≤ (cntK cls j : Int) := by simpa [inB] using h1
  have e : cl cls j = (cls[j]).toNat := by simp [cl, List.getD, List.getElem?_eq_getElem hj']
  omega
theorem cnt_step {n j : Nat} {cls : List Int} (h : divB (n : Int) cls = true) (hd : DivOk n cls) (hj : j < n) : (if (((cl cls j : Nat) : Int) + 1) < (cntK cls j : Int) then (cntK cls j : Int) else ((cl cls j : Nat) : Int) + 1) = (cntK cls (j + 1) : Int) := by
  have h1 := div_le h j hj
  have ha := hd.at_ j hj
  by_cases hx : ((cl cls j : Nat) : Int) = (cntK cls j : Int)
  · rw [cntK_eq ha hx, if_neg (by omega)]; omega
  · rw [cntK_ne ha hx]
    by_cases h2 : (((cl cls j : Nat) : Int) + 1) < (cntK cls j : Int)
    · rw [if_pos h2]
    · rw [if_neg h2]; omega
theorem cnt_mono (cls : List Int) : ∀ d k, cntK cls k ≤ cntK cls (k + d)
  | 0, k => Nat.le_refl _
  | d + 1, k => by
    refine Nat.le_trans (cnt_mono cls d k) ?_
    rw [← Nat.add_assoc]
    conv => rhs; unfold cntK
    split <;> omega
/-- A row that is filled state by state: the classes of the first k states. -/
theorem quo_fill {n m k x : Nat} {xss : List (List Int)} {cls : List Int} (hdv : divB (n : Int) cls = true) (hd : DivOk n cls) (hc : Cong n m xss cls) (hx : x < m) (hk : k < n) :
    (fillK (cntK cls n) (cntK cls k) (quoF xss cls n x)).set (cl cls k) ((cl cls (nx xss x k) : Nat) : Int) = fillK (cntK cls n) (cntK cls (k + 1)) (quoF xss cls n x) := by
  have hlt := hd.lt k hk
  obtain ⟨_, h2, h3⟩ := hd.least (cl cls k) hlt
  have hv : ((cl cls (nx xss x k) : Nat) : Int) = quoF xss cls n x (cl cls k) := by
    unfold quoF
    rw [hc k (lst cls n (cl cls k)) x hk h2 hx h3.symm]
  have h1 := div_le hdv k hk
  have ha := hd.at_ k hk
  by_cases hxx : ((cl cls k : Nat) : Int) = (cntK cls k : Int)
  · have he : cl cls k = cntK cls k := by omega
    rw [cntK_eq ha hxx, hv, he]
    exact fillK_step _ (by omega)
  · rw [cntK_ne ha hxx, hv]
    apply List.ext_getElem?
    intro q
    rw [List.getElem?_set, fillK_len]
    by_cases h : cl cls k = q
    · subst h
      rw [if_pos rfl, if_pos hlt, fillK_at _ _ _ hlt, if_pos (by omega)]
    · rw [if_neg h]

set_option maxRecDepth 100000 in
set_option maxHeartbeats 6000000 in
theorem l01Quotient_any (p : Nat) (A AL : Option Addr) (n m cap cc : Nat) (xss : List (List Int)) (cls : List Int) (w : World) (hg : Good n m xss) (hdv : divB (n : Int) cls = true) (hd : DivOk n cls) (hcg : Cong n m xss cls) (c1 : w.cell? ⟨p, 1, none⟩ = some (.slice A m cap)) (hR : RowsAt w A m xss) (hL : NumsAt w AL n cls) :
    Calls Try.prog 68 #[.pointer (some ⟨p, 0, none⟩), .slice AL n cc] w fun e w' => ∃ v, e = .returned (.agg #[.int .i64 (cntK cls n : Int), v]) ∧ TabIn w.heap.size w'.heap.size w' v (rowsF (cntK cls n) (quoF xss cls n) m) ∧ Below w.heap.size w w' := by
  obtain ⟨i0, hi, hz0, hz1, hz2⟩ := info_parts info_int64
  obtain ⟨i1, hi1, hy0, hy1, hy2⟩ := info_parts info_ints
  have hm3 : m ≤ 3 := hg.m3
  have hn10 : n ≤ 10 := hg.n10
  have hcn : cntK cls n ≤ n := cntK_le cls n
  have HG := Lib.hid hg
  have HDV := Lib.hid hdv
  have HD := Lib.hid hd
  have HCG := Lib.hid hcg
  have HRR := Lib.hid hR
  have HNL := Lib.hid hL
  have C1 := Lib.hid c1
  obtain ⟨W2, hW2⟩ : ∃ W2, W2 = (w.alloc (.cells #[.int .i64 0, .slice none 0 0] 29)).alloc (.cells #[.int .i64 0, .slice none 0 0] 29) := ⟨_, rfl⟩
  have b2 : Below w.heap.size w W2 := by rw [hW2]; exact ((Below.refl _ w).alloc (Nat.le_refl _) _).alloc (by simp) _
  have B2 := Lib.hid b2
  have X0 := Lib.hid (show W2.heap[w.heap.size]? = some (.cells #[.int .i64 0, .slice none 0 0] 29 (0, 0)) by
    rw [hW2, Below.heap_alloc _ _ _ (by simp)]; exact heap_alloc_new _ _)
  have X1 := Lib.hid (show W2.heap[w.heap.size + 1]? = some (.cells #[.int .i64 0, .slice none 0 0] 29 (0, 0)) by
    have := heap_alloc_new (w.alloc (.cells #[.int .i64 0, .slice none 0 0] 29)) (.cells #[.int .i64 0, .slice none 0 0] 29)
    rw [World.size_alloc, ← hW2] at this; exact this)
  have HZ2 := Lib.hid (show W2.heap.size = w.heap.size + 2 by rw [hW2]; simp)
  have HW2 := Lib.hid hW2
  clear hg b2 hR hL hdv hd hcg c1 hW2
  go_enter Try.func68, Try.ntmps68
  go_wp2_with fail
  rw [← HW2.out]
  go_loopw [6] (fun i wr => ∃ k : Nat, k ≤ n ∧ i = .int .i64 k ∧ wr.heap[w.heap.size]? = some (.cells #[.int .i64 0, .slice none 0 0] 29 (0, 0)) ∧ wr.heap[w.heap.size + 1]? = some (.cells #[.int .i64 (cntK cls k : Int), .slice none 0 0] 29 (0, 0)) ∧ Below w.heap.size w wr ∧ w.heap.size + 2 ≤ wr.heap.size) (fun i _ => n - (intOf i).toNat)
  case atStart => exact ⟨0, Nat.zero_le _, rfl, X0.out, X1.out, B2.out, Nat.le_of_eq HZ2.out.symm⟩
  case round =>
    obtain ⟨k, hk, rfl, hx0, hx1, hb, hz⟩ := hrel
    have HX0 := Lib.hid hx0
    have HX1 := Lib.hid hx1
    have HB := Lib.hid hb
    have HZ := Lib.hid hz
    by_cases hlt : k < n
    · obtain ⟨y, b3, off3, hy, hAL, hcy⟩ := HNL.out.at_ hlt
      rw [HD.out.at_ k hlt] at hy
      obtain rfl := Option.some.inj hy
      have hlc := HD.out.lt k hlt
      have hck := cntK_le cls k
      obtain ⟨t, ht⟩ : ∃ t, t = cl cls k := ⟨_, rfl⟩
      rw [← ht] at hcy hlc
      obtain ⟨q, hq⟩ : ∃ q, q = cntK cls k := ⟨_, rfl⟩
      rw [← hq] at hck
      have HS := Lib.hid (cnt_step HDV.out HD.out hlt)
      obtain ⟨V, hV⟩ : ∃ V : Int, V = if ((t : Int) + 1) < (q : Int) then (q : Int) else (t : Int) + 1 := ⟨_, rfl⟩
      have HV := Lib.hid (show V = (cntK cls (k + 1) : Int) by rw [hV, ht, hq]; exact HS.out)
      have HQ := Lib.hid hq
      have f1 := (hb.cell (cell_lt hcy)).trans hcy
      obtain ⟨e0, e1, e2, e3⟩ := box2_cells hx1
      rw [← hq] at e0
      have j1 : (0 : Int) ≤ (k : Int) := by omega
      have j2 : (k : Int) < (n : Int) := by omega
      have hwr : IntKind.i64.wrap ((t : Int) + 1) = (t : Int) + 1 := IntWalk.i64_in _ (by omega)
      have HMX : Hid (∀ W' : World, Calls Try.prog 115 #[.int .i64 (q : Int), .int .i64 ((t : Int) + 1)] W' fun e w' => e = .returned (.int .i64 V) ∧ W' = w') := Lib.hid (fun W' => by rw [hV]; exact l00Max_any _ _ W')
      subst hAL
      clear hx0 hx1 hb hz hy ht hq hV hcy
      go_wp2_with fail
      go_region_with (go_at_call 115; refine (HMX.out _).mono ?_; rintro e w' ⟨rfl, rfl⟩)
      all_goals
        go_wp2_with fail
        go_roundw
        case rel =>
          have hh1 : (wr.setCell ⟨w.heap.size + 1, 0, none⟩ (.int .i64 V)).heap[w.heap.size + 1]? = some (.cells #[.int .i64 V, .slice none 0 0] 29 (0, 0)) := by rw [heap_setCell_same wr (w.heap.size + 1) 0 _ _ _ HX1.out]; rfl
          have hh0 : (wr.setCell ⟨w.heap.size + 1, 0, none⟩ (.int .i64 V)).heap[w.heap.size]? = some (.cells #[.int .i64 0, .slice none 0 0] 29 (0, 0)) := by rw [heap_setCell_other wr ⟨w.heap.size + 1, 0, none⟩ _ _ (by simp)]; exact HX0.out
          have hbl := HB.out.setCell (p := ⟨w.heap.size + 1, 0, none⟩) (by simp) (.int .i64 V)
          have hzz : w.heap.size + 2 ≤ (wr.setCell ⟨w.heap.size + 1, 0, none⟩ (.int .i64 V)).heap.size := by rw [World.size_setCell]; exact HZ.out
          rw [HV.out] at hh1 hh0 hbl hzz ⊢
          exact ⟨k + 1, by omega, by go_num, hh0, hh1, by first | exact hbl | exact below_drewN' hbl 1 | exact below_drewN' hbl 2 | exact below_drewN' hbl 3, hzz⟩
        case measure => simp [intOf]; omega
    · obtain rfl : n = k := by omega
      have HLO0 := Lib.hid hz
      obtain ⟨N, hN⟩ : ∃ N, N = cntK cls n := ⟨_, rfl⟩
      rw [← hN] at hcn hx1
      have HX1 := Lib.hid hx1
      have HN := Lib.hid hN
      have hmk := run_make_row' (P := Try.prog) 26 2 (.int .i64 0) 8 Try.underlying26 info_int64 rfl .i64 .i64 N (by omega) (by omega)
      clear hx0 hx1 hb hz hN
      go_wp2_with fail
      go_loopw [7] (fun i wr => ∃ (x : Nat) (v : Value) (vs : List Value), x ≤ m ∧ i = .int .i64 x ∧ wr.heap[w.heap.size]? = some (.cells #[.int .i64 0, .slice none 0 0] 29 (0, 0)) ∧ wr.heap[w.heap.size + 1]? = some (.cells #[.int .i64 (N : Int), v] 29 (0, 0)) ∧
          TabV (w.heap.size + 2) wr.heap.size wr v vs (rowsF N (quoF xss cls n) x) ∧ Below w.heap.size w wr ∧ w.heap.size + 2 ≤ wr.heap.size) (fun i _ => m - (intOf i).toNat)
      case atStart => exact ⟨0, .slice none 0 0, [], Nat.zero_le _, rfl, HX0.out, HX1.out, tabV_nil _ _ _ _ _, HB.out, HLO0.out⟩
      case round =>
        obtain ⟨x, v, vs, hx, rfl, hx0, hx1, htab, hbel, hlo⟩ := hrel
        obtain ⟨A3, c3, rfl⟩ := own_form htab.out
        have HX0 := Lib.hid hx0
        have HX1 := Lib.hid hx1
        have HT := Lib.hid htab
        have HB := Lib.hid hbel
        have HLO := Lib.hid hlo
        by_cases hlt : x < m
        · have y1 : World.cell? ‹World› ⟨p, 1, none⟩ = some (.slice A m cap) := (hbel.cell (cell_lt C1.out)).trans C1.out
          obtain ⟨e0, e1, _, _⟩ := box2_cells hx1
          clear hx0 hx1 htab hbel hlo
          obtain ⟨G9, hG9⟩ : ∃ G9, G9 = wr.heap.size := ⟨_, rfl⟩
          have HG9 := Lib.hid hG9
          have hb1 : Below wr.heap.size wr (wr.alloc (.cells (madeCells #[.int .i64 0] N) 2)) := (Below.refl _ _).alloc (Nat.le_refl _) _
          have HN0 : Hid ((wr.alloc (.cells (madeCells #[.int .i64 0] N) 2)).ownsRow G9 2 1 (.slice (some ⟨G9, 0, none⟩) N N) N ((fillK N 0 (quoF xss cls n x)).map (Value.int .i64))) := Lib.hid (by
            rw [fillK_0, ← made_zeros, hG9]
            exact World.ownsRow_lit wr _ N (Nat.le_refl _) (by unfold maxLen; omega) (by rw [size_madeCells, Nat.mul_one]))
          have HT1 := Lib.hid (HT.out.below hb1)
          have HY0 := Lib.hid ((hb1.block _ (block_lt HX0.out)).trans HX0.out)
          have HY1 := Lib.hid ((hb1.block _ (block_lt HX1.out)).trans HX1.out)
          have HB1 := Lib.hid (below_then HB.out hb1)
          have HZ1 := Lib.hid (show wr.heap.size + 1 ≤ (wr.alloc (.cells (madeCells #[.int .i64 0] N) 2)).heap.size by simp)
          have HLO := Lib.hid (show w.heap.size + 2 ≤ G9 by rw [hG9]; exact HLO.out)
          rw [← hG9] at HT1 HZ1
          clear hG9 hb1
          go_wp2_with fail
          rw [← HG9.out]
          clear y1 hmk e0 e1
          go_loopw [9] (fun j wi => ∃ (q : Nat), q ≤ n ∧ j = .int .i64 q ∧ wi.heap[w.heap.size]? = some (.cells #[.int .i64 0, .slice none 0 0] 29 (0, 0)) ∧ wi.heap[w.heap.size + 1]? = some (.cells #[.int .i64 (N : Int), .slice A3 (rowsF N (quoF xss cls n) x).length c3] 29 (0, 0)) ∧
              TabV (w.heap.size + 2) G9 wi (.slice A3 (rowsF N (quoF xss cls n) x).length c3) vs (rowsF N (quoF xss cls n) x) ∧ wi.ownsRow G9 2 1 (.slice (some ⟨G9, 0, none⟩) N N) N ((fillK N (cntK cls q) (quoF xss cls n x)).map (Value.int .i64)) ∧ Below w.heap.size w wi ∧ G9 + 1 ≤ wi.heap.size) (fun j _ => n - (intOf j).toNat)
          case atStart => exact ⟨0, Nat.zero_le _, rfl, HY0.out, HY1.out, HT1.out, HN0.out, HB1.out, HZ1.out⟩
          case round =>
            obtain ⟨q, hq, rfl, hz0, hz1, htb, hown, hbl, hsz⟩ := hrel
            have HZ0 := Lib.hid hz0
            have HZ1 := Lib.hid hz1
            have HTB := Lib.hid htb
            have HOW := Lib.hid hown
            have HBL := Lib.hid hbl
            have HSZ := Lib.hid hsz
            clear hz0 hz1 htb hown hbl hsz HT1 HY0 HY1 HB1 HN0
            by_cases hqn : q < n
            · have hlc := HD.out.lt q hqn
              rw [← HN.out] at hlc
              have hto := HG.out.nextD hlt hqn
              have HF := Lib.hid (quo_fill HDV.out HD.out HCG.out hlt hqn)
              obtain ⟨t, ht⟩ : ∃ t, t = cl cls q := ⟨_, rfl⟩
              obtain ⟨u, hu⟩ : ∃ u, u = nx xss x q := ⟨_, rfl⟩
              obtain ⟨r, hr⟩ : ∃ r, r = cl cls u := ⟨_, rfl⟩
              have HF := Lib.hid (show (fillK N (cntK cls q) (quoF xss cls n x)).set t (r : Int) = fillK N (cntK cls (q + 1)) (quoF xss cls n x) by rw [hr, hu, ht, HN.out]; exact HF.out)
              have HNLr := Lib.hid (HNL.out.below HBL.out)
              obtain ⟨y, b3, off3, hy, hAL, hcy⟩ := HNLr.out.at_ hqn
              rw [HD.out.at_ q hqn, ← ht] at hy
              obtain rfl := Option.some.inj hy
              obtain ⟨y', b3', off3', hy', hAL', hcy'⟩ := HNLr.out.at_ hto
              rw [hAL] at hAL'
              simp only [Option.some.injEq, Addr.mk.injEq, and_true] at hAL'
              obtain ⟨rfl, rfl⟩ := hAL'
              rw [HD.out.at_ _ hto, ← hu, ← hr] at hy'
              obtain rfl := Option.some.inj hy'
              obtain ⟨b, off1, b2, off2, cr, hA, hcr, hcells⟩ := row_base HG.out (HRR.out.below HBL.out) hlt
              have hct := hcells q hqn
              rw [← hu] at hct hcy' hto
              have y1 : wr.cell? ⟨p, 1, none⟩ = some (.slice A m cap) := (HBL.out.cell (cell_lt C1.out)).trans C1.out
              rw [← ht] at hlc
              subst hA
              obtain rfl := hAL
              obtain ⟨z, hz⟩ := fill_cell HOW.out hlc
              have hfz : wr.frozen? ⟨G9, t, none⟩ = false := HOW.out.frozenAt t
              have i1 : (0 : Int) ≤ (x : Int) := by omega
              have i2 : (x : Int) < (m : Int) := by omega
              have i3 : (0 : Int) ≤ (q : Int) := by omega
              have i4 : (q : Int) < (n : Int) := by omega
              have i5 : (0 : Int) ≤ (t : Int) := by omega
              have i6 : (t : Int) < (N : Int) := by omega
              have i7 : (0 : Int) ≤ (u : Int) := by omega
              have i8 : (u : Int) < (n : Int) := by omega
              clear hcells ht hu hr
              go_wp2_with fail
              go_still_tail 19, (by kernel_rfl)
              obtain ⟨W5, hW5⟩ : ∃ W5, W5 = wr.drew := ⟨_, rfl⟩
              have b5 : Below wr.heap.size wr W5 := by rw [hW5]; exact below_drewN' (Below.refl _ _) 1
              have hzd : W5.cell? ⟨G9, t, none⟩ = some z := by rw [hW5]; exact hz
              have hfd : W5.frozen? ⟨G9, t, none⟩ = false := by rw [hW5]; exact hfz
              have HOW5 := Lib.hid (own_below HOW.out b5)
              have HTB5 := Lib.hid (HTB.out.below b5)
              have HBL5 := Lib.hid (below_then HBL.out b5)
              have HZ05 := Lib.hid ((b5.block _ (block_lt HZ0.out)).trans HZ0.out)
              have HZ15 := Lib.hid ((b5.block _ (block_lt HZ1.out)).trans HZ1.out)
              have HSZ5 := Lib.hid (Nat.le_trans HSZ.out b5.size)
              change wpList _ _ _ _ _ wr.drew
              rw [← hW5]
              clear hW5 b5
              go_wp2_with fail
              go_roundw
              case rel =>
                have hlo := HLO.out
                have hon := only_setCell W5 G9 t (.int .i64 (r : Int))
                have hst := (HOW5.out.stored t (.int .i64 (r : Int))).1
                rw [← List.map_set, HF.out] at hst
                refine ⟨q + 1, by omega, by go_num, ?_, ?_, HTB5.out.only hon (.inl (Nat.le_refl _)), hst, HBL5.out.setCell (by simp; omega) _, by rw [World.size_setCell]; exact HSZ5.out⟩
                · rw [heap_setCell_other W5 ⟨G9, t, none⟩ _ _ (by simp; omega)]; exact HZ05.out
                · rw [heap_setCell_other W5 ⟨G9, t, none⟩ _ _ (by simp; omega)]; exact HZ15.out
              case measure => simp [intOf]; omega
            · have hqe : q = n := by omega
              have HQE := Lib.hid hqe
              have hx1 := HZ1.out
              have e1 : wr.cell? ⟨w.heap.size + 1, 1, none⟩ = some (.slice A3 (rowsF N (quoF xss cls n) x).length c3) := cell_of_row _ (w.heap.size + 1) 1 _ _ _ hx1
              have hrl : (rowsF N (quoF xss cls n) x).length ≤ 3 := by rw [rowsF_len]; omega
              have HLE := Lib.hid (show w.heap.size + 2 ≤ wr.heap.size by have h1 := HSZ.out; have h2 := HLO.out; omega)
              clear hx1 hqe
              go_wp2_with (at_builtin; refine wpList_append_own_at _ rfl _ _ 22 rfl (w.heap.size + 2) 26 i1 (.slice none 0 0) 1 24 Try.underlying22 hi1 hy0 hy1 hy2 rfl (by decide) _ _ _ rfl (World.ownsRow.alloc (HTB.out.out) _) ⟨(wr).heap.size, 0, none⟩ 1 1 [.slice (some ⟨G9, 0, none⟩) N N] rfl rfl (cell_one_new _ _ _) (by simp [Value.oneCell']) (by unfold maxLen; omega) (by omega) (by rw [World.size_alloc]; exact Nat.le_succ_of_le HLE.out) ?_)
              intro v' w2 hown' hgrow _ hat
              obtain ⟨A6, c6, rfl⟩ := own_form hown'
              have hrow : IntsIn G9 wr.heap.size wr (.slice (some ⟨G9, 0, none⟩) N N) ((List.range N).map (quoF xss cls n x)) := by
                have h1 := HOW.out
                rw [HQE.out, ← HN.out, fillK_all] at h1
                exact IntsIn.of (by rw [List.length_map, List.length_range]; exact h1)
              have ba : Below wr.heap.size wr (wr.alloc (.cells #[.slice (some ⟨G9, 0, none⟩) N N] 26)) := (Below.refl _ _).alloc (Nat.le_refl _) _
              have htab2 := TabV.snoc (HTB.out.below ba) (hrow.below ba) hown' hgrow (by rw [World.size_alloc]; exact hat) HLO.out (Nat.le_refl _) ba.size
              rw [← rowsF_succ] at htab2
              have HT2 := Lib.hid htab2
              have hvn : ∀ g, (Value.slice A3 (rowsF N (quoF xss cls n) x).length c3).ownBlock = some g → w.heap.size + 2 ≤ g := fun g hg => (HTB.out.out.lt g hg).1
              have hu0 : w2.heap[w.heap.size]? = some (.cells #[.int .i64 0, .slice none 0 0] 29 (0, 0)) := (hgrow.block _ (Nat.lt_of_lt_of_le (block_lt HZ0.out) ba.size) (fun e => by have := hvn _ e.symm; omega)).trans ((ba.block _ (block_lt HZ0.out)).trans HZ0.out)
              have hu1 : w2.heap[w.heap.size + 1]? = some (.cells #[.int .i64 (N : Int), .slice A3 (rowsF N (quoF xss cls n) x).length c3] 29 (0, 0)) := (hgrow.block _ (Nat.lt_of_lt_of_le (block_lt HZ1.out) ba.size) (fun e => by have := hvn _ e.symm; omega)).trans ((ba.block _ (block_lt HZ1.out)).trans HZ1.out)
              have HU0 := Lib.hid hu0
              have HU1 := Lib.hid hu1
              have hc1 : w2.cell? ⟨w.heap.size + 1, 1, none⟩ = some (.slice A3 (rowsF N (quoF xss cls n) x).length c3) := cell_of_row _ (w.heap.size + 1) 1 _ _ _ hu1
              have hf1 : w2.frozen? ⟨w.heap.size + 1, 1, none⟩ = false := frozen_of_row _ (w.heap.size + 1) 1 _ _ hu1
              have HB2 := Lib.hid (below_grown (below_then HBL.out ba) hgrow (fun g hg => by have := hvn g hg; omega))
              have HLE2 := Lib.hid (show w.heap.size + 2 ≤ w2.heap.size by have h1 := HLE.out; have := hgrow.size; have := ba.size; omega)
              have HL1 := Lib.hid (show (rowsF N (quoF xss cls n) (x + 1)).length = (rowsF N (quoF xss cls n) x).length + 1 by rw [rowsF_len, rowsF_len])
              clear hown' hgrow hat ba hvn hu0 hu1 e1 hrow htab2
              go_wp2_with fail
              go_roundw
              case rel =>
                have hon := only_setCell w2 (w.heap.size + 1) 1 (.slice A6 ((rowsF N (quoF xss cls n) x).length + 1) c6)
                refine ⟨x + 1, .slice A6 ((rowsF N (quoF xss cls n) x).length + 1) c6, vs ++ [.slice (some ⟨G9, 0, none⟩) N N], by omega, by go_num, ?_, ?_, ?_, HB2.out.setCell (by simp) _, by rw [World.size_setCell]; exact HLE2.out⟩
                · rw [heap_setCell_other w2 ⟨w.heap.size + 1, 1, none⟩ _ _ (by simp)]; exact HU0.out
                · rw [heap_setCell_same w2 (w.heap.size + 1) 1 _ _ _ HU1.out]; rfl
                · rw [World.size_setCell]
                  exact HT2.out.only hon (.inr (Nat.le_refl _))
              case measure => simp [intOf]; omega
        · have hkm : x = m := by omega
          have HKM := Lib.hid hkm
          have y1 : wr.cell? ⟨p, 1, none⟩ = some (.slice A m cap) := (hbel.cell (cell_lt C1.out)).trans C1.out
          obtain ⟨e0, e1, _, _⟩ := box2_cells hx1
          obtain ⟨e2, e3, e4, e5⟩ := box2_cells hx0
          obtain ⟨g2, g3⟩ := box2_set hx0 (.int .i64 (N : Int)) (.slice A3 (rowsF N (quoF xss cls n) x).length c3)
          clear hx0 hx1 htab hbel hkm hlo hmk
          go_wp2_with fail
          refine bodyPost_ret (v := .agg #[.int .i64 (N : Int), .slice A3 (rowsF N (quoF xss cls n) x).length c3]) (by simp [results, Try.results68, go_sem, g2, g3]) rfl ?_
          rw [← HN.out]
          refine ⟨_, rfl, ?_, (HB.out.setCell (by simp) _).setCell (by simp) _⟩
          rw [set2_size, ← HKM.out]
          exact (TabIn.only ⟨vs, HT.out⟩ (set2_only _ _ _ _) (.inr (by omega))).wide (by omega) (Nat.le_refl _)


end Go.Proofs.Ytfkmpabohebcfaa
