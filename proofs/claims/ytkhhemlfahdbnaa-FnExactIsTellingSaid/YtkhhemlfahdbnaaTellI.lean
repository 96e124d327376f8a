/-
  Words that tell states, in the program: the contracts of differs, differsOrMeets, holdsForPairs and of its IsHoming and IsTelling.
-/
import Derived.Test.YtkhhemlfahdbnaaTellS
import Derived.Test.YtkhhemlfahdbnaaPairs
import Derived.Test.YtkhhemlfahdbnaaTab
import Derived.Deep.RegionHeld3
namespace Go.Proofs.Ytkhhemlfahdbnaa
open Go.RowKit Go.Deep Go.ChangeShapes Go.WideShapes

set_option maxRecDepth 100000 in
theorem differs_any (A A' : Option Addr) (l l' c c' : Nat) (e e' : Int) (xs ys : List Int) (w : World) (h : NumsAt w A l xs) (h' : NumsAt w A' l' ys) (hl : l ≤ 400) (hl' : l' ≤ 400) :
    Calls Try.prog 71 #[.agg #[.slice A l c, .int .i64 e], .agg #[.slice A' l' c', .int .i64 e']] w fun en w' => en = .returned (.bool (!sameB xs ys)) ∧ Below w.heap.size w w' := by
  obtain ⟨w0, hw0⟩ : ∃ w0, w0 = (w.alloc (.cells #[.slice A l c, .int .i64 e] 89)).alloc (.cells #[.slice A' l' c', .int .i64 e'] 89) := ⟨_, rfl⟩
  have b0 : Below w.heap.size w w0 := by rw [hw0]; go_grown
  have HW := Lib.hid hw0
  have B0 := Lib.hid b0
  have H0 := Lib.hid (h.below b0)
  have H1 := Lib.hid (h'.below b0)
  clear hw0 b0 h h'
  go_enter Try.func71, Try.ntmps71
  go_wp2_with fail
  rw [← HW.out]
  refine (slicesEqual_any _ _ _ _ _ _ xs ys _ H0.out H1.out (by omega) (by omega)).mono ?_
  rintro en w1 ⟨rfl, k, rfl⟩
  go_wp2_with fail
  go_ret
  exact ⟨rfl, below_drewN' B0.out _⟩

set_option maxRecDepth 100000 in
theorem differsOrMeets_any (A A' : Option Addr) (l l' c c' : Nat) (e e' : Nat) (xs ys : List Int) (w : World) (h : NumsAt w A l xs) (h' : NumsAt w A' l' ys) (hl : l ≤ 400) (hl' : l' ≤ 400) :
    Calls Try.prog 70 #[.agg #[.slice A l c, .int .i64 (e : Int)], .agg #[.slice A' l' c', .int .i64 (e' : Int)]] w fun en w' => en = .returned (.bool (okT false xs e ys e')) ∧ Below w.heap.size w w' := by
  obtain ⟨w0, hw0⟩ : ∃ w0, w0 = (w.alloc (.cells #[.slice A l c, .int .i64 (e : Int)] 89)).alloc (.cells #[.slice A' l' c', .int .i64 (e' : Int)] 89) := ⟨_, rfl⟩
  have b0 : Below w.heap.size w w0 := by rw [hw0]; go_grown
  have x1 : w0.cell? ⟨w.heap.size, 1, none⟩ = some (.int .i64 (e : Int)) := by rw [hw0]; go_cell
  have x2 : w0.cell? ⟨w.heap.size + 1, 1, none⟩ = some (.int .i64 (e' : Int)) := by rw [hw0]; go_cell
  have HW := Lib.hid hw0
  have B0 := Lib.hid b0
  have H0 := Lib.hid (h.below b0)
  have H1 := Lib.hid (h'.below b0)
  have X1 := Lib.hid x1
  have X2 := Lib.hid x2
  clear hw0 b0 h h' x1 x2
  go_enter Try.func70, Try.ntmps70
  go_wp2_with fail
  rw [← HW.out]
  refine (differs_any A A' l l' c c' (e : Int) (e' : Int) xs ys _ H0.out H1.out hl hl').mono ?_
  rintro en w1 ⟨rfl, b1⟩
  have x1 := (b1.cell (cell_lt X1.out)).trans X1.out
  have x2 := (b1.cell (cell_lt X2.out)).trans X2.out
  have B1 := Lib.hid (below_then B0.out b1)
  clear b1
  rcases hs : sameB xs ys with _ | _
  · go_wp2_with fail
    go_ret
    exact ⟨ret_bool (by unfold okT; rw [hs]; rfl), B1.out⟩
  · by_cases hee : e = e'
    · have heq : ((e : Int) == (e' : Int)) = true := by simp [hee]
      have HE := Lib.hid hee
      clear hee
      go_wp2_with fail
      go_ret
      exact ⟨ret_bool (by unfold okT; rw [hs]; simp [HE.out]), B1.out⟩
    · have heq : ((e : Int) == (e' : Int)) = false := by simp; omega
      have HE := Lib.hid hee
      clear hee
      go_wp2_with fail
      go_ret
      exact ⟨ret_bool (by unfold okT; rw [hs]; simp [HE.out]), B1.out⟩

theorem differs_ok (A A' : Option Addr) (l l' c c' : Nat) (e e' : Nat) (xs ys : List Int) (w : World) (h : NumsAt w A l xs) (h' : NumsAt w A' l' ys) (hl : l ≤ 400) (hl' : l' ≤ 400) :
    Calls Try.prog 71 #[.agg #[.slice A l c, .int .i64 (e : Int)], .agg #[.slice A' l' c', .int .i64 (e' : Int)]] w fun en w' => en = .returned (.bool (okT true xs e ys e')) ∧ Below w.heap.size w w' := by
  have := differs_any A A' l l' c c' (e : Int) (e' : Int) xs ys w h h' hl hl'
  rw [show okT true xs e ys e' = !sameB xs ys by unfold okT; simp]
  exact this

theorem info_answer : (Try.prog.info? 89).map (fun i => (i.zero, i.size, i.bytes)) = some (some (.agg #[.slice none 0 0, .int .i64 0]), 2, 32) := by kernel_rfl

/-- The answers to a word from the first j states, in the block G. -/
def AnsAt (G n j : Nat) (xss yss : List (List Int)) (ws : List Int) (wr : World) : Prop :=
  ∃ cs : List Value, wr.ownsRow G 89 2 (.slice (some ⟨G, 0, none⟩) n n) n cs ∧
    ∀ s, s < j → ∃ A c, cs[s * 2]? = some (.slice A ws.length c) ∧ cs[s * 2 + 1]? = some (.int .i64 ((toS xss ws s : Nat) : Int)) ∧ IntsIn (G + 1) wr.heap.size wr (.slice A ws.length c) (outS xss yss ws s)
theorem own2_at {w : World} {base : Nat} {e : TypeId} {A : Option Addr} {n c j : Nat} {cs : List Value} (h : w.ownsRow base e 2 (.slice A n c) n cs) (hj : j < n) :
    ∃ g, A = some ⟨g, 0, none⟩ ∧ ∀ i, i < n * 2 → w.cell? ⟨g, i, none⟩ = cs[i]? := by
  rcases h.2 with ⟨hv, h0⟩ | ⟨g, cap', cur, hv, hg, hh, hn', hcap, hsz, htake⟩
  · omega
  · simp only [Value.slice.injEq] at hv
    obtain ⟨rfl, _, rfl⟩ := hv
    exact ⟨g, rfl, fun i hi => World.ownsRow.cellAt (cap := c) ⟨h.1, .inr ⟨g, c, cur, rfl, hg, hh, hn', hcap, hsz, htake⟩⟩ i hi⟩
theorem AnsAt.below {G n j : Nat} {xss yss : List (List Int)} {ws : List Int} {w w' : World} (h : AnsAt G n j xss yss ws w) (hb : Below w.heap.size w w') : AnsAt G n j xss yss ws w' := by
  obtain ⟨cs, h1, h2⟩ := h
  refine ⟨cs, own2_below h1 hb, fun s hs => ?_⟩
  obtain ⟨A, c, e1, e2, e3⟩ := h2 s hs
  exact ⟨A, c, e1, e2, (e3.below hb).wide (Nat.le_refl _) hb.size⟩
theorem AnsAt.store {G n j : Nat} {xss yss : List (List Int)} {ws : List Int} {w : World} {A : Option Addr} {c : Nat} (h : AnsAt G n j xss yss ws w) (hj : j < n) (hi : IntsIn (G + 1) w.heap.size w (.slice A ws.length c) (outS xss yss ws j)) :
    AnsAt G n (j + 1) xss yss ws ((w.setCell ⟨G, j * 2, none⟩ (.slice A ws.length c)).setCell ⟨G, j * 2 + 1, none⟩ (.int .i64 ((toS xss ws j : Nat) : Int))) := by
  obtain ⟨cs, h1, h2⟩ := h
  have hl := h1.1
  have g1 := (h1.stored (j * 2) (.slice A ws.length c)).1
  have g2 := (g1.stored (j * 2 + 1) (.int .i64 ((toS xss ws j : Nat) : Int))).1
  have ho : Only G (G + 1) w ((w.setCell ⟨G, j * 2, none⟩ (.slice A ws.length c)).setCell ⟨G, j * 2 + 1, none⟩ (.int .i64 ((toS xss ws j : Nat) : Int))) := (only_setCell w G _ _).trans (only_setCell _ G _ _)
  have hz : ((w.setCell ⟨G, j * 2, none⟩ (.slice A ws.length c)).setCell ⟨G, j * 2 + 1, none⟩ (.int .i64 ((toS xss ws j : Nat) : Int))).heap.size = w.heap.size := by rw [World.size_setCell, World.size_setCell]
  refine ⟨_, g2, fun s hs => ?_⟩
  rw [hz]
  by_cases hsj : s = j
  · subst hsj
    refine ⟨A, c, ?_, ?_, hi.only ho (.inr (Nat.le_refl _))⟩
    · rw [List.getElem?_set_ne (by omega), List.getElem?_set_self (by omega)]
    · rw [List.getElem?_set_self (by rw [List.length_set]; omega)]
  · obtain ⟨A', c', e1, e2, e3⟩ := h2 s (by omega)
    refine ⟨A', c', ?_, ?_, e3.only ho (.inr (Nat.le_refl _))⟩
    · rw [List.getElem?_set_ne (by omega), List.getElem?_set_ne (by omega)]
      exact e1
    · rw [List.getElem?_set_ne (by omega), List.getElem?_set_ne (by omega)]
      exact e2
theorem AnsAt.cells {G n s : Nat} {xss yss : List (List Int)} {ws : List Int} {w : World} (h : AnsAt G n n xss yss ws w) (hs : s < n) :
    ∃ A c, w.cell? ⟨G, s * 2, none⟩ = some (.slice A ws.length c) ∧ w.cell? ⟨G, s * 2 + 1, none⟩ = some (.int .i64 ((toS xss ws s : Nat) : Int)) ∧ NumsAt w A ws.length (outS xss yss ws s) := by
  obtain ⟨cs, h1, h2⟩ := h
  obtain ⟨A, c, e1, e2, e3⟩ := h2 s hs
  refine ⟨A, c, ?_, ?_, e3.nums (outS_len _ _ _ _)⟩
  · rw [h1.cellAt (s * 2) (by omega), e1]
  · rw [h1.cellAt (s * 2 + 1) (by omega), e2]

set_option maxRecDepth 100000 in
set_option maxHeartbeats 4000000 in
theorem holdsH_any (s q : Int) (A : Option Addr) (n c : Nat) (xss : List (List Int)) (B : Option Addr) (m d : Nat) (yss : List (List Int)) (A' : Option Addr) (l cap' : Nat) (ws : List Int) (w : World) (h : RowsAt w A n xss) (hn : n ≤ 4611686018427387904)
    (hrows : ∀ (r : Nat) (xs : List Int), xss[r]? = some xs → xs.length ≤ 4611686018427387904) (g : RowsAt w B m yss) (hm : m ≤ 4611686018427387904) (houts : ∀ (r : Nat) (xs : List Int), yss[r]? = some xs → xs.length ≤ 4611686018427387904) (h' : NumsAt w A' l ws) (hl : l ≤ 4611686018427387904) :
    Calls Try.prog 69 #[.agg #[.int .i64 s, .int .i64 q, .slice A n c, .slice B m d], .slice A' l cap', .func (.func 70) #[] #[]] w fun e w' => e = .returned (.tuple #[.bool (tellsOf false s q xss yss ws).1, .int .i64 (tellsOf false s q xss yss ws).2]) ∧ Below w.heap.size w w' := by
  have HR := Lib.hid hrows
  have HO := Lib.hid houts
  have HM := Lib.hid h.1
  have HL := Lib.hid h'.1
  obtain ⟨w1, hw1⟩ : ∃ w1, w1 = w.alloc (.cells #[.int .i64 s, .int .i64 q, .slice A n c, .slice B m d] 27) := ⟨_, rfl⟩
  have b1 : Below w.heap.size w w1 := by rw [hw1]; exact (Below.refl _ _).alloc (Nat.le_refl _) _
  have HB1 := Lib.hid (show MBox w1 w.heap.size s q A n c B m d by rw [hw1]; exact Box.new _ _ _)
  have HX1 := Lib.hid (h.below b1)
  have HY1 := Lib.hid (g.below b1)
  have HN1 := Lib.hid (h'.below b1)
  have W1 := Lib.hid b1
  have HW := Lib.hid hw1
  clear h g h' b1 hw1 hrows houts
  go_enter Try.func69, Try.ntmps69
  go_wp2_with fail
  rw [← HW.out]
  refine (checkStateAndWord_any s q A n c xss B m d yss 0 A' l cap' ws _ HX1.out hn HR.out HY1.out hm HO.out HN1.out hl).mono ?_
  rintro e w2 ⟨rfl, b2⟩
  have HB2 := Lib.hid (show MBox w2 w.heap.size s q A n c B m d from Box.below HB1.out b2)
  have HX2 := Lib.hid (HX1.out.below b2)
  have HY2 := Lib.hid (HY1.out.below b2)
  have HN2 := Lib.hid (HN1.out.below b2)
  have W2 := Lib.hid (below_then W1.out b2)
  clear b2 HB1 HX1 HY1 HN1 W1
  rcases hok : okM s q xss yss with _ | _
  · have HF := Lib.hid (tellsOf_1 (tell := false) (ws := ws) hok)
    rw [outputsOf_1 hok]
    go_wp2_with fail
    go_ret2
    exact ⟨two_mkb HF.out, W2.out⟩
  · obtain ⟨n', k, hs, hk, hg⟩ := goodM_of hok HM.out
    subst hs hk
    have HG := Lib.hid hg
    have HMN := Lib.hid hg.outs
    have hn1 := hg.good.n1
    have hn10 := hg.good.n10
    have hb0 : belowB (n' : Int) 0 = true := belowB_t (by omega)
    clear hg
    rcases hwd : isWordB (n : Int) ws with _ | _
    · have HF := Lib.hid (tellsOf_2 (tell := false) hok HM.out hwd)
      rw [outputsOf_3 hok HM.out hwd]
      go_wp2_with fail
      go_ret2
      exact ⟨two_mkb HF.out, W2.out⟩
    · have HF := Lib.hid (tellsOf_0 (tell := false) hok HM.out hwd)
      have hz : (outputsOf (n' : Int) (k : Int) xss yss 0 ws).2.2 = 0 := by
        have e := outputsOf_0 (x := 0) hok hb0 HM.out hwd
        rw [show ((0 : Nat) : Int) = 0 from rfl] at e
        rw [e]
      rw [hz]
      clear hz
      have HWL := Lib.hid (word_letters hwd)
      have hl4 : l ≤ 400 := by simp only [isWordB, Bool.and_eq_true, decide_eq_true_eq] at hwd; have := HL.out; omega
      have hmn : m = n := by have h1 := HMN.out; have h2 := HY2.out.1; omega
      subst hmn
      have c0 := HB2.out 0 _ rfl
      have c1 := HB2.out 1 _ rfl
      have c2 := HB2.out 2 _ rfl
      have c3 := HB2.out 3 _ rfl
      obtain ⟨i0, hi, hz0, hz1, hz2⟩ := info_parts info_answer
      obtain ⟨w3, hmk, hown, hgr⟩ := run_makeSlice_full (P := Try.prog) w2 w2.heap.size 111 89 i0 (.agg #[.slice none 0 0, .int .i64 0]) 2 Try.underlying111 hi hz0 hz1 .i64 .i64 n' (by omega) (by rw [hz2]; omega) (by unfold maxLen; omega) (Nat.le_refl _)
      have b3 : Below w2.heap.size w2 w3 := (Below.refl _ _).grown hgr (Nat.le_refl _) (fun g hg => by cases hg)
      have HA0 := Lib.hid (show AnsAt w2.heap.size n' 0 xss yss ws w3 from ⟨_, hown, fun s hs => absurd hs (Nat.not_lt_zero _)⟩)
      have HB3 := Lib.hid b3
      have hge : w2.heap.size + 1 ≤ w3.heap.size := by have := (hown.lt w2.heap.size rfl).2; omega
      have HGE := Lib.hid hge
      have h00 : ((0 : Int) != 0) = false := by simp
      clear hown hgr b3 hwd hge hb0
      go_wp2_with fail
      clear c0 c1 c2 c3 hmk h00
      go_loopw [24] (fun i wr => ∃ j : Nat, j ≤ n' ∧ i = .int .i64 j ∧ AnsAt w2.heap.size n' j xss yss ws wr ∧ Below w2.heap.size w2 wr ∧ w2.heap.size + 1 ≤ wr.heap.size) (fun i _ => n' - (intOf i).toNat)
      case atStart => exact ⟨0, Nat.zero_le _, rfl, HA0.out, HB3.out, HGE.out⟩
      case round =>
        obtain ⟨j, hj, rfl, hans, hbel, hge⟩ := hrel
        have HA := Lib.hid hans
        have HB := Lib.hid hbel
        have HG1 := Lib.hid hge
        have HBX := Lib.hid (show MBox wr w.heap.size (n' : Int) (k : Int) A m c B m d from Box.below HB2.out hbel)
        have c0 := HBX.out 0 _ rfl
        have c1 := HBX.out 1 _ rfl
        have c2 := HBX.out 2 _ rfl
        have c3 := HBX.out 3 _ rfl
        clear hans hbel hge
        by_cases hlt : j < n'
        · have i1 : (0 : Int) ≤ (j : Int) := by omega
          have i2 : (j : Int) < (n' : Int) := by omega
          go_wp2_with fail
          refine (outputsOf_any A n' m k c xss B d yss j A' l cap' ws _ HG.out (HX2.out.below HB.out) (HY2.out.below HB.out) (HN2.out.below HB.out) HWL.out hlt hl4).mono ?_
          rintro e w4 ⟨v, rfl, o4, b4⟩
          have ho4 : IntsIn (w2.heap.size + 1) w4.heap.size w4 v (outS xss yss ws j) := (IntsIn.of o4).wide HG1.out (Nat.le_refl _)
          obtain ⟨V4, C4, rfl⟩ := ho4.form
          have hlen : (outS xss yss ws j).length = ws.length := outS_len _ _ _ _
          rw [hlen] at ho4
          have HA4 := Lib.hid ((HA.out.below b4).store hlt ho4)
          have HB4 := Lib.hid (((below_then HB.out b4).setCell (Nat.le_refl w2.heap.size) (p := ⟨w2.heap.size, j * 2, none⟩) (.slice V4 ws.length C4)).setCell (Nat.le_refl w2.heap.size) (p := ⟨w2.heap.size, j * 2 + 1, none⟩) (.int .i64 ((toS xss ws j : Nat) : Int)))
          have HG4 := Lib.hid (show w2.heap.size + 1 ≤ w4.heap.size from Nat.le_trans HG1.out b4.size)
          have hrow := HA.out.below b4
          obtain ⟨cs, hr1, _⟩ := hrow
          have hcl := hr1.1
          obtain ⟨u0, hu0⟩ : ∃ u, w4.cell? ⟨w2.heap.size, j * 2, none⟩ = some u := ⟨cs[j * 2]'(by omega), by rw [hr1.cellAt (j * 2) (by omega)]; exact List.getElem?_eq_getElem _⟩
          obtain ⟨u1, hu1⟩ : ∃ u, (w4.setCell ⟨w2.heap.size, j * 2, none⟩ (.slice V4 ws.length C4)).cell? ⟨w2.heap.size, j * 2 + 1, none⟩ = some u := by
            have g1 := (hr1.stored (j * 2) (.slice V4 ws.length C4)).1
            exact ⟨(cs.set (j * 2) (.slice V4 ws.length C4))[j * 2 + 1]'(by rw [List.length_set]; omega), by rw [g1.cellAt (j * 2 + 1) (by omega)]; exact List.getElem?_eq_getElem _⟩
          have f0 : w4.frozen? ⟨w2.heap.size, j * 2, none⟩ = false := hr1.frozenAt _
          have f1 : (w4.setCell ⟨w2.heap.size, j * 2, none⟩ (.slice V4 ws.length C4)).frozen? ⟨w2.heap.size, j * 2 + 1, none⟩ = false := ((hr1.stored (j * 2) (.slice V4 ws.length C4)).1).frozenAt _
          obtain ⟨T4, hT4⟩ : ∃ T4, T4 = ((toS xss ws j : Nat) : Int) := ⟨_, rfl⟩
          rw [hlen]
          rw [← hT4] at HA4 HB4 ⊢
          clear o4 b4 ho4 hlen hr1 hcl c0 c1 c2 c3 hT4
          go_wp2_with fail
          exact ⟨⟨j + 1, by omega, by go_num, HA4.out, HB4.out, by rw [World.size_setCell, World.size_setCell]; exact HG4.out⟩, by simp [intOf]; omega⟩
        · have hje : j = n' := by omega
          have HJ := Lib.hid hje
          have hans := HA.out
          rw [hje] at hans
          have HA := Lib.hid hans
          clear hje hans
          go_wp2_with fail
          refine (pairsBelow_any n' wr hn10).mono ?_
          rintro e w5 ⟨u, rfl, o5, b5⟩
          obtain ⟨P, hP⟩ : ∃ P, P = prL n' n' := ⟨_, rfl⟩
          rw [← hP] at o5
          obtain ⟨A5, C5, rfl⟩ := own2_form o5
          have HP := Lib.hid hP
          have hpl : P.length ≤ 100 := by rw [hP]; have := prL_len n' n'; have : n' * n' ≤ 10 * 10 := Nat.mul_le_mul hn10 hn10; omega
          have O5 := Lib.hid o5
          have HA5 := Lib.hid (HA.out.below b5)
          have HB5 := Lib.hid (below_then W2.out (below_then HB.out b5))
          clear o5 b5 hP c0 c1 c2 c3
          go_wp2_with fail
          go_loopw [47] (fun i wl => ∃ j : Nat, j ≤ P.length ∧ i = .int .i64 j ∧ (∀ (i : Nat) (s t : Nat), i < j → P[i]? = some (s, t) → okW false xss yss ws s t = true) ∧ Below w5.heap.size w5 wl) (fun i _ => P.length - (intOf i).toNat)
          case atStart => exact ⟨0, Nat.zero_le _, rfl, fun i s t h => absurd h (Nat.not_lt_zero _), Below.refl _ _⟩
          case round =>
            obtain ⟨i, hi', rfl, hall, hbel⟩ := hrel
            have HAL := Lib.hid hall
            have HBL := Lib.hid hbel
            clear hall hbel
            by_cases hlt2 : i < P.length
            · obtain ⟨⟨s, t⟩, hst⟩ : ∃ p, P[i]? = some p := ⟨P[i], List.getElem?_eq_getElem hlt2⟩
              have hm := List.mem_of_getElem? hst
              rw [HP.out] at hm
              obtain ⟨hs1, hs2, hs3⟩ := prL_mem hm
              obtain ⟨g5, hA5, hc5⟩ := own2_at (own2_below O5.out HBL.out) hlt2
              have hs0 := (hc5 (i * 2) (by omega)).trans (pcells_at hst).1
              have ht0 := (hc5 (i * 2 + 1) (by omega)).trans (pcells_at hst).2
              subst hA5
              obtain ⟨AS, cS, e1, e2, e3⟩ := (HA5.out.below HBL.out).cells (show s < n' by omega)
              obtain ⟨AT, cT, e4, e5, e6⟩ := (HA5.out.below HBL.out).cells hs3
              have HST := Lib.hid hst
              have E3 := Lib.hid e3
              have E6 := Lib.hid e6
              have k1 : (0 : Int) ≤ (i : Int) := by omega
              have k2 : (i : Int) < (P.length : Int) := by omega
              have k3 : (0 : Int) ≤ (s : Int) := by omega
              have k4 : (s : Int) < (n' : Int) := by omega
              have k5 : (0 : Int) ≤ (t : Int) := by omega
              have k6 : (t : Int) < (n' : Int) := by omega
              have hws : ws.length ≤ 400 := by have := HL.out; omega
              obtain ⟨TS, hTS⟩ : ∃ TS, TS = toS xss ws s := ⟨_, rfl⟩
              obtain ⟨TT, hTT⟩ : ∃ TT, TT = toS xss ws t := ⟨_, rfl⟩
              rw [← hTS] at e2
              rw [← hTT] at e5
              have HOKW := Lib.hid (show okW false xss yss ws s t = okT false (outS xss yss ws s) TS (outS xss yss ws t) TT by unfold okW; rw [hTS, hTT])
              obtain ⟨wp, hwp⟩ : ∃ wp, wp = wr.alloc (.cells #[.int .i64 (s : Int), .int .i64 (t : Int)] 115) := ⟨_, rfl⟩
              have bp : Below wr.heap.size wr wp := by rw [hwp]; exact (Below.refl _ _).alloc (Nat.le_refl _) _
              have hps : wp.cell? ⟨wr.heap.size, 0, none⟩ = some (.int .i64 (s : Int)) := by rw [hwp]; go_cell
              have hpt : wp.cell? ⟨wr.heap.size, 1, none⟩ = some (.int .i64 (t : Int)) := by rw [hwp]; go_cell
              have HWP := Lib.hid hwp
              have BP := Lib.hid (below_then HBL.out bp)
              have E3 := Lib.hid (E3.out.below bp)
              have E6 := Lib.hid (E6.out.below bp)
              have q1 : ∀ W', Below wp.heap.size wp W' → W'.cell? ⟨w2.heap.size, s * 2, none⟩ = some (.slice AS ws.length cS) := fun W' hb => ((below_then bp hb).cell (cell_lt e1)).trans e1
              have q2 : ∀ W', Below wp.heap.size wp W' → W'.cell? ⟨w2.heap.size, s * 2 + 1, none⟩ = some (.int .i64 (TS : Int)) := fun W' hb => ((below_then bp hb).cell (cell_lt e2)).trans e2
              have q3 : ∀ W', Below wp.heap.size wp W' → W'.cell? ⟨w2.heap.size, t * 2, none⟩ = some (.slice AT ws.length cT) := fun W' hb => ((below_then bp hb).cell (cell_lt e4)).trans e4
              have q4 : ∀ W', Below wp.heap.size wp W' → W'.cell? ⟨w2.heap.size, t * 2 + 1, none⟩ = some (.int .i64 (TT : Int)) := fun W' hb => ((below_then bp hb).cell (cell_lt e5)).trans e5
              have q5 : ∀ W', Below wp.heap.size wp W' → W'.cell? ⟨wr.heap.size, 0, none⟩ = some (.int .i64 (s : Int)) := fun W' hb => (hb.cell (cell_lt hps)).trans hps
              have q6 : ∀ W', Below wp.heap.size wp W' → W'.cell? ⟨wr.heap.size, 1, none⟩ = some (.int .i64 (t : Int)) := fun W' hb => (hb.cell (cell_lt hpt)).trans hpt
              have h9 : Below wp.heap.size wp wp := Below.refl _ _
              obtain ⟨L1, hL1⟩ : ∃ L1, L1 = outS xss yss ws s := ⟨_, rfl⟩
              obtain ⟨L2, hL2⟩ : ∃ L2, L2 = outS xss yss ws t := ⟨_, rfl⟩
              rw [← hL1] at E3 HOKW
              rw [← hL2] at E6 HOKW
              rcases hans : okT false L1 TS L2 TT with _ | _
              all_goals
                have HANS := Lib.hid hans
                rw [hans] at HOKW
                clear hst e1 e2 e3 e4 e5 e6 hc5 hTS hTT hwp bp hps hpt hL1 hL2 hans
              · go_wp2_with fail
                rw [← HWP.out]
                go_region_held3 (fun w' => Below wp.heap.size wp w') (first | assumption | exact below_drewN' (by assumption) _)
                  (first
                    | (go_at_call 70; refine (differsOrMeets_any AS AT ws.length ws.length cS cT TS TT L1 L2 _ (E3.out.below (by first | assumption | exact below_drewN' (by assumption) _)) (E6.out.below (by first | assumption | exact below_drewN' (by assumption) _)) hws hws).mono ?_; rw [HANS.out]; rintro en wq ⟨rfl, bq⟩; have cq : Below wp.heap.size wp wq := below_then (by first | assumption | exact below_drewN' (by assumption) _) bq; clear bq)
                    | fail)
                go_wp2_with fail
                go_ret2
                refine ⟨two_mkb ?_, below_then HB5.out (below_then BP.out cq)⟩
                rw [HF.out]
                congr 1
                rcases hx : tellsB false n' xss yss ws with _ | _
                · rfl
                · rw [tellsB_iff.1 hx s t hs2 hs3] at HOKW
                  have e := HOKW.out
                  cases e
              · go_wp2_with fail
                rw [← HWP.out]
                go_region_held3 (fun w' => Below wp.heap.size wp w') (first | assumption | exact below_drewN' (by assumption) _)
                  (first
                    | (go_at_call 70; refine (differsOrMeets_any AS AT ws.length ws.length cS cT TS TT L1 L2 _ (E3.out.below (by first | assumption | exact below_drewN' (by assumption) _)) (E6.out.below (by first | assumption | exact below_drewN' (by assumption) _)) hws hws).mono ?_; rw [HANS.out]; rintro en wq ⟨rfl, bq⟩; have cq : Below wp.heap.size wp wq := below_then (by first | assumption | exact below_drewN' (by assumption) _) bq; clear bq)
                    | fail)
                go_wp2_with fail
                go_roundw
                case rel =>
                  refine ⟨i + 1, by omega, by go_num, fun i' s' t' hi2 he => ?_, below_then BP.out cq⟩
                  by_cases hii : i' = i
                  · subst hii
                    rw [HST.out] at he
                    simp only [Option.some.injEq, Prod.mk.injEq] at he
                    rw [← he.1, ← he.2]
                    exact HOKW.out
                  · exact HAL.out i' s' t' (by omega) he
                case measure => simp [intOf]; omega
            · go_wp2_with fail
              go_ret2
              refine ⟨two_mkb ?_, below_then HB5.out HBL.out⟩
              rw [HF.out]
              congr 1
              rw [tellsB_iff]
              intro s t hst htn
              obtain ⟨i', hi2, he⟩ := List.mem_iff_getElem.1 (show (s, t) ∈ P by rw [HP.out]; exact prL_has hst htn)
              exact HAL.out i' s t (by omega) (by rw [List.getElem?_eq_getElem hi2, he])

set_option maxRecDepth 100000 in
set_option maxHeartbeats 4000000 in
theorem holdsT_any (s q : Int) (A : Option Addr) (n c : Nat) (xss : List (List Int)) (B : Option Addr) (m d : Nat) (yss : List (List Int)) (A' : Option Addr) (l cap' : Nat) (ws : List Int) (w : World) (h : RowsAt w A n xss) (hn : n ≤ 4611686018427387904)
    (hrows : ∀ (r : Nat) (xs : List Int), xss[r]? = some xs → xs.length ≤ 4611686018427387904) (g : RowsAt w B m yss) (hm : m ≤ 4611686018427387904) (houts : ∀ (r : Nat) (xs : List Int), yss[r]? = some xs → xs.length ≤ 4611686018427387904) (h' : NumsAt w A' l ws) (hl : l ≤ 4611686018427387904) :
    Calls Try.prog 69 #[.agg #[.int .i64 s, .int .i64 q, .slice A n c, .slice B m d], .slice A' l cap', .func (.func 71) #[] #[]] w fun e w' => e = .returned (.tuple #[.bool (tellsOf true s q xss yss ws).1, .int .i64 (tellsOf true s q xss yss ws).2]) ∧ Below w.heap.size w w' := by
  have HR := Lib.hid hrows
  have HO := Lib.hid houts
  have HM := Lib.hid h.1
  have HL := Lib.hid h'.1
  obtain ⟨w1, hw1⟩ : ∃ w1, w1 = w.alloc (.cells #[.int .i64 s, .int .i64 q, .slice A n c, .slice B m d] 27) := ⟨_, rfl⟩
  have b1 : Below w.heap.size w w1 := by rw [hw1]; exact (Below.refl _ _).alloc (Nat.le_refl _) _
  have HB1 := Lib.hid (show MBox w1 w.heap.size s q A n c B m d by rw [hw1]; exact Box.new _ _ _)
  have HX1 := Lib.hid (h.below b1)
  have HY1 := Lib.hid (g.below b1)
  have HN1 := Lib.hid (h'.below b1)
  have W1 := Lib.hid b1
  have HW := Lib.hid hw1
  clear h g h' b1 hw1 hrows houts
  go_enter Try.func69, Try.ntmps69
  go_wp2_with fail
  rw [← HW.out]
  refine (checkStateAndWord_any s q A n c xss B m d yss 0 A' l cap' ws _ HX1.out hn HR.out HY1.out hm HO.out HN1.out hl).mono ?_
  rintro e w2 ⟨rfl, b2⟩
  have HB2 := Lib.hid (show MBox w2 w.heap.size s q A n c B m d from Box.below HB1.out b2)
  have HX2 := Lib.hid (HX1.out.below b2)
  have HY2 := Lib.hid (HY1.out.below b2)
  have HN2 := Lib.hid (HN1.out.below b2)
  have W2 := Lib.hid (below_then W1.out b2)
  clear b2 HB1 HX1 HY1 HN1 W1
  rcases hok : okM s q xss yss with _ | _
  · have HF := Lib.hid (tellsOf_1 (tell := true) (ws := ws) hok)
    rw [outputsOf_1 hok]
    go_wp2_with fail
    go_ret2
    exact ⟨two_mkb HF.out, W2.out⟩
  · obtain ⟨n', k, hs, hk, hg⟩ := goodM_of hok HM.out
    subst hs hk
    have HG := Lib.hid hg
    have HMN := Lib.hid hg.outs
    have hn1 := hg.good.n1
    have hn10 := hg.good.n10
    have hb0 : belowB (n' : Int) 0 = true := belowB_t (by omega)
    clear hg
    rcases hwd : isWordB (n : Int) ws with _ | _
    · have HF := Lib.hid (tellsOf_2 (tell := true) hok HM.out hwd)
      rw [outputsOf_3 hok HM.out hwd]
      go_wp2_with fail
      go_ret2
      exact ⟨two_mkb HF.out, W2.out⟩
    · have HF := Lib.hid (tellsOf_0 (tell := true) hok HM.out hwd)
      have hz : (outputsOf (n' : Int) (k : Int) xss yss 0 ws).2.2 = 0 := by
        have e := outputsOf_0 (x := 0) hok hb0 HM.out hwd
        rw [show ((0 : Nat) : Int) = 0 from rfl] at e
        rw [e]
      rw [hz]
      clear hz
      have HWL := Lib.hid (word_letters hwd)
      have hl4 : l ≤ 400 := by simp only [isWordB, Bool.and_eq_true, decide_eq_true_eq] at hwd; have := HL.out; omega
      have hmn : m = n := by have h1 := HMN.out; have h2 := HY2.out.1; omega
      subst hmn
      have c0 := HB2.out 0 _ rfl
      have c1 := HB2.out 1 _ rfl
      have c2 := HB2.out 2 _ rfl
      have c3 := HB2.out 3 _ rfl
      obtain ⟨i0, hi, hz0, hz1, hz2⟩ := info_parts info_answer
      obtain ⟨w3, hmk, hown, hgr⟩ := run_makeSlice_full (P := Try.prog) w2 w2.heap.size 111 89 i0 (.agg #[.slice none 0 0, .int .i64 0]) 2 Try.underlying111 hi hz0 hz1 .i64 .i64 n' (by omega) (by rw [hz2]; omega) (by unfold maxLen; omega) (Nat.le_refl _)
      have b3 : Below w2.heap.size w2 w3 := (Below.refl _ _).grown hgr (Nat.le_refl _) (fun g hg => by cases hg)
      have HA0 := Lib.hid (show AnsAt w2.heap.size n' 0 xss yss ws w3 from ⟨_, hown, fun s hs => absurd hs (Nat.not_lt_zero _)⟩)
      have HB3 := Lib.hid b3
      have hge : w2.heap.size + 1 ≤ w3.heap.size := by have := (hown.lt w2.heap.size rfl).2; omega
      have HGE := Lib.hid hge
      have h00 : ((0 : Int) != 0) = false := by simp
      clear hown hgr b3 hwd hge hb0
      go_wp2_with fail
      clear c0 c1 c2 c3 hmk h00
      go_loopw [24] (fun i wr => ∃ j : Nat, j ≤ n' ∧ i = .int .i64 j ∧ AnsAt w2.heap.size n' j xss yss ws wr ∧ Below w2.heap.size w2 wr ∧ w2.heap.size + 1 ≤ wr.heap.size) (fun i _ => n' - (intOf i).toNat)
      case atStart => exact ⟨0, Nat.zero_le _, rfl, HA0.out, HB3.out, HGE.out⟩
      case round =>
        obtain ⟨j, hj, rfl, hans, hbel, hge⟩ := hrel
        have HA := Lib.hid hans
        have HB := Lib.hid hbel
        have HG1 := Lib.hid hge
        have HBX := Lib.hid (show MBox wr w.heap.size (n' : Int) (k : Int) A m c B m d from Box.below HB2.out hbel)
        have c0 := HBX.out 0 _ rfl
        have c1 := HBX.out 1 _ rfl
        have c2 := HBX.out 2 _ rfl
        have c3 := HBX.out 3 _ rfl
        clear hans hbel hge
        by_cases hlt : j < n'
        · have i1 : (0 : Int) ≤ (j : Int) := by omega
          have i2 : (j : Int) < (n' : Int) := by omega
          go_wp2_with fail
          refine (outputsOf_any A n' m k c xss B d yss j A' l cap' ws _ HG.out (HX2.out.below HB.out) (HY2.out.below HB.out) (HN2.out.below HB.out) HWL.out hlt hl4).mono ?_
          rintro e w4 ⟨v, rfl, o4, b4⟩
          have ho4 : IntsIn (w2.heap.size + 1) w4.heap.size w4 v (outS xss yss ws j) := (IntsIn.of o4).wide HG1.out (Nat.le_refl _)
          obtain ⟨V4, C4, rfl⟩ := ho4.form
          have hlen : (outS xss yss ws j).length = ws.length := outS_len _ _ _ _
          rw [hlen] at ho4
          have HA4 := Lib.hid ((HA.out.below b4).store hlt ho4)
          have HB4 := Lib.hid (((below_then HB.out b4).setCell (Nat.le_refl w2.heap.size) (p := ⟨w2.heap.size, j * 2, none⟩) (.slice V4 ws.length C4)).setCell (Nat.le_refl w2.heap.size) (p := ⟨w2.heap.size, j * 2 + 1, none⟩) (.int .i64 ((toS xss ws j : Nat) : Int)))
          have HG4 := Lib.hid (show w2.heap.size + 1 ≤ w4.heap.size from Nat.le_trans HG1.out b4.size)
          have hrow := HA.out.below b4
          obtain ⟨cs, hr1, _⟩ := hrow
          have hcl := hr1.1
          obtain ⟨u0, hu0⟩ : ∃ u, w4.cell? ⟨w2.heap.size, j * 2, none⟩ = some u := ⟨cs[j * 2]'(by omega), by rw [hr1.cellAt (j * 2) (by omega)]; exact List.getElem?_eq_getElem _⟩
          obtain ⟨u1, hu1⟩ : ∃ u, (w4.setCell ⟨w2.heap.size, j * 2, none⟩ (.slice V4 ws.length C4)).cell? ⟨w2.heap.size, j * 2 + 1, none⟩ = some u := by
            have g1 := (hr1.stored (j * 2) (.slice V4 ws.length C4)).1
            exact ⟨(cs.set (j * 2) (.slice V4 ws.length C4))[j * 2 + 1]'(by rw [List.length_set]; omega), by rw [g1.cellAt (j * 2 + 1) (by omega)]; exact List.getElem?_eq_getElem _⟩
          have f0 : w4.frozen? ⟨w2.heap.size, j * 2, none⟩ = false := hr1.frozenAt _
          have f1 : (w4.setCell ⟨w2.heap.size, j * 2, none⟩ (.slice V4 ws.length C4)).frozen? ⟨w2.heap.size, j * 2 + 1, none⟩ = false := ((hr1.stored (j * 2) (.slice V4 ws.length C4)).1).frozenAt _
          obtain ⟨T4, hT4⟩ : ∃ T4, T4 = ((toS xss ws j : Nat) : Int) := ⟨_, rfl⟩
          rw [hlen]
          rw [← hT4] at HA4 HB4 ⊢
          clear o4 b4 ho4 hlen hr1 hcl c0 c1 c2 c3 hT4
          go_wp2_with fail
          exact ⟨⟨j + 1, by omega, by go_num, HA4.out, HB4.out, by rw [World.size_setCell, World.size_setCell]; exact HG4.out⟩, by simp [intOf]; omega⟩
        · have hje : j = n' := by omega
          have HJ := Lib.hid hje
          have hans := HA.out
          rw [hje] at hans
          have HA := Lib.hid hans
          clear hje hans
          go_wp2_with fail
          refine (pairsBelow_any n' wr hn10).mono ?_
          rintro e w5 ⟨u, rfl, o5, b5⟩
          obtain ⟨P, hP⟩ : ∃ P, P = prL n' n' := ⟨_, rfl⟩
          rw [← hP] at o5
          obtain ⟨A5, C5, rfl⟩ := own2_form o5
          have HP := Lib.hid hP
          have hpl : P.length ≤ 100 := by rw [hP]; have := prL_len n' n'; have : n' * n' ≤ 10 * 10 := Nat.mul_le_mul hn10 hn10; omega
          have O5 := Lib.hid o5
          have HA5 := Lib.hid (HA.out.below b5)
          have HB5 := Lib.hid (below_then W2.out (below_then HB.out b5))
          clear o5 b5 hP c0 c1 c2 c3
          go_wp2_with fail
          go_loopw [47] (fun i wl => ∃ j : Nat, j ≤ P.length ∧ i = .int .i64 j ∧ (∀ (i : Nat) (s t : Nat), i < j → P[i]? = some (s, t) → okW true xss yss ws s t = true) ∧ Below w5.heap.size w5 wl) (fun i _ => P.length - (intOf i).toNat)
          case atStart => exact ⟨0, Nat.zero_le _, rfl, fun i s t h => absurd h (Nat.not_lt_zero _), Below.refl _ _⟩
          case round =>
            obtain ⟨i, hi', rfl, hall, hbel⟩ := hrel
            have HAL := Lib.hid hall
            have HBL := Lib.hid hbel
            clear hall hbel
            by_cases hlt2 : i < P.length
            · obtain ⟨⟨s, t⟩, hst⟩ : ∃ p, P[i]? = some p := ⟨P[i], List.getElem?_eq_getElem hlt2⟩
              have hm := List.mem_of_getElem? hst
              rw [HP.out] at hm
              obtain ⟨hs1, hs2, hs3⟩ := prL_mem hm
              obtain ⟨g5, hA5, hc5⟩ := own2_at (own2_below O5.out HBL.out) hlt2
              have hs0 := (hc5 (i * 2) (by omega)).trans (pcells_at hst).1
              have ht0 := (hc5 (i * 2 + 1) (by omega)).trans (pcells_at hst).2
              subst hA5
              obtain ⟨AS, cS, e1, e2, e3⟩ := (HA5.out.below HBL.out).cells (show s < n' by omega)
              obtain ⟨AT, cT, e4, e5, e6⟩ := (HA5.out.below HBL.out).cells hs3
              have HST := Lib.hid hst
              have E3 := Lib.hid e3
              have E6 := Lib.hid e6
              have k1 : (0 : Int) ≤ (i : Int) := by omega
              have k2 : (i : Int) < (P.length : Int) := by omega
              have k3 : (0 : Int) ≤ (s : Int) := by omega
              have k4 : (s : Int) < (n' : Int) := by omega
              have k5 : (0 : Int) ≤ (t : Int) := by omega
              have k6 : (t : Int) < (n' : Int) := by omega
              have hws : ws.length ≤ 400 := by have := HL.out; omega
              obtain ⟨TS, hTS⟩ : ∃ TS, TS = toS xss ws s := ⟨_, rfl⟩
              obtain ⟨TT, hTT⟩ : ∃ TT, TT = toS xss ws t := ⟨_, rfl⟩
              rw [← hTS] at e2
              rw [← hTT] at e5
              have HOKW := Lib.hid (show okW true xss yss ws s t = okT true (outS xss yss ws s) TS (outS xss yss ws t) TT by unfold okW; rw [hTS, hTT])
              obtain ⟨wp, hwp⟩ : ∃ wp, wp = wr.alloc (.cells #[.int .i64 (s : Int), .int .i64 (t : Int)] 115) := ⟨_, rfl⟩
              have bp : Below wr.heap.size wr wp := by rw [hwp]; exact (Below.refl _ _).alloc (Nat.le_refl _) _
              have hps : wp.cell? ⟨wr.heap.size, 0, none⟩ = some (.int .i64 (s : Int)) := by rw [hwp]; go_cell
              have hpt : wp.cell? ⟨wr.heap.size, 1, none⟩ = some (.int .i64 (t : Int)) := by rw [hwp]; go_cell
              have HWP := Lib.hid hwp
              have BP := Lib.hid (below_then HBL.out bp)
              have E3 := Lib.hid (E3.out.below bp)
              have E6 := Lib.hid (E6.out.below bp)
              have q1 : ∀ W', Below wp.heap.size wp W' → W'.cell? ⟨w2.heap.size, s * 2, none⟩ = some (.slice AS ws.length cS) := fun W' hb => ((below_then bp hb).cell (cell_lt e1)).trans e1
              have q2 : ∀ W', Below wp.heap.size wp W' → W'.cell? ⟨w2.heap.size, s * 2 + 1, none⟩ = some (.int .i64 (TS : Int)) := fun W' hb => ((below_then bp hb).cell (cell_lt e2)).trans e2
              have q3 : ∀ W', Below wp.heap.size wp W' → W'.cell? ⟨w2.heap.size, t * 2, none⟩ = some (.slice AT ws.length cT) := fun W' hb => ((below_then bp hb).cell (cell_lt e4)).trans e4
              have q4 : ∀ W', Below wp.heap.size wp W' → W'.cell? ⟨w2.heap.size, t * 2 + 1, none⟩ = some (.int .i64 (TT : Int)) := fun W' hb => ((below_then bp hb).cell (cell_lt e5)).trans e5
              have q5 : ∀ W', Below wp.heap.size wp W' → W'.cell? ⟨wr.heap.size, 0, none⟩ = some (.int .i64 (s : Int)) := fun W' hb => (hb.cell (cell_lt hps)).trans hps
              have q6 : ∀ W', Below wp.heap.size wp W' → W'.cell? ⟨wr.heap.size, 1, none⟩ = some (.int .i64 (t : Int)) := fun W' hb => (hb.cell (cell_lt hpt)).trans hpt
              have h9 : Below wp.heap.size wp wp := Below.refl _ _
              obtain ⟨L1, hL1⟩ : ∃ L1, L1 = outS xss yss ws s := ⟨_, rfl⟩
              obtain ⟨L2, hL2⟩ : ∃ L2, L2 = outS xss yss ws t := ⟨_, rfl⟩
              rw [← hL1] at E3 HOKW
              rw [← hL2] at E6 HOKW
              rcases hans : okT true L1 TS L2 TT with _ | _
              all_goals
                have HANS := Lib.hid hans
                rw [hans] at HOKW
                clear hst e1 e2 e3 e4 e5 e6 hc5 hTS hTT hwp bp hps hpt hL1 hL2 hans
              · go_wp2_with fail
                rw [← HWP.out]
                go_region_held3 (fun w' => Below wp.heap.size wp w') (first | assumption | exact below_drewN' (by assumption) _)
                  (first
                    | (go_at_call 71; refine (differs_ok AS AT ws.length ws.length cS cT TS TT L1 L2 _ (E3.out.below (by first | assumption | exact below_drewN' (by assumption) _)) (E6.out.below (by first | assumption | exact below_drewN' (by assumption) _)) hws hws).mono ?_; rw [HANS.out]; rintro en wq ⟨rfl, bq⟩; have cq : Below wp.heap.size wp wq := below_then (by first | assumption | exact below_drewN' (by assumption) _) bq; clear bq)
                    | fail)
                go_wp2_with fail
                go_ret2
                refine ⟨two_mkb ?_, below_then HB5.out (below_then BP.out cq)⟩
                rw [HF.out]
                congr 1
                rcases hx : tellsB true n' xss yss ws with _ | _
                · rfl
                · rw [tellsB_iff.1 hx s t hs2 hs3] at HOKW
                  have e := HOKW.out
                  cases e
              · go_wp2_with fail
                rw [← HWP.out]
                go_region_held3 (fun w' => Below wp.heap.size wp w') (first | assumption | exact below_drewN' (by assumption) _)
                  (first
                    | (go_at_call 71; refine (differs_ok AS AT ws.length ws.length cS cT TS TT L1 L2 _ (E3.out.below (by first | assumption | exact below_drewN' (by assumption) _)) (E6.out.below (by first | assumption | exact below_drewN' (by assumption) _)) hws hws).mono ?_; rw [HANS.out]; rintro en wq ⟨rfl, bq⟩; have cq : Below wp.heap.size wp wq := below_then (by first | assumption | exact below_drewN' (by assumption) _) bq; clear bq)
                    | fail)
                go_wp2_with fail
                go_roundw
                case rel =>
                  refine ⟨i + 1, by omega, by go_num, fun i' s' t' hi2 he => ?_, below_then BP.out cq⟩
                  by_cases hii : i' = i
                  · subst hii
                    rw [HST.out] at he
                    simp only [Option.some.injEq, Prod.mk.injEq] at he
                    rw [← he.1, ← he.2]
                    exact HOKW.out
                  · exact HAL.out i' s' t' (by omega) he
                case measure => simp [intOf]; omega
            · go_wp2_with fail
              go_ret2
              refine ⟨two_mkb ?_, below_then HB5.out HBL.out⟩
              rw [HF.out]
              congr 1
              rw [tellsB_iff]
              intro s t hst htn
              obtain ⟨i', hi2, he⟩ := List.mem_iff_getElem.1 (show (s, t) ∈ P by rw [HP.out]; exact prL_has hst htn)
              exact HAL.out i' s t (by omega) (by rw [List.getElem?_eq_getElem hi2, he])

set_option maxRecDepth 100000 in
theorem implIsHoming_any (s q : Int) (A : Option Addr) (n c : Nat) (xss : List (List Int)) (B : Option Addr) (m d : Nat) (yss : List (List Int)) (A' : Option Addr) (l cap' : Nat) (ws : List Int) (w : World) (h : RowsAt w A n xss) (hn : n ≤ 4611686018427387904)
    (hrows : ∀ (r : Nat) (xs : List Int), xss[r]? = some xs → xs.length ≤ 4611686018427387904) (g : RowsAt w B m yss) (hm : m ≤ 4611686018427387904) (houts : ∀ (r : Nat) (xs : List Int), yss[r]? = some xs → xs.length ≤ 4611686018427387904) (h' : NumsAt w A' l ws) (hl : l ≤ 4611686018427387904) :
    Calls Try.prog 33 #[.agg #[.int .i64 s, .int .i64 q, .slice A n c, .slice B m d], .slice A' l cap'] w fun e w' => e = .returned (.tuple #[.bool (isHoming s q xss yss ws).1, .int .i64 (isHoming s q xss yss ws).2]) ∧ Below w.heap.size w w' := by
  unfold isHoming
  have HR := Lib.hid hrows
  have HO := Lib.hid houts
  have b1 : Below w.heap.size w (w.alloc (.cells #[.int .i64 s, .int .i64 q, .slice A n c, .slice B m d] 27)) := (Below.refl _ _).alloc (Nat.le_refl _) _
  have HX1 := Lib.hid (h.below b1)
  have HY1 := Lib.hid (g.below b1)
  have HN1 := Lib.hid (h'.below b1)
  have W1 := Lib.hid b1
  clear h g h' b1 hrows houts
  go_enter Try.func33, Try.ntmps33
  go_wp2_with fail
  refine (holdsH_any s q A n c xss B m d yss A' l cap' ws _ HX1.out hn HR.out HY1.out hm HO.out HN1.out hl).mono ?_
  rintro e w2 ⟨rfl, b2⟩
  have W2 := Lib.hid (below_then W1.out b2)
  clear b2
  go_wp2_with fail
  go_ret2
  exact ⟨rfl, W2.out⟩

set_option maxRecDepth 100000 in
theorem implIsTelling_any (s q : Int) (A : Option Addr) (n c : Nat) (xss : List (List Int)) (B : Option Addr) (m d : Nat) (yss : List (List Int)) (A' : Option Addr) (l cap' : Nat) (ws : List Int) (w : World) (h : RowsAt w A n xss) (hn : n ≤ 4611686018427387904)
    (hrows : ∀ (r : Nat) (xs : List Int), xss[r]? = some xs → xs.length ≤ 4611686018427387904) (g : RowsAt w B m yss) (hm : m ≤ 4611686018427387904) (houts : ∀ (r : Nat) (xs : List Int), yss[r]? = some xs → xs.length ≤ 4611686018427387904) (h' : NumsAt w A' l ws) (hl : l ≤ 4611686018427387904) :
    Calls Try.prog 35 #[.agg #[.int .i64 s, .int .i64 q, .slice A n c, .slice B m d], .slice A' l cap'] w fun e w' => e = .returned (.tuple #[.bool (isTelling s q xss yss ws).1, .int .i64 (isTelling s q xss yss ws).2]) ∧ Below w.heap.size w w' := by
  unfold isTelling
  have HR := Lib.hid hrows
  have HO := Lib.hid houts
  have b1 : Below w.heap.size w (w.alloc (.cells #[.int .i64 s, .int .i64 q, .slice A n c, .slice B m d] 27)) := (Below.refl _ _).alloc (Nat.le_refl _) _
  have HX1 := Lib.hid (h.below b1)
  have HY1 := Lib.hid (g.below b1)
  have HN1 := Lib.hid (h'.below b1)
  have W1 := Lib.hid b1
  clear h g h' b1 hrows houts
  go_enter Try.func35, Try.ntmps35
  go_wp2_with fail
  refine (holdsT_any s q A n c xss B m d yss A' l cap' ws _ HX1.out hn HR.out HY1.out hm HO.out HN1.out hl).mono ?_
  rintro e w2 ⟨rfl, b2⟩
  have W2 := Lib.hid (below_then W1.out b2)
  clear b2
  go_wp2_with fail
  go_ret2
  exact ⟨rfl, W2.out⟩

end Go.Proofs.Ytkhhemlfahdbnaa
