/-
  Words that tell states, in the model: the contracts of l06Asked, l06Tells and of its IsHoming and IsTelling.
-/
import Derived.Test.YtkhhemlfahdbnaaMachR
import Derived.Test.YtkhhemlfahdbnaaSame
namespace Go.Proofs.Ytkhhemlfahdbnaa
open Go.RowKit Go.Deep Go.ChangeShapes Go.WideShapes

/-- Two answers that leave no doubt. -/
def okT (tell : Bool) (xs : List Int) (e : Nat) (ys : List Int) (e' : Nat) : Bool := !sameB xs ys || (!tell && decide (e = e'))
theorem okT_symm (tell : Bool) (xs : List Int) (e : Nat) (ys : List Int) (e' : Nat) : okT tell xs e ys e' = okT tell ys e' xs e := by
  unfold okT sameB
  rw [show decide (xs = ys) = decide (ys = xs) from decide_eq_decide.2 ⟨Eq.symm, Eq.symm⟩, show decide (e = e') = decide (e' = e) from decide_eq_decide.2 ⟨Eq.symm, Eq.symm⟩]
/-- Whether a word tells the states: from any two, the answers leave no doubt. -/
def okW (tell : Bool) (xss yss : List (List Int)) (ws : List Int) (s t : Nat) : Bool := okT tell (outS xss yss ws s) (toS xss ws s) (outS xss yss ws t) (toS xss ws t)
def rowT (tell : Bool) (xss yss : List (List Int)) (ws : List Int) (s k : Nat) : Bool := (List.range k).all fun t => okW tell xss yss ws s t
def tellsB (tell : Bool) (k : Nat) (xss yss : List (List Int)) (ws : List Int) : Bool := (List.range k).all fun s => rowT tell xss yss ws s s
theorem rowT_succ {tell : Bool} {xss yss : List (List Int)} {ws : List Int} {s k : Nat} (h : rowT tell xss yss ws s k = true) (h' : okW tell xss yss ws s k = true) : rowT tell xss yss ws s (k + 1) = true := by
  unfold rowT at h ⊢
  rw [List.range_succ, List.all_append, h]
  simp [h']
theorem tellsB_succ {tell : Bool} {k : Nat} {xss yss : List (List Int)} {ws : List Int} (h : tellsB tell k xss yss ws = true) (h' : rowT tell xss yss ws k k = true) : tellsB tell (k + 1) xss yss ws = true := by
  unfold tellsB at h ⊢
  rw [List.range_succ, List.all_append, h]
  simp [h']
theorem tellsB_no {tell : Bool} {k s t : Nat} {xss yss : List (List Int)} {ws : List Int} (hs : s < k) (ht : t < s) (h : okW tell xss yss ws s t = false) : tellsB tell k xss yss ws = false := by
  unfold tellsB
  rw [List.all_eq_false]
  refine ⟨s, List.mem_range.2 hs, ?_⟩
  rw [Bool.not_eq_true]
  unfold rowT
  rw [List.all_eq_false]
  exact ⟨t, List.mem_range.2 ht, by simp [h]⟩
theorem tellsB_iff {tell : Bool} {k : Nat} {xss yss : List (List Int)} {ws : List Int} : tellsB tell k xss yss ws = true ↔ ∀ s t, s < t → t < k → okW tell xss yss ws s t = true := by
  unfold tellsB rowT
  simp only [List.all_eq_true, List.mem_range]
  constructor
  · intro h s t hst htk
    unfold okW
    rw [okT_symm]
    exact h t htk s hst
  · intro h s hs t ht
    unfold okW
    rw [okT_symm]
    exact h t s ht hs
/-- What IsHoming and IsTelling answer. -/
def tellsOf (tell : Bool) (s q : Int) (xss yss : List (List Int)) (ws : List Int) : Bool × Int :=
  if okM s q xss yss = true then (if isWordB (xss.length : Int) ws = true then (tellsB tell s.toNat xss yss ws, 0) else (false, 2)) else (false, 1)
def isHoming (s q : Int) (xss yss : List (List Int)) (ws : List Int) : Bool × Int := tellsOf false s q xss yss ws
def isTelling (s q : Int) (xss yss : List (List Int)) (ws : List Int) : Bool × Int := tellsOf true s q xss yss ws
theorem tellsOf_1 {tell : Bool} {s q : Int} {xss yss : List (List Int)} {ws : List Int} (h : okM s q xss yss = false) : tellsOf tell s q xss yss ws = (false, 1) := by unfold tellsOf; rw [if_neg (by simp [h])]
theorem tellsOf_2 {tell : Bool} {s q : Int} {m : Nat} {xss yss : List (List Int)} {ws : List Int} (h : okM s q xss yss = true) (hm : xss.length = m) (h' : isWordB (m : Int) ws = false) : tellsOf tell s q xss yss ws = (false, 2) := by unfold tellsOf; rw [if_pos h, hm, if_neg (by simp [h'])]
theorem tellsOf_0 {tell : Bool} {n : Nat} {q : Int} {m : Nat} {xss yss : List (List Int)} {ws : List Int} (h : okM (n : Int) q xss yss = true) (hm : xss.length = m) (h' : isWordB (m : Int) ws = true) : tellsOf tell (n : Int) q xss yss ws = (tellsB tell n xss yss ws, 0) := by unfold tellsOf; rw [if_pos h, hm, if_pos h', Int.toNat_natCast]
theorem two_mkb {r : Bool × Int} {b : Bool} {c : Int} (h : r = (b, c)) : Ending.returned (.tuple #[.bool b, .int .i64 c]) = .returned (.tuple #[.bool r.1, .int .i64 r.2]) := by rw [h]

set_option maxRecDepth 100000 in
set_option maxHeartbeats 1000000 in
theorem l06Asked_any (p : Nat) (s q : Int) (A : Option Addr) (n c : Nat) (xss : List (List Int)) (B : Option Addr) (m d : Nat) (yss : List (List Int)) (A' : Option Addr) (l cap' : Nat) (ws : List Int) (w : World) (hb : MBox w p s q A n c B m d) (h : RowsAt w A n xss) (hn : n ≤ 4611686018427387904)
    (hrows : ∀ (r : Nat) (xs : List Int), xss[r]? = some xs → xs.length ≤ 4611686018427387904) (g : RowsAt w B m yss) (hm : m ≤ 4611686018427387904) (houts : ∀ (r : Nat) (xs : List Int), yss[r]? = some xs → xs.length ≤ 4611686018427387904) (h' : NumsAt w A' l ws) (hl : l ≤ 4611686018427387904) :
    Calls Try.prog 67 #[.pointer (some ⟨p, 0, none⟩), .slice A' l cap'] w fun e w' => e = .returned (.int .i64 (tellsOf true s q xss yss ws).2) ∧ Below w.heap.size w w' := by
  have HR := Lib.hid hrows
  have HO := Lib.hid houts
  have HM := Lib.hid h.1
  have HB := Lib.hid hb
  have HN := Lib.hid h'
  clear hrows houts hb h'
  go_enter Try.func67, Try.ntmps67
  go_wp2_with fail
  refine (l06Ok_any p s q A n c xss B m d yss w HB.out h hn HR.out g hm HO.out).mono ?_
  rintro e w1 ⟨rfl, b1⟩
  have HB1 := Lib.hid (show MBox w1 p s q A n c B m d from Box.below HB.out b1)
  have HN1 := Lib.hid (HN.out.below b1)
  have W1 := Lib.hid b1
  clear b1 HB HN h g
  rcases hok : okM s q xss yss with _ | _
  · have HF := Lib.hid (tellsOf_1 (tell := true) (ws := ws) hok)
    go_wp2_with fail
    go_ret
    exact ⟨ret_int (by rw [HF.out]), W1.out⟩
  · obtain ⟨n', k, hs, hk, hg⟩ := goodM_of hok HM.out
    subst hs hk
    have hm1 := hg.good.m1
    have hm3 := hg.good.m3
    clear hg
    go_wp2_with fail
    refine (l06Word_any p (n' : Int) (k : Int) A n c B m d A' l cap' ws _ HB1.out HN1.out hm1 hm3 hl).mono ?_
    rintro e w2 ⟨rfl, b2⟩
    have W2 := Lib.hid (below_then W1.out b2)
    clear b2
    rcases hwd : isWordB (n : Int) ws with _ | _
    · have HF := Lib.hid (tellsOf_2 (tell := true) hok HM.out hwd)
      go_wp2_with fail
      go_ret
      exact ⟨ret_int (by rw [HF.out]), W2.out⟩
    · have HF := Lib.hid (tellsOf_0 (tell := true) hok HM.out hwd)
      go_wp2_with fail
      go_ret
      exact ⟨ret_int (by rw [HF.out]), W2.out⟩

set_option maxRecDepth 100000 in
set_option maxHeartbeats 4000000 in
theorem l06Tells_any (tell : Bool) (p : Nat) (A : Option Addr) (n m k c : Nat) (xss : List (List Int)) (B : Option Addr) (d : Nat) (yss : List (List Int)) (A' : Option Addr) (l cap' : Nat) (ws : List Int) (w : World) (hg : GoodM n m k xss yss) (hb : MBox w p (n : Int) (k : Int) A m c B m d) (h : RowsAt w A m xss) (g : RowsAt w B m yss) (h' : NumsAt w A' l ws)
    (hw : ∀ x ∈ ws, 0 ≤ x ∧ x < (m : Int)) (hl : l ≤ 400) :
    Calls Try.prog 68 #[.pointer (some ⟨p, 0, none⟩), .slice A' l cap', .bool tell] w fun e w' => e = .returned (.bool (tellsB tell n xss yss ws)) ∧ Below w.heap.size w w' := by
  have HG := Lib.hid hg
  have hn10 := hg.good.n10
  have HWS := Lib.hid hw
  have HB := Lib.hid hb
  have HX := Lib.hid h
  have HY := Lib.hid g
  have HN := Lib.hid h'
  have HL := Lib.hid h'.1
  clear hg hw hb h g h'
  go_enter Try.func68, Try.ntmps68
  go_wp2_with fail
  go_loopw [7] (fun i wr => ∃ s : Nat, s ≤ n ∧ i = .int .i64 s ∧ tellsB tell s xss yss ws = true ∧ Below w.heap.size w wr) (fun i _ => n - (intOf i).toNat)
  case atStart => exact ⟨0, Nat.zero_le _, rfl, rfl, Below.refl _ _⟩
  case round =>
    obtain ⟨s, hs, rfl, hall, hbel⟩ := hrel
    have HA := Lib.hid hall
    have HBL := Lib.hid hbel
    have c0 := (Box.below HB.out hbel) 0 _ rfl
    clear hall hbel
    by_cases hlt : s < n
    · have i1 : (0 : Int) ≤ (s : Int) := by omega
      have i2 : (s : Int) < (n : Int) := by omega
      go_wp2_with fail
      clear c0
      go_loopw [8] (fun i wi => ∃ t : Nat, t ≤ s ∧ i = .int .i64 t ∧ rowT tell xss yss ws s t = true ∧ Below w.heap.size w wi) (fun i _ => s - (intOf i).toNat)
      case atStart => exact ⟨0, Nat.zero_le _, rfl, rfl, HBL.out⟩
      case round =>
        obtain ⟨t, ht, rfl, hrow, hbel⟩ := hrel
        have HRW := Lib.hid hrow
        have HB2 := Lib.hid hbel
        clear hrow hbel
        by_cases hts : t < s
        · have j1 : (0 : Int) ≤ (t : Int) := by omega
          have j2 : (t : Int) < (s : Int) := by omega
          go_wp2_with fail
          refine (l06Run_any p A n m k c xss B d yss s A' l cap' ws _ HG.out (Box.below HB.out HB2.out) (HX.out.below HB2.out) (HY.out.below HB2.out) (HN.out.below HB2.out) HWS.out hlt hl).mono ?_
          rintro e w3 ⟨v, rfl, o3, b3⟩
          obtain ⟨L1, hL1⟩ : ∃ L1, L1 = outS xss yss ws s := ⟨_, rfl⟩
          rw [← hL1] at o3
          have hl1 : L1.length ≤ 400 := by rw [hL1, outS_len, HL.out]; exact hl
          obtain ⟨V3, C3, rfl⟩ := own_form o3
          have N3 := Lib.hid (NumsAt.own o3 rfl rfl)
          have HB3 := Lib.hid (below_then HB2.out b3)
          have HL1 := Lib.hid hL1
          clear o3 b3 hL1
          go_wp2_with fail
          refine (l06Run_any p A n m k c xss B d yss t A' l cap' ws _ HG.out (Box.below HB.out HB3.out) (HX.out.below HB3.out) (HY.out.below HB3.out) (HN.out.below HB3.out) HWS.out (by omega) hl).mono ?_
          rintro e w4 ⟨v, rfl, o4, b4⟩
          obtain ⟨L2, hL2⟩ : ∃ L2, L2 = outS xss yss ws t := ⟨_, rfl⟩
          rw [← hL2] at o4
          have hl2 : L2.length ≤ 400 := by rw [hL2, outS_len, HL.out]; exact hl
          obtain ⟨V4, C4, rfl⟩ := own_form o4
          have N4 := Lib.hid (NumsAt.own o4 rfl rfl)
          have N3 := Lib.hid (N3.out.below b4)
          have HB4 := Lib.hid (below_then HB3.out b4)
          have HL2 := Lib.hid hL2
          obtain ⟨e1, he1⟩ : ∃ e1, e1 = toS xss ws s := ⟨_, rfl⟩
          obtain ⟨e2, he2⟩ : ∃ e2, e2 = toS xss ws t := ⟨_, rfl⟩
          rw [← he1, ← he2]
          have HOK := Lib.hid (show okW tell xss yss ws s t = okT tell L1 e1 L2 e2 by unfold okW; rw [hL2, HL1.out, he1, he2])
          clear o4 b4 hL2 he1 he2
          rcases hsm : sameB L1 L2 with _ | _
          · have HQ := Lib.hid (show okW tell xss yss ws s t = true by rw [HOK.out]; unfold okT; rw [hsm]; rfl)
            go_wp2_with fail
            refine (l00Same_any _ _ _ _ _ _ L1 L2 _ N3.out N4.out (by omega) (by omega)).mono ?_
            rw [hsm]
            rintro e w5 ⟨rfl, k5, rfl⟩
            go_wp2_with fail
            go_roundw
            case rel => exact ⟨t + 1, by omega, by go_num, rowT_succ HRW.out HQ.out, below_drewN' HB4.out _⟩
            case measure => simp [intOf]; omega
          · rcases tell with _ | _
            · by_cases hee : e1 = e2
              · have hne : ((e1 : Int) != (e2 : Int)) = false := by simp [hee]
                have HQ := Lib.hid (show okW false xss yss ws s t = true by rw [HOK.out]; unfold okT; rw [hsm]; simp [hee])
                clear hee
                go_wp2_with fail
                refine (l00Same_any _ _ _ _ _ _ L1 L2 _ N3.out N4.out (by omega) (by omega)).mono ?_
                rw [hsm]
                rintro e w5 ⟨rfl, k5, rfl⟩
                go_wp2_with fail
                go_roundw
                case rel => exact ⟨t + 1, by omega, by go_num, rowT_succ HRW.out HQ.out, below_drewN' HB4.out _⟩
                case measure => simp [intOf]; omega
              · have hne : ((e1 : Int) != (e2 : Int)) = true := by rw [bne_iff_ne]; omega
                have HQ := Lib.hid (show okW false xss yss ws s t = false by rw [HOK.out]; unfold okT; rw [hsm]; simp [hee])
                clear hee
                go_wp2_with fail
                refine (l00Same_any _ _ _ _ _ _ L1 L2 _ N3.out N4.out (by omega) (by omega)).mono ?_
                rw [hsm]
                rintro e w5 ⟨rfl, k5, rfl⟩
                go_wp2_with fail
                go_ret
                exact ⟨ret_bool (tellsB_no hlt hts HQ.out).symm, below_drewN' HB4.out _⟩
            · have HQ := Lib.hid (show okW true xss yss ws s t = false by rw [HOK.out]; unfold okT; rw [hsm]; rfl)
              go_wp2_with fail
              refine (l00Same_any _ _ _ _ _ _ L1 L2 _ N3.out N4.out (by omega) (by omega)).mono ?_
              rw [hsm]
              rintro e w5 ⟨rfl, k5, rfl⟩
              go_wp2_with fail
              go_ret
              exact ⟨ret_bool (tellsB_no hlt hts HQ.out).symm, below_drewN' HB4.out _⟩
        · have hte : t = s := by omega
          have HTE := Lib.hid hte
          have j2 : ¬ (t : Int) < (s : Int) := by omega
          clear hte
          go_wp2_with fail
          go_roundw
          case rel => exact ⟨s + 1, by omega, by go_num, tellsB_succ HA.out (by rw [← HTE.out]; rw [HTE.out] at HRW; have e := HRW.out; rw [HTE.out]; exact e), HB2.out⟩
          case measure => simp [intOf]; omega
    · have hse : s = n := by omega
      have HSE := Lib.hid hse
      clear hse
      go_wp2_with fail
      go_ret
      exact ⟨ret_bool (by rw [← HSE.out]; exact HA.out.symm), HBL.out⟩

set_option maxRecDepth 100000 in
set_option maxHeartbeats 2000000 in
theorem specIsHoming_any (s q : Int) (A : Option Addr) (n c : Nat) (xss : List (List Int)) (B : Option Addr) (m d : Nat) (yss : List (List Int)) (A' : Option Addr) (l cap' : Nat) (ws : List Int) (w : World) (h : RowsAt w A n xss) (hn : n ≤ 4611686018427387904)
    (hrows : ∀ (r : Nat) (xs : List Int), xss[r]? = some xs → xs.length ≤ 4611686018427387904) (g : RowsAt w B m yss) (hm : m ≤ 4611686018427387904) (houts : ∀ (r : Nat) (xs : List Int), yss[r]? = some xs → xs.length ≤ 4611686018427387904) (h' : NumsAt w A' l ws) (hl : l ≤ 4611686018427387904) :
    Calls Try.prog 32 #[.agg #[.int .i64 s, .int .i64 q, .slice A n c, .slice B m d], .slice A' l cap'] w fun e w' => e = .returned (.tuple #[.bool (isHoming s q xss yss ws).1, .int .i64 (isHoming s q xss yss ws).2]) ∧ Below w.heap.size w w' := by
  unfold isHoming
  have HR := Lib.hid hrows
  have HO := Lib.hid houts
  have HM := Lib.hid h.1
  have HL := Lib.hid h'.1
  obtain ⟨w1, hw1⟩ : ∃ w1, w1 = w.alloc (.cells #[.int .i64 s, .int .i64 q, .slice A n c, .slice B m d] 27) := ⟨_, rfl⟩
  have b1 : Below w.heap.size w w1 := by rw [hw1]; exact (Below.refl _ _).alloc (Nat.le_refl _) _
  have HB1 := Lib.hid (show MBox w1 w.heap.size s q A n c B m d by rw [hw1]; exact Box.new _ _ _)
  have HX1 := Lib.hid (h.below b1)
  have HY1 := Lib.hid (g.below b1)
  have HN1 := Lib.hid (h'.below b1)
  have W1 := Lib.hid b1
  have HW := Lib.hid hw1
  clear h g h' b1 hw1 hrows houts
  go_enter Try.func32, Try.ntmps32
  go_wp2_with fail
  rw [← HW.out]
  refine (l06Asked_any w.heap.size s q A n c xss B m d yss A' l cap' ws _ HB1.out HX1.out hn HR.out HY1.out hm HO.out HN1.out hl).mono ?_
  rintro e w2 ⟨rfl, b2⟩
  have HB2 := Lib.hid (Box.below HB1.out b2)
  have HX2 := Lib.hid (HX1.out.below b2)
  have HY2 := Lib.hid (HY1.out.below b2)
  have HN2 := Lib.hid (HN1.out.below b2)
  have W2 := Lib.hid (below_then W1.out b2)
  clear b2 HB1 HX1 HY1 HN1 W1
  rcases hok : okM s q xss yss with _ | _
  · have HF := Lib.hid (tellsOf_1 (tell := false) (ws := ws) hok)
    rw [tellsOf_1 (tell := true) (ws := ws) hok]
    go_wp2_with fail
    go_ret2
    exact ⟨two_mkb HF.out, W2.out⟩
  · obtain ⟨n', k, hs, hk, hg⟩ := goodM_of hok HM.out
    subst hs hk
    have HG := Lib.hid hg
    have HMN := Lib.hid hg.outs
    clear hg
    rcases hwd : isWordB (n : Int) ws with _ | _
    · have HF := Lib.hid (tellsOf_2 (tell := false) hok HM.out hwd)
      rw [tellsOf_2 (tell := true) hok HM.out hwd]
      go_wp2_with fail
      go_ret2
      exact ⟨two_mkb HF.out, W2.out⟩
    · have HF := Lib.hid (tellsOf_0 (tell := false) hok HM.out hwd)
      rw [tellsOf_0 (tell := true) hok HM.out hwd]
      have HWL := Lib.hid (word_letters hwd)
      have hl4 : l ≤ 400 := by simp only [isWordB, Bool.and_eq_true, decide_eq_true_eq] at hwd; have := HL.out; omega
      have hmn : m = n := by have h1 := HMN.out; have h2 := HY2.out.1; omega
      subst hmn
      go_wp2_with fail
      refine (l06Tells_any false w.heap.size A n' m k c xss B d yss A' l cap' ws _ HG.out HB2.out HX2.out HY2.out HN2.out HWL.out hl4).mono ?_
      rintro e w3 ⟨rfl, b3⟩
      have W3 := Lib.hid (below_then W2.out b3)
      clear b3
      go_wp2_with fail
      go_ret2
      exact ⟨two_mkb HF.out, W3.out⟩

set_option maxRecDepth 100000 in
set_option maxHeartbeats 2000000 in
theorem specIsTelling_any (s q : Int) (A : Option Addr) (n c : Nat) (xss : List (List Int)) (B : Option Addr) (m d : Nat) (yss : List (List Int)) (A' : Option Addr) (l cap' : Nat) (ws : List Int) (w : World) (h : RowsAt w A n xss) (hn : n ≤ 4611686018427387904)
    (hrows : ∀ (r : Nat) (xs : List Int), xss[r]? = some xs → xs.length ≤ 4611686018427387904) (g : RowsAt w B m yss) (hm : m ≤ 4611686018427387904) (houts : ∀ (r : Nat) (xs : List Int), yss[r]? = some xs → xs.length ≤ 4611686018427387904) (h' : NumsAt w A' l ws) (hl : l ≤ 4611686018427387904) :
    Calls Try.prog 34 #[.agg #[.int .i64 s, .int .i64 q, .slice A n c, .slice B m d], .slice A' l cap'] w fun e w' => e = .returned (.tuple #[.bool (isTelling s q xss yss ws).1, .int .i64 (isTelling s q xss yss ws).2]) ∧ Below w.heap.size w w' := by
  unfold isTelling
  have HR := Lib.hid hrows
  have HO := Lib.hid houts
  have HM := Lib.hid h.1
  have HL := Lib.hid h'.1
  obtain ⟨w1, hw1⟩ : ∃ w1, w1 = w.alloc (.cells #[.int .i64 s, .int .i64 q, .slice A n c, .slice B m d] 27) := ⟨_, rfl⟩
  have b1 : Below w.heap.size w w1 := by rw [hw1]; exact (Below.refl _ _).alloc (Nat.le_refl _) _
  have HB1 := Lib.hid (show MBox w1 w.heap.size s q A n c B m d by rw [hw1]; exact Box.new _ _ _)
  have HX1 := Lib.hid (h.below b1)
  have HY1 := Lib.hid (g.below b1)
  have HN1 := Lib.hid (h'.below b1)
  have W1 := Lib.hid b1
  have HW := Lib.hid hw1
  clear h g h' b1 hw1 hrows houts
  go_enter Try.func34, Try.ntmps34
  go_wp2_with fail
  rw [← HW.out]
  refine (l06Asked_any w.heap.size s q A n c xss B m d yss A' l cap' ws _ HB1.out HX1.out hn HR.out HY1.out hm HO.out HN1.out hl).mono ?_
  rintro e w2 ⟨rfl, b2⟩
  have HB2 := Lib.hid (Box.below HB1.out b2)
  have HX2 := Lib.hid (HX1.out.below b2)
  have HY2 := Lib.hid (HY1.out.below b2)
  have HN2 := Lib.hid (HN1.out.below b2)
  have W2 := Lib.hid (below_then W1.out b2)
  clear b2 HB1 HX1 HY1 HN1 W1
  rcases hok : okM s q xss yss with _ | _
  · have HF := Lib.hid (tellsOf_1 (tell := true) (ws := ws) hok)
    rw [tellsOf_1 (tell := true) (ws := ws) hok]
    go_wp2_with fail
    go_ret2
    exact ⟨two_mkb HF.out, W2.out⟩
  · obtain ⟨n', k, hs, hk, hg⟩ := goodM_of hok HM.out
    subst hs hk
    have HG := Lib.hid hg
    have HMN := Lib.hid hg.outs
    clear hg
    rcases hwd : isWordB (n : Int) ws with _ | _
    · have HF := Lib.hid (tellsOf_2 (tell := true) hok HM.out hwd)
      rw [tellsOf_2 (tell := true) hok HM.out hwd]
      go_wp2_with fail
      go_ret2
      exact ⟨two_mkb HF.out, W2.out⟩
    · have HF := Lib.hid (tellsOf_0 (tell := true) hok HM.out hwd)
      rw [tellsOf_0 (tell := true) hok HM.out hwd]
      have HWL := Lib.hid (word_letters hwd)
      have hl4 : l ≤ 400 := by simp only [isWordB, Bool.and_eq_true, decide_eq_true_eq] at hwd; have := HL.out; omega
      have hmn : m = n := by have h1 := HMN.out; have h2 := HY2.out.1; omega
      subst hmn
      go_wp2_with fail
      refine (l06Tells_any true w.heap.size A n' m k c xss B d yss A' l cap' ws _ HG.out HB2.out HX2.out HY2.out HN2.out HWL.out hl4).mono ?_
      rintro e w3 ⟨rfl, b3⟩
      have W3 := Lib.hid (below_then W2.out b3)
      clear b3
      go_wp2_with fail
      go_ret2
      exact ⟨two_mkb HF.out, W3.out⟩

end Go.Proofs.Ytkhhemlfahdbnaa
