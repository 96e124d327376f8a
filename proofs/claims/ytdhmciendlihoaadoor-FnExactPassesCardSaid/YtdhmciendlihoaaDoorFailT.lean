/-
  The contracts of both FirstFailing and of both Passes.
-/
import Derived.Test.YtdhmciendlihoaaDoorFailI
import Derived.Test.YtdhmciendlihoaaDoorFailS
namespace Go.Proofs.YtdhmciendlihoaaDoor
open Go.RowKit Go.Deep Go.ChangeShapes Go.WideShapes

theorem three_mk {r : Int × Int × Int} {a b c : Int} (h : r = (a, b, c)) : Ending.returned (.tuple #[.int .i64 a, .int .i64 b, .int .i64 c]) = .returned (.tuple #[.int .i64 r.1, .int .i64 r.2.1, .int .i64 r.2.2]) := by rw [h]
theorem firstFailing_c {s q : Int} {xss yss : List (List Int)} {s' q' : Int} {xss' yss' wss : List (List Int)} {c : Int} (h : codeTwo s q xss yss s' q' xss' yss' wss = c) (hc : ¬ c = 0) : firstFailing s q xss yss s' q' xss' yss' wss = (0, 0, c) := by simp [firstFailing, h, hc]
theorem firstFailing_n {s q : Int} {xss yss : List (List Int)} {s' q' : Int} {xss' yss' wss : List (List Int)} (h : codeTwo s q xss yss s' q' xss' yss' wss = 0) (hf : failing (failN xss yss xss' yss') wss = none) : firstFailing s q xss yss s' q' xss' yss' wss = (0, 0, 6) := by simp [firstFailing, h, hf]
theorem firstFailing_s {s q : Int} {xss yss : List (List Int)} {s' q' : Int} {xss' yss' wss : List (List Int)} {p : Nat × Nat} (h : codeTwo s q xss yss s' q' xss' yss' wss = 0) (hf : failing (failN xss yss xss' yss') wss = some p) : firstFailing s q xss yss s' q' xss' yss' wss = ((p.1 : Int), (p.2 : Int), 0) := by simp [firstFailing, h, hf]
theorem passes_c {s q : Int} {xss yss : List (List Int)} {s' q' : Int} {xss' yss' wss : List (List Int)} {c : Int} (h : codeTwo s q xss yss s' q' xss' yss' wss = c) (hc : ¬ c = 0) : passes s q xss yss s' q' xss' yss' wss = (false, c) := by simp [passes, h, hc]
theorem passes_0 {s q : Int} {xss yss : List (List Int)} {s' q' : Int} {xss' yss' wss : List (List Int)} {b : Bool} (h : codeTwo s q xss yss s' q' xss' yss' wss = 0) (hf : (failing (failN xss yss xss' yss') wss).isNone = b) : passes s q xss yss s' q' xss' yss' wss = (b, 0) := by simp [passes, h, hf]
theorem two_bc {r : Bool × Int} {b : Bool} {c : Int} (h : r = (b, c)) : Ending.returned (.tuple #[.bool b, .int .i64 c]) = .returned (.tuple #[.bool r.1, .int .i64 r.2]) := by rw [h]
theorem codeTwo_cases {s q : Int} {xss yss : List (List Int)} {s' q' : Int} {xss' yss' wss : List (List Int)} : (codeTwo s q xss yss s' q' xss' yss' wss = 0 ∧ okM s q xss yss = true ∧ okM s' q' xss' yss' = true ∧ xss.length = xss'.length ∧ isSuiteB (xss.length : Int) wss = true) ∨ codeTwo s q xss yss s' q' xss' yss' wss = 1 ∨ codeTwo s q xss yss s' q' xss' yss' wss = 2 := by
  unfold codeTwo
  by_cases h : okTwo s q xss yss s' q' xss' yss' = true
  · rw [if_pos h]
    by_cases hf : fitTwo q q' xss xss' wss = true
    · rw [if_pos hf]
      simp only [okTwo, fitTwo, Bool.and_eq_true, decide_eq_true_eq] at h hf
      exact .inl ⟨rfl, h.1, h.2, hf.1.2, hf.2⟩
    · rw [if_neg hf]; exact .inr (.inr rfl)
  · rw [if_neg h]; exact .inr (.inl rfl)

set_option maxRecDepth 100000 in
set_option maxHeartbeats 2000000 in
theorem specFirstFailing_any (s q : Int) (A : Option Addr) (n c : Nat) (xss : List (List Int)) (B : Option Addr) (m d : Nat) (yss : List (List Int)) (s' q' : Int) (A2 : Option Addr) (n2 c2 : Nat) (xss2 : List (List Int)) (B2 : Option Addr) (m2 d2 : Nat) (yss2 : List (List Int)) (A' : Option Addr) (l cap' : Nat) (wss : List (List Int)) (w : World)
    (h : RowsAt w A n xss) (hn : n ≤ 4611686018427387904) (hrows : ∀ (r : Nat) (xs : List Int), xss[r]? = some xs → xs.length ≤ 4611686018427387904) (g : RowsAt w B m yss) (hm : m ≤ 4611686018427387904) (houts : ∀ (r : Nat) (xs : List Int), yss[r]? = some xs → xs.length ≤ 4611686018427387904)
    (h2 : RowsAt w A2 n2 xss2) (hn2 : n2 ≤ 4611686018427387904) (hrows2 : ∀ (r : Nat) (xs : List Int), xss2[r]? = some xs → xs.length ≤ 4611686018427387904) (g2 : RowsAt w B2 m2 yss2) (hm2 : m2 ≤ 4611686018427387904) (houts2 : ∀ (r : Nat) (xs : List Int), yss2[r]? = some xs → xs.length ≤ 4611686018427387904)
    (h' : RowsAt w A' l wss) (hl : l ≤ 4611686018427387904) (hwds : ∀ (r : Nat) (xs : List Int), wss[r]? = some xs → xs.length ≤ 4611686018427387904) :
    Calls Tryd.prog 21 #[.agg #[.int .i64 s, .int .i64 q, .slice A n c, .slice B m d], .agg #[.int .i64 s', .int .i64 q', .slice A2 n2 c2, .slice B2 m2 d2], .slice A' l cap'] w fun e w' => e = .returned (.tuple #[.int .i64 (firstFailing s q xss yss s' q' xss2 yss2 wss).1, .int .i64 (firstFailing s q xss yss s' q' xss2 yss2 wss).2.1, .int .i64 (firstFailing s q xss yss s' q' xss2 yss2 wss).2.2]) ∧ Below w.heap.size w w' := by
  have HR := Lib.hid hrows
  have HO := Lib.hid houts
  have HR2 := Lib.hid hrows2
  have HO2 := Lib.hid houts2
  have HD := Lib.hid hwds
  have HL := Lib.hid h.1
  have HL2 := Lib.hid h2.1
  obtain ⟨w1, hw1⟩ : ∃ w1, w1 = (w.alloc (.cells #[.int .i64 s, .int .i64 q, .slice A n c, .slice B m d] 28)).alloc (.cells #[.int .i64 s', .int .i64 q', .slice A2 n2 c2, .slice B2 m2 d2] 28) := ⟨_, rfl⟩
  have b1 : Below w.heap.size w w1 := by rw [hw1]; go_grown
  have HB := Lib.hid (show MBox w1 w.heap.size s q A n c B m d by rw [hw1]; exact Box.below (Box.new w _ _) ((Below.refl _ _).alloc (Nat.le_refl _) _))
  have HB2 := Lib.hid (show MBox w1 (w.heap.size + 1) s' q' A2 n2 c2 B2 m2 d2 by
    rw [hw1]
    have := Box.new (w.alloc (.cells #[.int .i64 s, .int .i64 q, .slice A n c, .slice B m d] 28)) #[.int .i64 s', .int .i64 q', .slice A2 n2 c2, .slice B2 m2 d2] 28
    rwa [World.size_alloc] at this)
  have HX := Lib.hid (h.below b1)
  have HY := Lib.hid (g.below b1)
  have HX2 := Lib.hid (h2.below b1)
  have HY2 := Lib.hid (g2.below b1)
  have HS := Lib.hid (h'.below b1)
  have W1 := Lib.hid b1
  have HW := Lib.hid hw1
  clear hrows houts hrows2 houts2 hwds h g h2 g2 h' b1 hw1
  go_enter Tryd.func21, Tryd.ntmps21
  go_wp2_with fail
  rw [← HW.out]
  refine (l07Two_any w.heap.size s q A n c xss B m d yss (w.heap.size + 1) s' q' A2 n2 c2 xss2 B2 m2 d2 yss2 A' l cap' wss w1 HB.out HX.out hn HR.out HY.out hm HO.out HB2.out HX2.out hn2 HR2.out HY2.out hm2 HO2.out HS.out hl HD.out).mono ?_
  rintro e w2 ⟨rfl, b2⟩
  have W2 := Lib.hid (below_then W1.out b2)
  have HBB := Lib.hid b2
  clear b2
  rcases @codeTwo_cases s q xss yss s' q' xss2 yss2 wss with ⟨hc, hok, hok2, hnn, hsu⟩ | hc | hc
  · obtain ⟨N, K, hs, hk, hg⟩ := goodM_of hok HL.out
    obtain ⟨N2, K2, hs2, hk2, hg2⟩ := goodM_of hok2 HL2.out
    have en : n2 = n := by have := HL.out; have := HL2.out; omega
    subst en
    have em : m = n2 := by have h1 := hg.outs; have h2 := HY.out.1; omega
    have em2 : m2 = n2 := by have h1 := hg2.outs; have h2 := HY2.out.1; omega
    subst em em2
    have HG := Lib.hid hg
    have HG2 := Lib.hid hg2
    have HSU := Lib.hid (show isSuiteB (m2 : Int) wss = true by rw [HL.out] at hsu; exact hsu)
    have HC := Lib.hid hc
    rw [hc]
    subst hs hk hs2 hk2
    clear hg hg2 hsu hok hok2 hc hnn
    go_wp2_with fail
    refine (l07Failing_any w.heap.size A N m2 K c xss B d yss (w.heap.size + 1) A2 N2 K2 c2 xss2 B2 d2 yss2 A' l cap' wss w2 HG.out (Box.below HB.out HBB.out) (HX.out.below HBB.out) (HY.out.below HBB.out) HG2.out (Box.below HB2.out HBB.out) (HX2.out.below HBB.out) (HY2.out.below HBB.out) (HS.out.below HBB.out) HSU.out).mono ?_
    rintro e w3 ⟨rfl, b3⟩
    have W3 := Lib.hid (below_then W2.out b3)
    clear b3
    rcases hf : failing (failN xss yss xss2 yss2) wss with _ | p
    · simp only [failingV]
      go_wp2_with fail
      go_ret3
      exact ⟨three_mk (firstFailing_n HC.out hf), W3.out⟩
    · have hp0 : ¬ (p.1 : Int) < 0 := by omega
      simp only [failingV]
      go_wp2_with fail
      go_ret3
      exact ⟨three_mk (firstFailing_s HC.out hf), W3.out⟩
  · have HF := Lib.hid (firstFailing_c hc (by decide))
    rw [hc]
    go_wp2_with fail
    go_ret3
    exact ⟨three_mk HF.out, W2.out⟩
  · have HF := Lib.hid (firstFailing_c hc (by decide))
    rw [hc]
    go_wp2_with fail
    go_ret3
    exact ⟨three_mk HF.out, W2.out⟩

set_option maxRecDepth 100000 in
set_option maxHeartbeats 2000000 in
theorem specPasses_any (s q : Int) (A : Option Addr) (n c : Nat) (xss : List (List Int)) (B : Option Addr) (m d : Nat) (yss : List (List Int)) (s' q' : Int) (A2 : Option Addr) (n2 c2 : Nat) (xss2 : List (List Int)) (B2 : Option Addr) (m2 d2 : Nat) (yss2 : List (List Int)) (A' : Option Addr) (l cap' : Nat) (wss : List (List Int)) (w : World)
    (h : RowsAt w A n xss) (hn : n ≤ 4611686018427387904) (hrows : ∀ (r : Nat) (xs : List Int), xss[r]? = some xs → xs.length ≤ 4611686018427387904) (g : RowsAt w B m yss) (hm : m ≤ 4611686018427387904) (houts : ∀ (r : Nat) (xs : List Int), yss[r]? = some xs → xs.length ≤ 4611686018427387904)
    (h2 : RowsAt w A2 n2 xss2) (hn2 : n2 ≤ 4611686018427387904) (hrows2 : ∀ (r : Nat) (xs : List Int), xss2[r]? = some xs → xs.length ≤ 4611686018427387904) (g2 : RowsAt w B2 m2 yss2) (hm2 : m2 ≤ 4611686018427387904) (houts2 : ∀ (r : Nat) (xs : List Int), yss2[r]? = some xs → xs.length ≤ 4611686018427387904)
    (h' : RowsAt w A' l wss) (hl : l ≤ 4611686018427387904) (hwds : ∀ (r : Nat) (xs : List Int), wss[r]? = some xs → xs.length ≤ 4611686018427387904) :
    Calls Tryd.prog 23 #[.agg #[.int .i64 s, .int .i64 q, .slice A n c, .slice B m d], .agg #[.int .i64 s', .int .i64 q', .slice A2 n2 c2, .slice B2 m2 d2], .slice A' l cap'] w fun e w' => e = .returned (.tuple #[.bool (passes s q xss yss s' q' xss2 yss2 wss).1, .int .i64 (passes s q xss yss s' q' xss2 yss2 wss).2]) ∧ Below w.heap.size w w' := by
  have HR := Lib.hid hrows
  have HO := Lib.hid houts
  have HR2 := Lib.hid hrows2
  have HO2 := Lib.hid houts2
  have HD := Lib.hid hwds
  have HL := Lib.hid h.1
  have HL2 := Lib.hid h2.1
  obtain ⟨w1, hw1⟩ : ∃ w1, w1 = (w.alloc (.cells #[.int .i64 s, .int .i64 q, .slice A n c, .slice B m d] 28)).alloc (.cells #[.int .i64 s', .int .i64 q', .slice A2 n2 c2, .slice B2 m2 d2] 28) := ⟨_, rfl⟩
  have b1 : Below w.heap.size w w1 := by rw [hw1]; go_grown
  have HB := Lib.hid (show MBox w1 w.heap.size s q A n c B m d by rw [hw1]; exact Box.below (Box.new w _ _) ((Below.refl _ _).alloc (Nat.le_refl _) _))
  have HB2 := Lib.hid (show MBox w1 (w.heap.size + 1) s' q' A2 n2 c2 B2 m2 d2 by
    rw [hw1]
    have := Box.new (w.alloc (.cells #[.int .i64 s, .int .i64 q, .slice A n c, .slice B m d] 28)) #[.int .i64 s', .int .i64 q', .slice A2 n2 c2, .slice B2 m2 d2] 28
    rwa [World.size_alloc] at this)
  have HX := Lib.hid (h.below b1)
  have HY := Lib.hid (g.below b1)
  have HX2 := Lib.hid (h2.below b1)
  have HY2 := Lib.hid (g2.below b1)
  have HS := Lib.hid (h'.below b1)
  have W1 := Lib.hid b1
  have HW := Lib.hid hw1
  clear hrows houts hrows2 houts2 hwds h g h2 g2 h' b1 hw1
  go_enter Tryd.func23, Tryd.ntmps23
  go_wp2_with fail
  rw [← HW.out]
  refine (l07Two_any w.heap.size s q A n c xss B m d yss (w.heap.size + 1) s' q' A2 n2 c2 xss2 B2 m2 d2 yss2 A' l cap' wss w1 HB.out HX.out hn HR.out HY.out hm HO.out HB2.out HX2.out hn2 HR2.out HY2.out hm2 HO2.out HS.out hl HD.out).mono ?_
  rintro e w2 ⟨rfl, b2⟩
  have W2 := Lib.hid (below_then W1.out b2)
  have HBB := Lib.hid b2
  clear b2
  rcases @codeTwo_cases s q xss yss s' q' xss2 yss2 wss with ⟨hc, hok, hok2, hnn, hsu⟩ | hc | hc
  · obtain ⟨N, K, hs, hk, hg⟩ := goodM_of hok HL.out
    obtain ⟨N2, K2, hs2, hk2, hg2⟩ := goodM_of hok2 HL2.out
    have en : n2 = n := by have := HL.out; have := HL2.out; omega
    subst en
    have em : m = n2 := by have h1 := hg.outs; have h2 := HY.out.1; omega
    have em2 : m2 = n2 := by have h1 := hg2.outs; have h2 := HY2.out.1; omega
    subst em em2
    have HG := Lib.hid hg
    have HG2 := Lib.hid hg2
    have HSU := Lib.hid (show isSuiteB (m2 : Int) wss = true by rw [HL.out] at hsu; exact hsu)
    have HC := Lib.hid hc
    rw [hc]
    subst hs hk hs2 hk2
    clear hg hg2 hsu hok hok2 hc hnn
    go_wp2_with fail
    refine (l07Failing_any w.heap.size A N m2 K c xss B d yss (w.heap.size + 1) A2 N2 K2 c2 xss2 B2 d2 yss2 A' l cap' wss w2 HG.out (Box.below HB.out HBB.out) (HX.out.below HBB.out) (HY.out.below HBB.out) HG2.out (Box.below HB2.out HBB.out) (HX2.out.below HBB.out) (HY2.out.below HBB.out) (HS.out.below HBB.out) HSU.out).mono ?_
    rintro e w3 ⟨rfl, b3⟩
    have W3 := Lib.hid (below_then W2.out b3)
    clear b3
    rcases hf : failing (failN xss yss xss2 yss2) wss with _ | p
    · simp only [failingV]
      go_wp2_with fail
      go_ret2
      exact ⟨two_bc (passes_0 HC.out (b := true) (by simp [hf])), W3.out⟩
    · have hp0 : decide ((p.1 : Int) < 0) = false := decide_eq_false (by omega)
      simp only [failingV]
      go_wp2_with fail
      go_ret2
      exact ⟨two_bc (passes_0 HC.out (b := false) (by simp [hf])), W3.out⟩
  · have HF := Lib.hid (passes_c hc (by decide))
    rw [hc]
    go_wp2_with fail
    go_ret2
    exact ⟨two_bc HF.out, W2.out⟩
  · have HF := Lib.hid (passes_c hc (by decide))
    rw [hc]
    go_wp2_with fail
    go_ret2
    exact ⟨two_bc HF.out, W2.out⟩

set_option maxRecDepth 100000 in
set_option maxHeartbeats 4000000 in
theorem implFirstFailing_any (s q : Int) (A : Option Addr) (n c : Nat) (xss : List (List Int)) (B : Option Addr) (m d : Nat) (yss : List (List Int)) (s' q' : Int) (A2 : Option Addr) (n2 c2 : Nat) (xss2 : List (List Int)) (B2 : Option Addr) (m2 d2 : Nat) (yss2 : List (List Int)) (A' : Option Addr) (l cap' : Nat) (wss : List (List Int)) (w : World) (hH : HandleAt w)
    (h : RowsAt w A n xss) (hn : n ≤ 4611686018427387904) (hrows : ∀ (r : Nat) (xs : List Int), xss[r]? = some xs → xs.length ≤ 4611686018427387904) (g : RowsAt w B m yss) (hm : m ≤ 4611686018427387904) (houts : ∀ (r : Nat) (xs : List Int), yss[r]? = some xs → xs.length ≤ 4611686018427387904)
    (h2 : RowsAt w A2 n2 xss2) (hn2 : n2 ≤ 4611686018427387904) (hrows2 : ∀ (r : Nat) (xs : List Int), xss2[r]? = some xs → xs.length ≤ 4611686018427387904) (g2 : RowsAt w B2 m2 yss2) (hm2 : m2 ≤ 4611686018427387904) (houts2 : ∀ (r : Nat) (xs : List Int), yss2[r]? = some xs → xs.length ≤ 4611686018427387904)
    (h' : RowsAt w A' l wss) (hl : l ≤ 4611686018427387904) (hwds : ∀ (r : Nat) (xs : List Int), wss[r]? = some xs → xs.length ≤ 4611686018427387904) :
    Calls Tryd.prog 22 #[.agg #[.int .i64 s, .int .i64 q, .slice A n c, .slice B m d], .agg #[.int .i64 s', .int .i64 q', .slice A2 n2 c2, .slice B2 m2 d2], .slice A' l cap'] w fun e w' => e = .returned (.tuple #[.int .i64 (firstFailing s q xss yss s' q' xss2 yss2 wss).1, .int .i64 (firstFailing s q xss yss s' q' xss2 yss2 wss).2.1, .int .i64 (firstFailing s q xss yss s' q' xss2 yss2 wss).2.2]) ∧ Below w.heap.size w w' := by
  have HR := Lib.hid hrows
  have HO := Lib.hid houts
  have HR2 := Lib.hid hrows2
  have HO2 := Lib.hid houts2
  have HD := Lib.hid hwds
  have HL := Lib.hid h.1
  have HL2 := Lib.hid h2.1
  have HS0 := Lib.hid h'.1
  obtain ⟨w1, hw1⟩ : ∃ w1, w1 = (w.alloc (.cells #[.int .i64 s, .int .i64 q, .slice A n c, .slice B m d] 28)).alloc (.cells #[.int .i64 s', .int .i64 q', .slice A2 n2 c2, .slice B2 m2 d2] 28) := ⟨_, rfl⟩
  have b1 : Below w.heap.size w w1 := by rw [hw1]; go_grown
  have HB := Lib.hid (show MBox w1 w.heap.size s q A n c B m d by rw [hw1]; exact Box.below (Box.new w _ _) ((Below.refl _ _).alloc (Nat.le_refl _) _))
  have HB2 := Lib.hid (show MBox w1 (w.heap.size + 1) s' q' A2 n2 c2 B2 m2 d2 by
    rw [hw1]
    have := Box.new (w.alloc (.cells #[.int .i64 s, .int .i64 q, .slice A n c, .slice B m d] 28)) #[.int .i64 s', .int .i64 q', .slice A2 n2 c2, .slice B2 m2 d2] 28
    rwa [World.size_alloc] at this)
  have HX := Lib.hid (h.below b1)
  have HY := Lib.hid (g.below b1)
  have HX2 := Lib.hid (h2.below b1)
  have HY2 := Lib.hid (g2.below b1)
  have HS := Lib.hid (h'.below b1)
  have HH := Lib.hid (hH.on b1)
  have W1 := Lib.hid b1
  have HW := Lib.hid hw1
  clear hrows houts hrows2 houts2 hwds h g h2 g2 h' b1 hw1 hH
  go_enter Tryd.func22, Tryd.ntmps22
  go_wp2_with fail
  rw [← HW.out]
  refine (implValidMachine_any s q A n c xss B m d yss w1 HX.out hn HR.out HY.out hm HO.out).mono ?_
  rintro e w2 ⟨rfl, b2⟩
  have V2 := Lib.hid b2
  clear b2
  rcases hok : okM s q xss yss with _ | _
  · have HF := Lib.hid (firstFailing_c (s := s) (q := q) (xss := xss) (yss := yss) (s' := s') (q' := q') (xss' := xss2) (yss' := yss2) (wss := wss) (codeTwo_1 hok) (by decide))
    go_wp2_with fail
    go_ret3
    exact ⟨three_mk HF.out, below_then W1.out V2.out⟩
  have f0 := (Box.below HB2.out V2.out) 0 _ rfl
  have f1 := (Box.below HB2.out V2.out) 1 _ rfl
  have f2 := (Box.below HB2.out V2.out) 2 _ rfl
  have f3 := (Box.below HB2.out V2.out) 3 _ rfl
  go_wp2_with fail
  clear f0 f1 f2 f3
  refine (implValidMachine_any s' q' A2 n2 c2 xss2 B2 m2 d2 yss2 w2 (HX2.out.below V2.out) hn2 HR2.out (HY2.out.below V2.out) hm2 HO2.out).mono ?_
  rintro e w3 ⟨rfl, b3⟩
  have V3 := Lib.hid (below_then V2.out b3)
  clear b3 V2
  rcases hok2 : okM s' q' xss2 yss2 with _ | _
  · have HF := Lib.hid (firstFailing_c (s := s) (q := q) (xss := xss) (yss := yss) (s' := s') (q' := q') (xss' := xss2) (yss' := yss2) (wss := wss) (codeTwo_1' hok2) (by decide))
    go_wp2_with fail
    go_ret3
    exact ⟨three_mk HF.out, below_then W1.out V3.out⟩
  have d1 := (Box.below HB.out V3.out) 1 _ rfl
  have d2' := (Box.below HB.out V3.out) 2 _ rfl
  have f1 := (Box.below HB2.out V3.out) 1 _ rfl
  have f2 := (Box.below HB2.out V3.out) 2 _ rfl
  by_cases hq : q = q'
  case neg =>
    have eq : (q != q') = true := by rw [bne_iff_ne]; exact hq
    have HF := Lib.hid (firstFailing_c (codeTwo_2 hok hok2 (fitTwo_q (xss := xss) (xss' := xss2) (wss := wss) hq)) (by decide))
    clear hq
    go_wp2_with fail
    go_ret3
    exact ⟨three_mk HF.out, below_then W1.out V3.out⟩
  by_cases hnn : n = n2
  case neg =>
    have eq : (q != q') = false := by simp [hq]
    have en : ((n : Int) != (n2 : Int)) = true := by rw [bne_iff_ne]; omega
    have HF := Lib.hid (firstFailing_c (codeTwo_2 hok hok2 (fitTwo_n (q := q) (q' := q') (wss := wss) (show ¬ xss.length = xss2.length by rw [HL.out, HL2.out]; exact hnn))) (by decide))
    clear hq hnn
    go_wp2_with fail
    go_ret3
    exact ⟨three_mk HF.out, below_then W1.out V3.out⟩
  have eq : (q != q') = false := by simp [hq]
  have en : ((n : Int) != (n2 : Int)) = false := by simp [hnn]
  have HFT := Lib.hid (fitTwo_t (wss := wss) hq (show xss.length = xss2.length by rw [HL.out, HL2.out, hnn]))
  have HOK := Lib.hid hok
  have HOK2 := Lib.hid hok2
  have HNN := Lib.hid hnn
  clear hq hnn hok hok2
  go_wp2_with fail
  clear eq en d1 d2' f1 f2
  refine (isSuite_any n A' l cap' wss w3 (HH.out.on V3.out) (HS.out.below V3.out) hn hl HD.out).mono ?_
  rintro e w4 ⟨rfl, b4⟩
  have V4 := Lib.hid (below_then V3.out b4)
  clear b4 V3
  rcases hsu : isSuiteB (n : Int) wss with _ | _
  · have HF := Lib.hid (firstFailing_c (codeTwo_2 HOK.out HOK2.out (by rw [HFT.out, HL.out]; exact hsu)) (by decide))
    go_wp2_with fail
    go_ret3
    exact ⟨three_mk HF.out, below_then W1.out V4.out⟩
  have HC := Lib.hid (codeTwo_0 HOK.out HOK2.out (show fitTwo q q' xss xss2 wss = true by rw [HFT.out, HL.out]; exact hsu))
  obtain ⟨N, K, hs, hk, hg⟩ := goodM_of HOK.out HL.out
  obtain ⟨N2, K2, hs2, hk2, hg2⟩ := goodM_of HOK2.out HL2.out
  have en : n2 = n := by have := HNN.out; omega
  subst en
  have em : m = n2 := by have h1 := hg.outs; have h2 := HY.out.1; omega
  have em2 : m2 = n2 := by have h1 := hg2.outs; have h2 := HY2.out.1; omega
  subst em em2
  have HG := Lib.hid hg
  have HG2 := Lib.hid hg2
  have HSU := Lib.hid hsu
  have hl4 : l ≤ 400 := by have h1 := isSuiteB_len hsu; have := HS0.out; omega
  subst hs hk hs2 hk2
  have d0 := (Box.below HB.out V4.out) 0 _ rfl
  have d1 := (Box.below HB.out V4.out) 1 _ rfl
  have d2' := (Box.below HB.out V4.out) 2 _ rfl
  have d3 := (Box.below HB.out V4.out) 3 _ rfl
  clear hg hg2 hsu HNN HFT
  go_wp2_with fail
  clear d0 d1 d2' d3
  refine (recordOf_any A N m2 K c xss B d yss A' l cap' wss w4 HG.out (HX.out.below V4.out) (HY.out.below V4.out) (HS.out.below V4.out) HSU.out).mono ?_
  rintro e w5 ⟨v, rfl, t5, b5⟩
  obtain ⟨A5, c5, rfl⟩ := t5.form
  have erl : (recF xss yss wss l).length = l := recF_len _ _ _ (by rw [HS0.out]; exact Nat.le_refl _)
  have HT5 := Lib.hid (show RowsAt w5 A5 l (recF xss yss wss l) by have h9 := t5.rows rfl; rwa [erl] at h9)
  rw [erl]
  obtain ⟨w6, hw6⟩ : ∃ w6, w6 = w5.alloc (.cells #[.slice A' l cap', .slice A5 l c5] 72) := ⟨_, rfl⟩
  have b6 : Below w5.heap.size w5 w6 := by rw [hw6]; exact (Below.refl _ _).alloc (Nat.le_refl _) _
  have p0 : w6.cell? ⟨w5.heap.size, 0, none⟩ = some (.slice A' l cap') := by rw [hw6]; go_cell
  have p1 : w6.cell? ⟨w5.heap.size, 1, none⟩ = some (.slice A5 l c5) := by rw [hw6]; go_cell
  have V6 := Lib.hid (below_then V4.out (below_then b5 b6))
  have HT6 := Lib.hid (HT5.out.below b6)
  have HP0 := Lib.hid p0
  have HP1 := Lib.hid p1
  have HW6 := Lib.hid hw6
  clear t5 b5 b6 p0 p1 hw6 erl HT5
  go_wp2_with fail
  rw [← HW6.out]
  go_loopw [48] (fun i wr => ∃ j : Nat, j ≤ l ∧ i = .int .i64 j ∧ Below w6.heap.size w6 wr ∧ ∀ x ∈ wss.take j, failN xss yss xss2 yss2 x = none) (fun i _ => l - (intOf i).toNat)
  case atStart => exact ⟨0, Nat.zero_le _, rfl, Below.refl _ _, fun x hx => by simp at hx⟩
  case round =>
    obtain ⟨j, hj, rfl, hbel, hall⟩ := hrel
    have HA := Lib.hid hall
    have HBL := Lib.hid hbel
    have V7 := Lib.hid (below_then V6.out hbel)
    clear hall
    by_cases hlt : j < l
    · have hj0 : (0 : Int) ≤ (j : Int) := by omega
      have hjl : (j : Int) < (l : Int) := by omega
      have f0 := (Box.below HB2.out V7.out) 0 _ rfl
      have f1 := (Box.below HB2.out V7.out) 1 _ rfl
      have f2 := (Box.below HB2.out V7.out) 2 _ rfl
      have f3 := (Box.below HB2.out V7.out) 3 _ rfl
      have e0 := (hbel.cell (cell_lt HP0.out)).trans HP0.out
      have e1 := (hbel.cell (cell_lt HP1.out)).trans HP1.out
      obtain ⟨ws, hx⟩ : ∃ ws, wss[j]? = some ws := ⟨wss[j]'(by rw [HS0.out]; exact hlt), List.getElem?_eq_getElem (by rw [HS0.out]; exact hlt)⟩
      have HXX := Lib.hid hx
      clear hx hbel
      go_wp2_with fail
      refine (failingLetter_any xss yss A2 N2 m2 K2 c2 xss2 B2 d2 yss2 A' A5 l cap' c5 j wss ws wr HG2.out (HX2.out.below V7.out) (HY2.out.below V7.out) (HS.out.below V7.out) (HT6.out.below HBL.out) hlt HXX.out (isSuiteB_at HSU.out HXX.out)).mono ?_
      rintro e w7 ⟨rfl, b7⟩
      have HBL7 := Lib.hid (below_then HBL.out b7)
      have V8 := Lib.hid (below_then V7.out b7)
      clear b7 f0 f1 f2 f3 e0 e1
      rcases hf : failN xss yss xss2 yss2 ws with _ | i
      · simp only [letterV]
        go_wp2_with fail
        go_roundw
        case rel => exact ⟨j + 1, by omega, by go_num, HBL7.out, none_snoc HA.out HXX.out hf⟩
        case measure => simp [intOf]; omega
      · have HF := Lib.hid hf
        simp only [letterV]
        go_wp2_with fail
        go_ret3
        exact ⟨three_mk (firstFailing_s HC.out (failing_at HA.out HXX.out HF.out)), below_then W1.out V8.out⟩
    · clear hbel
      go_wp2_with fail
      go_ret3
      have hjl : j = l := by omega
      subst hjl
      exact ⟨three_mk (firstFailing_n HC.out (failing_none (none_done HS0.out HA.out))), below_then W1.out V7.out⟩

set_option maxRecDepth 100000 in
set_option maxHeartbeats 2000000 in
theorem implPasses_any (s q : Int) (A : Option Addr) (n c : Nat) (xss : List (List Int)) (B : Option Addr) (m d : Nat) (yss : List (List Int)) (s' q' : Int) (A2 : Option Addr) (n2 c2 : Nat) (xss2 : List (List Int)) (B2 : Option Addr) (m2 d2 : Nat) (yss2 : List (List Int)) (A' : Option Addr) (l cap' : Nat) (wss : List (List Int)) (w : World) (hH : HandleAt w)
    (h : RowsAt w A n xss) (hn : n ≤ 4611686018427387904) (hrows : ∀ (r : Nat) (xs : List Int), xss[r]? = some xs → xs.length ≤ 4611686018427387904) (g : RowsAt w B m yss) (hm : m ≤ 4611686018427387904) (houts : ∀ (r : Nat) (xs : List Int), yss[r]? = some xs → xs.length ≤ 4611686018427387904)
    (h2 : RowsAt w A2 n2 xss2) (hn2 : n2 ≤ 4611686018427387904) (hrows2 : ∀ (r : Nat) (xs : List Int), xss2[r]? = some xs → xs.length ≤ 4611686018427387904) (g2 : RowsAt w B2 m2 yss2) (hm2 : m2 ≤ 4611686018427387904) (houts2 : ∀ (r : Nat) (xs : List Int), yss2[r]? = some xs → xs.length ≤ 4611686018427387904)
    (h' : RowsAt w A' l wss) (hl : l ≤ 4611686018427387904) (hwds : ∀ (r : Nat) (xs : List Int), wss[r]? = some xs → xs.length ≤ 4611686018427387904) :
    Calls Tryd.prog 24 #[.agg #[.int .i64 s, .int .i64 q, .slice A n c, .slice B m d], .agg #[.int .i64 s', .int .i64 q', .slice A2 n2 c2, .slice B2 m2 d2], .slice A' l cap'] w fun e w' => e = .returned (.tuple #[.bool (passes s q xss yss s' q' xss2 yss2 wss).1, .int .i64 (passes s q xss yss s' q' xss2 yss2 wss).2]) ∧ Below w.heap.size w w' := by
  have HR := Lib.hid hrows
  have HO := Lib.hid houts
  have HR2 := Lib.hid hrows2
  have HO2 := Lib.hid houts2
  have HD := Lib.hid hwds
  obtain ⟨w1, hw1⟩ : ∃ w1, w1 = (w.alloc (.cells #[.int .i64 s, .int .i64 q, .slice A n c, .slice B m d] 28)).alloc (.cells #[.int .i64 s', .int .i64 q', .slice A2 n2 c2, .slice B2 m2 d2] 28) := ⟨_, rfl⟩
  have b1 : Below w.heap.size w w1 := by rw [hw1]; go_grown
  have HX := Lib.hid (h.below b1)
  have HY := Lib.hid (g.below b1)
  have HX2 := Lib.hid (h2.below b1)
  have HY2 := Lib.hid (g2.below b1)
  have HS := Lib.hid (h'.below b1)
  have HH := Lib.hid (hH.on b1)
  have W1 := Lib.hid b1
  have HW := Lib.hid hw1
  clear hrows houts hrows2 houts2 hwds h g h2 g2 h' b1 hw1 hH
  go_enter Tryd.func24, Tryd.ntmps24
  go_wp2_with fail
  rw [← HW.out]
  refine (implFirstFailing_any s q A n c xss B m d yss s' q' A2 n2 c2 xss2 B2 m2 d2 yss2 A' l cap' wss w1 HH.out HX.out hn HR.out HY.out hm HO.out HX2.out hn2 HR2.out HY2.out hm2 HO2.out HS.out hl HD.out).mono ?_
  rintro e w2 ⟨rfl, b2⟩
  have W2 := Lib.hid (below_then W1.out b2)
  clear b2
  rcases @codeTwo_cases s q xss yss s' q' xss2 yss2 wss with ⟨hc, _⟩ | hc | hc
  · rcases hf : failing (failN xss yss xss2 yss2) wss with _ | p
    · rw [firstFailing_n hc hf]
      dsimp only
      have HF := Lib.hid (passes_0 hc (b := true) (by simp [hf]))
      clear hc hf
      go_wp2_with fail
      go_ret2
      exact ⟨two_bc HF.out, W2.out⟩
    · rw [firstFailing_s hc hf]
      dsimp only
      have HF := Lib.hid (passes_0 hc (b := false) (by simp [hf]))
      clear hc hf
      go_wp2_with fail
      go_ret2
      exact ⟨two_bc HF.out, W2.out⟩
  · rw [firstFailing_c hc (by decide)]
    dsimp only
    have HF := Lib.hid (passes_c hc (by decide))
    clear hc
    go_wp2_with fail
    go_ret2
    exact ⟨two_bc HF.out, W2.out⟩
  · rw [firstFailing_c hc (by decide)]
    dsimp only
    have HF := Lib.hid (passes_c hc (by decide))
    clear hc
    go_wp2_with fail
    go_ret2
    exact ⟨two_bc HF.out, W2.out⟩

end Go.Proofs.YtdhmciendlihoaaDoor
