/-
  How many mutants a machine has: the contracts of l07Each, l07Count and of both MutantCount.
-/
import Derived.Test.YtdhmciendlihoaaMachR
namespace Go.Proofs.Ytdhmciendlihoaa
open Go.RowKit Go.Deep Go.ChangeShapes Go.WideShapes

/-- How many mutants there are for a letter and a state. -/
def eachM (n k : Nat) : Nat := (k - 1) + (n - 1)
theorem eachM_int {n k : Nat} (hn : 1 ≤ n) (hk : 1 ≤ k) : ((k : Int) - 1 + (n : Int) - 1) = (eachM n k : Int) := by unfold eachM; omega
/-- How many mutants there are. -/
def countM (n m k : Nat) : Nat := m * n * eachM n k
theorem each_le {n k : Nat} (hn : n ≤ 10) (hk : k ≤ 3) : eachM n k ≤ 11 := by unfold eachM; omega
theorem mn_le {n m : Nat} (hn : n ≤ 10) (hm : m ≤ 3) : m * n ≤ 30 := Nat.mul_le_mul hm hn
theorem count_le {n m k : Nat} (hn : n ≤ 10) (hm : m ≤ 3) (hk : k ≤ 3) : countM n m k ≤ 330 := Nat.mul_le_mul (mn_le hn hm) (each_le hn hk)

set_option maxRecDepth 100000 in
theorem l07Each_any (p : Nat) (n k : Nat) (A : Option Addr) (m c : Nat) (B : Option Addr) (m2 d : Nat) (w : World) (hb : MBox w p (n : Int) (k : Int) A m c B m2 d) (hn : 1 ≤ n) (hn10 : n ≤ 10) (hk : 1 ≤ k) (hk3 : k ≤ 3) :
    Calls Try.prog 67 #[.pointer (some ⟨p, 0, none⟩)] w fun e w' => e = .returned (.int .i64 (eachM n k : Int)) ∧ ∃ q, w' = w.drewN q := by
  have c0 := hb 0 _ rfl
  have c1 := hb 1 _ rfl
  have h1 : IntKind.i64.wrap ((k : Int) - 1) = (k : Int) - 1 := IntWalk.i64_in _ (by omega)
  have h2 : IntKind.i64.wrap ((k : Int) - 1 + (n : Int)) = (k : Int) - 1 + (n : Int) := IntWalk.i64_in _ (by omega)
  have h3 : IntKind.i64.wrap ((k : Int) - 1 + (n : Int) - 1) = (k : Int) - 1 + (n : Int) - 1 := IntWalk.i64_in _ (by omega)
  have HE := Lib.hid (eachM_int hn hk)
  clear hb hn hn10 hk hk3
  go_enter Try.func67, Try.ntmps67
  go_wp2_with fail
  go_quiet (fail)
  go_wp2_with fail
  go_ret
  exact ⟨by rw [← HE.out]; rfl, _, rfl⟩

set_option maxRecDepth 100000 in
theorem l07Count_any (p : Nat) (n k : Nat) (A : Option Addr) (m c : Nat) (B : Option Addr) (m2 d : Nat) (w : World) (hb : MBox w p (n : Int) (k : Int) A m c B m2 d) (hn : 1 ≤ n) (hn10 : n ≤ 10) (hm3 : m ≤ 3) (hk : 1 ≤ k) (hk3 : k ≤ 3) :
    Calls Try.prog 42 #[.pointer (some ⟨p, 0, none⟩)] w fun e w' => e = .returned (.int .i64 (countM n m k : Int)) ∧ ∃ q, w' = w.drewN q := by
  have c0 := hb 0 _ rfl
  have c2 := hb 2 _ rfl
  have HB := Lib.hid hb
  have hu := mn_le hn10 hm3
  have hc := count_le hn10 hm3 hk3
  obtain ⟨U, hU⟩ : ∃ U : Int, U = (m : Int) * (n : Int) := ⟨_, rfl⟩
  have hU2 : U = ((m * n : Nat) : Int) := by rw [hU, Int.natCast_mul]
  obtain ⟨E, hE⟩ : ∃ E : Int, E = (eachM n k : Int) := ⟨_, rfl⟩
  obtain ⟨V, hV⟩ : ∃ V : Int, V = U * E := ⟨_, rfl⟩
  have hV2 : V = (countM n m k : Int) := by rw [hV, hU2, hE, ← Int.natCast_mul]; rfl
  have h1 : IntKind.i64.wrap U = U := IntWalk.i64_in _ (by omega)
  have h2 : IntKind.i64.wrap V = V := IntWalk.i64_in _ (by omega)
  have e1 : (m : Int) * (n : Int) = U := hU.symm
  have e2 : U * (eachM n k : Int) = V := by rw [← hE]; exact hV.symm
  have HV := Lib.hid hV2
  clear hb hu hc hU hU2 hV hV2 hE
  go_enter Try.func42, Try.ntmps42
  go_wp2_with fail
  go_quiet ((go_at_call 67; exact Calls.quiet_of (l07Each_any p n k A m c B m2 d _ (HB.out.drewN _) hn hn10 hk hk3)))
  go_wp2_with fail
  go_ret
  exact ⟨by rw [← HV.out]; rfl, _, rfl⟩

/-- What MutantCount answers. -/
def mutantCount (s q : Int) (xss yss : List (List Int)) : Int × Int := if okM s q xss yss = true then ((countM s.toNat xss.length q.toNat : Int), 0) else (0, 1)
theorem mutantCount_1 {s q : Int} {xss yss : List (List Int)} (h : okM s q xss yss = false) : mutantCount s q xss yss = (0, 1) := by simp [mutantCount, h]
theorem mutantCount_0 {n m k : Nat} {xss yss : List (List Int)} (h : okM (n : Int) (k : Int) xss yss = true) (hm : xss.length = m) : mutantCount (n : Int) (k : Int) xss yss = ((countM n m k : Int), 0) := by simp [mutantCount, h, hm]
theorem two_count {r : Int × Int} {b c : Int} (h : r = (b, c)) : Ending.returned (.tuple #[.int .i64 b, .int .i64 c]) = .returned (.tuple #[.int .i64 r.1, .int .i64 r.2]) := by rw [h]

set_option maxRecDepth 100000 in
set_option maxHeartbeats 1000000 in
theorem specMutantCount_any (s q : Int) (A : Option Addr) (n c : Nat) (xss : List (List Int)) (B : Option Addr) (m d : Nat) (yss : List (List Int)) (w : World) (h : RowsAt w A n xss) (hn : n ≤ 4611686018427387904)
    (hrows : ∀ (r : Nat) (xs : List Int), xss[r]? = some xs → xs.length ≤ 4611686018427387904) (g : RowsAt w B m yss) (hm : m ≤ 4611686018427387904) (houts : ∀ (r : Nat) (xs : List Int), yss[r]? = some xs → xs.length ≤ 4611686018427387904) :
    Calls Try.prog 21 #[.agg #[.int .i64 s, .int .i64 q, .slice A n c, .slice B m d]] w fun e w' => e = .returned (.tuple #[.int .i64 (mutantCount s q xss yss).1, .int .i64 (mutantCount s q xss yss).2]) ∧ Below w.heap.size w w' := by
  have HR := Lib.hid hrows
  have HO := Lib.hid houts
  have HL := Lib.hid h.1
  obtain ⟨w1, hw1⟩ : ∃ w1, w1 = w.alloc (.cells #[.int .i64 s, .int .i64 q, .slice A n c, .slice B m d] 32) := ⟨_, rfl⟩
  have b1 : Below w.heap.size w w1 := by rw [hw1]; exact (Below.refl _ _).alloc (Nat.le_refl _) _
  have HB := Lib.hid (show MBox w1 w.heap.size s q A n c B m d by rw [hw1]; exact Box.new _ _ _)
  have HX := Lib.hid (h.below b1)
  have HY := Lib.hid (g.below b1)
  have W1 := Lib.hid b1
  have HW := Lib.hid hw1
  clear h g b1 hw1 hrows houts
  go_enter Try.func21, Try.ntmps21
  go_wp2_with fail
  rw [← HW.out]
  refine (l06Ok_any w.heap.size s q A n c xss B m d yss _ HB.out HX.out hn HR.out HY.out hm HO.out).mono ?_
  rintro e w2 ⟨rfl, b2⟩
  have HB2 := Lib.hid (show MBox w2 w.heap.size s q A n c B m d from Box.below HB.out b2)
  have W2 := Lib.hid (below_then W1.out b2)
  clear b2
  rcases hok : okM s q xss yss with _ | _
  · have HF := Lib.hid (mutantCount_1 hok)
    go_wp2_with fail
    go_ret2
    exact ⟨two_count HF.out, W2.out⟩
  · obtain ⟨N, K, hs, hk, hg⟩ := goodM_of hok HL.out
    subst hs hk
    have HF := Lib.hid (mutantCount_0 hok HL.out)
    go_wp2_with fail
    refine (l07Count_any w.heap.size N K A n c B m d w2 HB2.out hg.good.n1 hg.good.n10 hg.good.m3 hg.k1 hg.k3).mono ?_
    rintro e w3 ⟨rfl, j, rfl⟩
    go_wp2_with fail
    go_ret2
    exact ⟨two_count HF.out, below_drewN' W2.out _⟩

set_option maxRecDepth 100000 in
set_option maxHeartbeats 1000000 in
theorem implMutantCount_any (s q : Int) (A : Option Addr) (n c : Nat) (xss : List (List Int)) (B : Option Addr) (m d : Nat) (yss : List (List Int)) (w : World) (h : RowsAt w A n xss) (hn : n ≤ 4611686018427387904)
    (hrows : ∀ (r : Nat) (xs : List Int), xss[r]? = some xs → xs.length ≤ 4611686018427387904) (g : RowsAt w B m yss) (hm : m ≤ 4611686018427387904) (houts : ∀ (r : Nat) (xs : List Int), yss[r]? = some xs → xs.length ≤ 4611686018427387904) :
    Calls Try.prog 22 #[.agg #[.int .i64 s, .int .i64 q, .slice A n c, .slice B m d]] w fun e w' => e = .returned (.tuple #[.int .i64 (mutantCount s q xss yss).1, .int .i64 (mutantCount s q xss yss).2]) ∧ Below w.heap.size w w' := by
  have HR := Lib.hid hrows
  have HO := Lib.hid houts
  have HL := Lib.hid h.1
  obtain ⟨w1, hw1⟩ : ∃ w1, w1 = w.alloc (.cells #[.int .i64 s, .int .i64 q, .slice A n c, .slice B m d] 32) := ⟨_, rfl⟩
  have b1 : Below w.heap.size w w1 := by rw [hw1]; exact (Below.refl _ _).alloc (Nat.le_refl _) _
  have HB := Lib.hid (show MBox w1 w.heap.size s q A n c B m d by rw [hw1]; exact Box.new _ _ _)
  have HX := Lib.hid (h.below b1)
  have HY := Lib.hid (g.below b1)
  have W1 := Lib.hid b1
  have HW := Lib.hid hw1
  clear h g b1 hw1 hrows houts
  go_enter Try.func22, Try.ntmps22
  go_wp2_with fail
  rw [← HW.out]
  refine (implValidMachine_any s q A n c xss B m d yss _ HX.out hn HR.out HY.out hm HO.out).mono ?_
  rintro e w2 ⟨rfl, b2⟩
  have HB2 := Lib.hid (show MBox w2 w.heap.size s q A n c B m d from Box.below HB.out b2)
  have W2 := Lib.hid (below_then W1.out b2)
  clear b2
  rcases hok : okM s q xss yss with _ | _
  · have HF := Lib.hid (mutantCount_1 hok)
    go_wp2_with fail
    go_ret2
    exact ⟨two_count HF.out, W2.out⟩
  · obtain ⟨N, K, hs, hk, hg⟩ := goodM_of hok HL.out
    subst hs hk
    have c0 := HB2.out 0 _ rfl
    have c1 := HB2.out 1 _ rfl
    have c2 := HB2.out 2 _ rfl
    have HF := Lib.hid (mutantCount_0 hok HL.out)
    have hn10 := hg.good.n10
    have hm3 := hg.good.m3
    have hn1 := hg.good.n1
    have hk1 := hg.k1
    have hk3 := hg.k3
    have hu := mn_le hn10 hm3
    have hc := count_le hn10 hm3 hk3
    have hei := eachM_int hn1 hk1
    have hel := each_le hn10 hk3
    obtain ⟨E, hE⟩ : ∃ E : Int, E = (K : Int) - 1 + (N : Int) - 1 := ⟨_, rfl⟩
    obtain ⟨U, hU⟩ : ∃ U : Int, U = (N : Int) * (n : Int) := ⟨_, rfl⟩
    have hU2 : U = ((n * N : Nat) : Int) := by rw [hU, ← Int.natCast_mul, Nat.mul_comm]
    obtain ⟨V, hV⟩ : ∃ V : Int, V = U * E := ⟨_, rfl⟩
    have hV2 : V = (countM N n K : Int) := by rw [hV, hU2, hE, hei, ← Int.natCast_mul]; rfl
    have h0 : IntKind.i64.wrap ((K : Int) - 1) = (K : Int) - 1 := IntWalk.i64_in _ (by omega)
    have h01 : IntKind.i64.wrap ((K : Int) - 1 + (N : Int)) = (K : Int) - 1 + (N : Int) := IntWalk.i64_in _ (by omega)
    have h02 : IntKind.i64.wrap E = E := IntWalk.i64_in _ (by omega)
    have h1 : IntKind.i64.wrap U = U := IntWalk.i64_in _ (by omega)
    have h2 : IntKind.i64.wrap V = V := IntWalk.i64_in _ (by omega)
    have e0 : (K : Int) - 1 + (N : Int) - 1 = E := hE.symm
    have e1 : (N : Int) * (n : Int) = U := hU.symm
    have e2 : U * E = V := hV.symm
    have HV := Lib.hid hV2
    clear hU hU2 hV hV2 hE hu hc hei hel hn10 hm3 hn1 hk1 hk3 hg
    go_wp2_with fail
    go_ret2
    exact ⟨two_count (by rw [HF.out, ← HV.out]), W2.out⟩

end Go.Proofs.Ytdhmciendlihoaa
