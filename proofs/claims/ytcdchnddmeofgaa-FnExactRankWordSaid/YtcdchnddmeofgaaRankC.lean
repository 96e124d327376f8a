/-
  The rank of an automaton, and its first word of least rank: the contracts of both RankOf and of both RankWord.
-/
import Derived.Test.YtcdchnddmeofgaaLeast
import Derived.Test.YtcdchnddmeofgaaFullC
namespace Go.Proofs.Ytcdchnddmeofgaa
open Go.RowKit Go.Deep Go.ChangeShapes Go.WideShapes
open Hunt Srch From Moved

def ofB (r b : Nat) : Bool := Lib.onesCount b == r
noncomputable def rankN (n m : Nat) (xss : List (List Int)) : Nat := leastF (2 ^ n - 1) (fnd n m xss 1024 (2 ^ n - 1))
noncomputable def rankW (n m : Nat) (xss : List (List Int)) : List Int × Int := toldW (firstF (ofB (rankN n m xss)) (fnd n m xss 1024 (2 ^ n - 1)))
theorem rankN_ten {n m : Nat} {xss : List (List Int)} (hn : n ≤ 10) : rankN n m xss ≤ 10 := leastF_ten (full_lt hn) _
/-- What RankOf answers. -/
noncomputable def rankOf (s : Int) (xss : List (List Int)) : Int × Int :=
  if okA s xss = true then ((rankN s.toNat xss.length xss : Int), 0) else (0, 1)
theorem rankOf_1 {s : Int} {xss : List (List Int)} (h : okA s xss = false) : rankOf s xss = (0, 1) := by unfold rankOf; rw [if_neg (by simp [h])]
theorem rankOf_0 {n m : Nat} {xss : List (List Int)} (h : okA (n : Int) xss = true) (hm : xss.length = m) : rankOf (n : Int) xss = ((rankN n m xss : Int), 0) := by unfold rankOf; rw [if_pos h, hm, Int.toNat_natCast]
/-- What RankWord answers. -/
noncomputable def rankWord (s : Int) (xss : List (List Int)) : List Int × Int :=
  if okA s xss = true then rankW s.toNat xss.length xss else ([], 1)
theorem rankWord_1 {s : Int} {xss : List (List Int)} (h : okA s xss = false) : rankWord s xss = ([], 1) := by unfold rankWord; rw [if_neg (by simp [h])]
theorem rankWord_0 {n m : Nat} {xss : List (List Int)} (h : okA (n : Int) xss = true) (hm : xss.length = m) : rankWord (n : Int) xss = rankW n m xss := by unfold rankWord; rw [if_pos h, hm, Int.toNat_natCast]
theorem rankWord_len (s : Int) (xss : List (List Int)) : (rankWord s xss).1.length ≤ 1024 := by
  rcases hok : okA s xss with _ | _
  · rw [rankWord_1 hok]; simp
  · obtain ⟨n, hsn, hg⟩ := good_of hok rfl
    subst hsn
    rw [rankWord_0 hok rfl]
    exact told_len hg (full_lt hg.n10)
theorem two_mki' {r : Int × Int} {b : Int} {c : Int} (h : r = (b, c)) : Ending.returned (.tuple #[.int .i64 b, .int .i64 c]) = .returned (.tuple #[.int .i64 r.1, .int .i64 r.2]) := by rw [h]
theorem root_at {n m b : Nat} {xss : List (List Int)} {cap : Nat} : ∃ f, (fnd n m xss cap b)[0]? = some f ∧ f.set = b := ⟨_, all_inv.root, rfl⟩
/-- The least rank is that of some set that is found. -/
theorem rank_hit {n m : Nat} {xss : List (List Int)} : ∃ f ∈ fnd n m xss 1024 (2 ^ n - 1), Lib.onesCount f.set = rankN n m xss := by
  rcases foldl_min_at (fnd n m xss 1024 (2 ^ n - 1)) (Lib.onesCount (2 ^ n - 1)) with h | ⟨f, hf, h⟩
  · obtain ⟨f, hf, hs⟩ := root_at (n := n) (m := m) (b := 2 ^ n - 1) (xss := xss) (cap := 1024)
    exact ⟨f, List.mem_of_getElem? hf, by rw [hs]; exact h.symm⟩
  · exact ⟨f, hf, h.symm⟩
theorem rankW_some {n m : Nat} {xss : List (List Int)} : ∃ f, firstF (ofB (rankN n m xss)) (fnd n m xss 1024 (2 ^ n - 1)) = some f := by
  rcases h : firstF (ofB (rankN n m xss)) (fnd n m xss 1024 (2 ^ n - 1)) with _ | f
  · obtain ⟨f, hf, hc⟩ := rank_hit (n := n) (m := m) (xss := xss)
    have := List.find?_eq_none.1 h f hf
    simp [ofB, hc] at this
  · exact ⟨f, rfl⟩
theorem rank_cut {n m : Nat} {xss : List (List Int)} (hg : Good n m xss) : toldW (firstF (ofB (rankN n m xss)) (fnd n m xss 400 (2 ^ n - 1))) = rankW n m xss := by
  have ha := acts hg
  unfold rankW
  refine congrArg toldW (first_same hg (full_lt hg.n10) fun ws hw hm => ?_)
  obtain ⟨us, h1, h2, h3⟩ := rank_bound ha (aftF_lt hg) ws hw
  refine ⟨us, h1, by omega, ?_⟩
  have hi := (goW_in ha us _ h1 (full_in n)).1.lt hg.n10
  obtain ⟨j, f, h6, h7, _⟩ := all_found (cap := 1024) (small hg (full_lt hg.n10)) us.length us rfl (by omega) h1
  have h8 := leastF_le (2 ^ n - 1) (fnd n m xss 1024 (2 ^ n - 1)) (List.mem_of_getElem? h6)
  rw [h7] at h8
  have h9 : Lib.onesCount (goW (aftF n xss) (2 ^ n - 1) ws) = rankN n m xss := by simpa [ofB] using hm
  rw [← ones_cnt hi, ← ones_cnt ((goW_in ha ws _ hw (full_in n)).1.lt hg.n10), h9] at h3
  unfold ofB
  rw [beq_iff_eq]
  unfold rankN at h3 ⊢
  omega

set_option maxRecDepth 100000 in
set_option maxHeartbeats 1000000 in
theorem isOf_any (r b : Nat) (W : World) (hb : b < 1024) :
    Calls Try.prog 43 #[.int .i64 (r : Int), .int .u16 (b : Int)] W fun e w' => e = .returned (.bool (ofB r b)) ∧ Below W.heap.size W w' := by
  go_enter Try.func43, Try.ntmps43
  go_wp2_with fail
  refine (size_any b W hb).mono ?_
  obtain ⟨c, hc⟩ : ∃ c, c = Lib.onesCount b := ⟨_, rfl⟩
  rw [← hc]
  have HC := Lib.hid hc
  have HE := Lib.hid (show ((c : Int) == (r : Int)) = ofB r b by
    unfold ofB
    rw [← hc]
    by_cases h : c = r
    · subst h; simp
    · rw [show (c == r) = false by simpa using h]; simp; omega)
  clear hc
  rintro e w' ⟨rfl, k, rfl⟩
  go_wp2_with fail
  go_ret
  exact ⟨ret_bool HE.out, below_drewN' (Below.refl _ _) k⟩

set_option maxRecDepth 100000 in
set_option maxHeartbeats 2000000 in
theorem specRankOf_any (s : Int) (A : Option Addr) (m cap : Nat) (xss : List (List Int)) (w : World) (h : RowsAt w A m xss) (hm : m ≤ 4611686018427387904)
    (hrows : ∀ (r : Nat) (xs : List Int), xss[r]? = some xs → xs.length ≤ 4611686018427387904) :
    Calls Try.prog 16 #[.agg #[.int .i64 s, .slice A m cap]] w fun e w' => e = .returned (.tuple #[.int .i64 (rankOf s xss).1, .int .i64 (rankOf s xss).2]) ∧ Below w.heap.size w w' := by
  have HR := Lib.hid hrows
  have HM := Lib.hid h.1
  have b0 : Below w.heap.size w (w.alloc (.cells #[.int .i64 s, .slice A m cap] 29)) := (Below.refl _ _).alloc (Nat.le_refl _) _
  have H0 := Lib.hid (h.below b0)
  have B0 := Lib.hid b0
  clear hrows b0
  rcases hok : okA s xss with _ | _
  · have HF := Lib.hid (rankOf_1 hok)
    go_enter Try.func16, Try.ntmps16
    go_wp2_with fail
    refine (l01Ok_any w.heap.size s A m cap xss _ (by go_cell) (by go_cell) H0.out hm HR.out).mono ?_
    rw [hok]
    rintro e w' ⟨rfl, d, rfl⟩
    go_wp2_with fail
    go_ret2
    exact ⟨two_mki' HF.out, below_drewN' B0.out _⟩
  · obtain ⟨n, hsn, hg⟩ := good_of hok HM.out
    subst hsn
    have HG := Lib.hid hg
    have hn10 : n ≤ 10 := hg.n10
    have HF := Lib.hid (rankOf_0 hok HM.out)
    clear hg
    go_enter Try.func16, Try.ntmps16
    go_wp2_with fail
    refine (l01Ok_any w.heap.size (n : Int) A m cap xss _ (by go_cell) (by go_cell) H0.out hm HR.out).mono ?_
    rw [hok]
    rintro e w' ⟨rfl, d, rfl⟩
    go_wp2_with fail
    obtain ⟨w1, hw1⟩ : ∃ w1, w1 = (w.alloc (.cells #[.int .i64 (n : Int), .slice A m cap] 29)).drewN d := ⟨_, rfl⟩
    have c0 : w1.cell? ⟨w.heap.size, 0, none⟩ = some (.int .i64 (n : Int)) := by rw [hw1]; exact cell_of_row _ _ 0 _ _ _ (heap_alloc_new _ _)
    have c1 : w1.cell? ⟨w.heap.size, 1, none⟩ = some (.slice A m cap) := by rw [hw1]; exact cell_of_row _ _ 1 _ _ _ (heap_alloc_new _ _)
    have H1 := Lib.hid (show RowsAt w1 A m xss by rw [hw1]; exact H0.out.below (below_drewN' (Below.refl _ _) d))
    have B1 := Lib.hid (show Below w.heap.size w w1 by rw [hw1]; exact below_drewN' B0.out d)
    rw [← hw1]
    clear hw1
    refine (l02Full_any w.heap.size n w1 hn10 c0).mono ?_
    rintro e w2 ⟨rfl, k2, rfl⟩
    go_wp2_with fail
    have b2 : Below w1.heap.size w1 (w1.drewN k2) := below_drewN' (Below.refl _ _) k2
    obtain ⟨w2, hw2⟩ : ∃ w2, w2 = w1.drewN k2 := ⟨_, rfl⟩
    rw [← hw2] at b2 ⊢
    have hb10 := full_lt hn10
    refine (l02From_any w.heap.size n m cap (2 ^ n - 1) A xss w2 HG.out (H1.out.below b2) ((b2.cell (cell_lt c0)).trans c0) ((b2.cell (cell_lt c1)).trans c1) (full_in n)).mono ?_
    rintro e w3 ⟨q, sb, g1, g2, g3, d1, d2, d3, rfl, hW, hB⟩
    obtain ⟨T, hT⟩ : ∃ T, T = fnd n m xss 1024 (2 ^ n - 1) := ⟨_, rfl⟩
    have HT := Lib.hid hT
    rw [← hT] at hW
    have hl : T.length ≤ 1024 := by rw [hT]; exact fnd_len HG.out hb10
    have HTL := Lib.hid (show ∀ f ∈ T, f.set < 1024 from fun f hf => by rw [hT] at hf; exact fnd_lt HG.out hb10 hf)
    have HRT := Lib.hid (show ∃ f, T[0]? = some f ∧ f.set = 2 ^ n - 1 by rw [hT]; exact root_at)
    have HW := Lib.hid hW
    have B3 := Lib.hid (below_then (below_then B1.out b2) hB)
    obtain ⟨r, hr⟩ : ∃ r, r = rankN n m xss := ⟨_, rfl⟩
    have HRN := Lib.hid (show leastF (2 ^ n - 1) T = r by rw [hT, hr]; rfl)
    have hr10 : r ≤ 10 := by rw [hr]; exact rankN_ten hn10
    rw [← hr] at HF
    have HRR := Lib.hid hr
    clear hT hW hB b2 hw2 c0 c1 hr
    go_wp2_with fail
    refine (l03Least_any w2.heap.size q sb (2 ^ n) g1 g2 g3 d1 d2 d3 (2 ^ n - 1) T w3 HW.out hl HTL.out HRT.out).mono ?_
    rw [HRN.out]
    rintro e w4 ⟨rfl, b4⟩
    have B4 := Lib.hid (below_then B3.out b4)
    clear b4
    go_wp2_with fail
    go_ret2
    exact ⟨two_mki' HF.out, B4.out⟩

set_option maxRecDepth 100000 in
set_option maxHeartbeats 2000000 in
theorem implRankOf_any (s : Int) (A : Option Addr) (m cap : Nat) (xss : List (List Int)) (w : World) (h : RowsAt w A m xss) (hm : m ≤ 4611686018427387904)
    (hrows : ∀ (r : Nat) (xs : List Int), xss[r]? = some xs → xs.length ≤ 4611686018427387904) :
    Calls Try.prog 17 #[.agg #[.int .i64 s, .slice A m cap]] w fun e w' => e = .returned (.tuple #[.int .i64 (rankOf s xss).1, .int .i64 (rankOf s xss).2]) ∧ Below w.heap.size w w' := by
  have HR := Lib.hid hrows
  have HM := Lib.hid h.1
  have b0 : Below w.heap.size w (w.alloc (.cells #[.int .i64 s, .slice A m cap] 29)) := (Below.refl _ _).alloc (Nat.le_refl _) _
  have H0 := Lib.hid (h.below b0)
  have B0 := Lib.hid b0
  clear hrows b0
  rcases hok : okA s xss with _ | _
  · have HF := Lib.hid (rankOf_1 hok)
    go_enter Try.func17, Try.ntmps17
    go_wp2_with fail
    refine (implValid_any s A m cap xss _ H0.out hm HR.out).mono ?_
    rw [hok]
    rintro e w1 ⟨rfl, b1⟩
    have B1 := Lib.hid (below_then B0.out b1)
    clear b1
    go_wp2_with fail
    go_ret2
    exact ⟨two_mki' HF.out, B1.out⟩
  · obtain ⟨n, hsn, hg⟩ := good_of hok HM.out
    subst hsn
    have HG := Lib.hid hg
    have hn10 : n ≤ 10 := hg.n10
    have HF := Lib.hid (rankOf_0 hok HM.out)
    clear hg
    go_enter Try.func17, Try.ntmps17
    go_wp2_with fail
    refine (implValid_any (n : Int) A m cap xss _ H0.out hm HR.out).mono ?_
    rw [hok]
    rintro e w1 ⟨rfl, b1⟩
    have d0 : w1.cell? ⟨w.heap.size, 0, none⟩ = some (.int .i64 (n : Int)) := (b1.cell (by simp)).trans (by go_cell)
    have d1 : w1.cell? ⟨w.heap.size, 1, none⟩ = some (.slice A m cap) := (b1.cell (by simp)).trans (by go_cell)
    have r0 : ∀ W', Below w1.heap.size w1 W' → W'.cell? ⟨w.heap.size, 0, none⟩ = some (.int .i64 (n : Int)) := fun W' hb => (hb.cell (cell_lt d0)).trans d0
    have r1 : ∀ W', Below w1.heap.size w1 W' → W'.cell? ⟨w.heap.size, 1, none⟩ = some (.slice A m cap) := fun W' hb => (hb.cell (cell_lt d1)).trans d1
    have H1 := Lib.hid (H0.out.below b1)
    have B1 := Lib.hid (below_then B0.out b1)
    have h9 : Below w1.heap.size w1 w1 := Below.refl _ _
    obtain ⟨b, hb⟩ : ∃ b, b = 2 ^ n - 1 := ⟨_, rfl⟩
    have hb10 : b < 1024 := by rw [hb]; exact full_lt hn10
    obtain ⟨r, hr⟩ : ∃ r, r = rankN n m xss := ⟨_, rfl⟩
    have HRN := Lib.hid (show leastF b (fnd n m xss 400 b) = r by rw [hb, hr]; exact least_same HG.out)
    have HRC := Lib.hid (rank_cut HG.out)
    rw [← hr, ← hb] at HRC
    have HRR := Lib.hid hr
    have HBB := Lib.hid hb
    clear b1 hb hr
    go_wp2_with fail
    go_region_held3 (fun w' => Below w1.heap.size w1 w') (first | assumption | exact below_drewN' (by assumption) _)
      (first
        | (go_at_call 34; refine (allStates_any A n m cap _ hn10).mono ?_; rw [← HBB.out]; rintro e w3 ⟨rfl, b3⟩; have h3 : Below w1.heap.size w1 w3 := below_then (by first | assumption | exact below_drewN' (by assumption) _) b3; clear b3)
        | (go_at_call 40; refine (rankOfSet_any A n m cap b xss _ HG.out (H1.out.below (by first | assumption | exact below_drewN' (by assumption) _)) hb10).mono ?_; rw [HRN.out]; rintro e w4 ⟨rfl, b4⟩; have h4 : Below w1.heap.size w1 w4 := below_then (by first | assumption | exact below_drewN' (by assumption) _) b4; clear b4)
        | fail)
    all_goals
      go_wp2_with fail
      go_ret2
      exact ⟨two_mki' (by rw [HF.out, ← HRR.out]), below_then B1.out h4⟩

set_option maxRecDepth 100000 in
set_option maxHeartbeats 2000000 in
theorem specRankWord_any (s : Int) (A : Option Addr) (m cap : Nat) (xss : List (List Int)) (w : World) (h : RowsAt w A m xss) (hm : m ≤ 4611686018427387904)
    (hrows : ∀ (r : Nat) (xs : List Int), xss[r]? = some xs → xs.length ≤ 4611686018427387904) :
    Calls Try.prog 18 #[.agg #[.int .i64 s, .slice A m cap]] w fun e w' => ∃ v, e = .returned (.tuple #[v, .int .i64 (rankWord s xss).2]) ∧ w'.ownsRow w.heap.size 2 1 v (rankWord s xss).1.length ((rankWord s xss).1.map (Value.int .i64)) ∧ Below w.heap.size w w' := by
  have HR := Lib.hid hrows
  have HM := Lib.hid h.1
  have b0 : Below w.heap.size w (w.alloc (.cells #[.int .i64 s, .slice A m cap] 29)) := (Below.refl _ _).alloc (Nat.le_refl _) _
  have H0 := Lib.hid (h.below b0)
  have B0 := Lib.hid b0
  clear hrows b0
  rcases hok : okA s xss with _ | _
  · have HF := Lib.hid (rankWord_1 hok)
    go_enter Try.func18, Try.ntmps18
    go_wp2_with fail
    refine (l01Ok_any w.heap.size s A m cap xss _ (by go_cell) (by go_cell) H0.out hm HR.out).mono ?_
    rw [hok]
    rintro e w' ⟨rfl, d, rfl⟩
    go_wp2_with fail
    go_ret2
    rw [HF.out]
    exact ⟨_, rfl, own_none' (w := (w.alloc (.cells #[.int .i64 s, .slice A m cap] 29)).drewN d) (World.size_alloc _ _).symm (below_drewN' B0.out d).size, (below_drewN' B0.out _).alloc (below_drewN' B0.out _).size _⟩
  · obtain ⟨n, hsn, hg⟩ := good_of hok HM.out
    subst hsn
    have HG := Lib.hid hg
    have hn10 : n ≤ 10 := hg.n10
    have HF := Lib.hid (rankWord_0 hok HM.out)
    clear hg
    go_enter Try.func18, Try.ntmps18
    go_wp2_with fail
    refine (l01Ok_any w.heap.size (n : Int) A m cap xss _ (by go_cell) (by go_cell) H0.out hm HR.out).mono ?_
    rw [hok]
    rintro e w' ⟨rfl, d, rfl⟩
    go_wp2_with fail
    obtain ⟨w1, hw1⟩ : ∃ w1, w1 = (w.alloc (.cells #[.int .i64 (n : Int), .slice A m cap] 29)).drewN d := ⟨_, rfl⟩
    have c0 : w1.cell? ⟨w.heap.size, 0, none⟩ = some (.int .i64 (n : Int)) := by rw [hw1]; exact cell_of_row _ _ 0 _ _ _ (heap_alloc_new _ _)
    have c1 : w1.cell? ⟨w.heap.size, 1, none⟩ = some (.slice A m cap) := by rw [hw1]; exact cell_of_row _ _ 1 _ _ _ (heap_alloc_new _ _)
    have H1 := Lib.hid (show RowsAt w1 A m xss by rw [hw1]; exact H0.out.below (below_drewN' (Below.refl _ _) d))
    have B1 := Lib.hid (show Below w.heap.size w w1 by rw [hw1]; exact below_drewN' B0.out d)
    rw [← hw1]
    clear hw1
    refine (l02Full_any w.heap.size n w1 hn10 c0).mono ?_
    rintro e w2 ⟨rfl, k2, rfl⟩
    go_wp2_with fail
    have b2 : Below w1.heap.size w1 (w1.drewN k2) := below_drewN' (Below.refl _ _) k2
    obtain ⟨w2, hw2⟩ : ∃ w2, w2 = w1.drewN k2 := ⟨_, rfl⟩
    rw [← hw2] at b2 ⊢
    have hb10 := full_lt hn10
    refine (l02From_any w.heap.size n m cap (2 ^ n - 1) A xss w2 HG.out (H1.out.below b2) ((b2.cell (cell_lt c0)).trans c0) ((b2.cell (cell_lt c1)).trans c1) (full_in n)).mono ?_
    rintro e w3 ⟨q, sb, g1, g2, g3, d1, d2, d3, rfl, hW, hB⟩
    obtain ⟨T, hT⟩ : ∃ T, T = fnd n m xss 1024 (2 ^ n - 1) := ⟨_, rfl⟩
    have HT := Lib.hid hT
    rw [← hT] at hW
    have hl : T.length ≤ 1024 := by rw [hT]; exact fnd_len HG.out hb10
    have HTL := Lib.hid (show ∀ f ∈ T, f.set < 1024 from fun f hf => by rw [hT] at hf; exact fnd_lt HG.out hb10 hf)
    have HRT := Lib.hid (show ∃ f, T[0]? = some f ∧ f.set = 2 ^ n - 1 by rw [hT]; exact root_at)
    have HW := Lib.hid hW
    have B3 := Lib.hid (below_then (below_then B1.out b2) hB)
    obtain ⟨r, hr⟩ : ∃ r, r = rankN n m xss := ⟨_, rfl⟩
    have HRN := Lib.hid (show leastF (2 ^ n - 1) T = r by rw [hT, hr]; rfl)
    have hr10 : r ≤ 10 := by rw [hr]; exact rankN_ten hn10
    have HRR := Lib.hid hr
    clear hT hW hB b2 hw2 c0 c1 hr
    go_wp2_with fail
    refine (l03Least_any w2.heap.size q sb (2 ^ n) g1 g2 g3 d1 d2 d3 (2 ^ n - 1) T w3 HW.out hl HTL.out HRT.out).mono ?_
    rw [HRN.out]
    rintro e w4 ⟨rfl, b4⟩
    have B4 := Lib.hid (below_then B3.out b4)
    have HW4 := Lib.hid (HW.out.below b4)
    have hs24 : w.heap.size ≤ w4.heap.size := B4.out.size
    clear b4
    go_wp2_with fail
    go_loopw [6] (fun iv wr => ∃ k : Nat, k ≤ T.length ∧ iv = .int .i64 k ∧ (∀ (j : Nat) f, j < k → T[j]? = some f → ofB r f.set = false) ∧ Below w4.heap.size w4 wr) (fun iv _ => T.length - (intOf iv).toNat)
    case atStart => exact ⟨0, Nat.zero_le _, rfl, fun j f hj => by omega, Below.refl _ _⟩
    case round =>
      obtain ⟨k, hk, rfl, hno, hbel⟩ := hrel
      have hws := HW4.out.below hbel
      have q0 : wr.cell? ⟨q, 0, none⟩ = some (.slice (some ⟨g1, 0, none⟩) T.length d1) := by
        have := cell_of_row _ q 0 _ _ _ hws.blk
        rw [setsL_len] at this
        exact this
      have HWS := Lib.hid hws
      have HNO := Lib.hid hno
      have HBR := Lib.hid (below_then B4.out hbel)
      have HB1 := Lib.hid hbel
      clear hno hbel hws
      by_cases hlt : k < T.length
      · obtain ⟨f, hf⟩ : ∃ f, T[k]? = some f := ⟨_, List.getElem?_eq_getElem hlt⟩
        have r0 : wr.cell? ⟨g1, k, none⟩ = some (.int .i64 (f.set : Int)) := by
          have h1 := HWS.out.s.cellAt k (by rw [setsL_len]; omega)
          rw [List.getElem?_map, setsL_at hf] at h1
          exact h1
        have j1 : (0 : Int) ≤ (k : Int) := by omega
        have j2 : (k : Int) < (T.length : Int) := by omega
        have hs10 : f.set < 1024 := HTL.out f (List.mem_of_getElem? hf)
        have HFF := Lib.hid hf
        clear hf
        go_wp2_with fail
        refine (l02Set_any f.set wr hs10).mono ?_
        rintro e w5 ⟨u, rfl, ow, b5⟩
        obtain ⟨Av, cv, rfl⟩ := own_form ow
        have HB5 := Lib.hid (below_then HB1.out b5)
        have HBR5 := Lib.hid (below_then HBR.out b5)
        have HWS5 := Lib.hid (HWS.out.below b5)
        obtain ⟨L2, hL2⟩ : ∃ L2, L2 = (listK f.set 10).length := ⟨_, rfl⟩
        rw [← hL2]
        have hcmp : ((L2 : Int) == (r : Int)) = ofB r f.set := by
          unfold ofB
          rw [hL2, listK_len hs10]
          by_cases h : Lib.onesCount f.set = r
          · subst h; simp
          · rw [show (Lib.onesCount f.set == r) = false by simpa using h]; simp; omega
        clear ow b5 q0 r0 hL2
        rcases hmm : ofB r f.set with _ | _
        · rw [hmm] at hcmp
          have HM2 := Lib.hid hmm
          clear hmm
          go_wp2_with fail
          go_roundw
          case rel =>
            refine ⟨k + 1, by omega, by go_num, fun j f' hj hf' => ?_, HB5.out⟩
            rcases Nat.lt_or_ge j k with a | a
            · exact HNO.out j f' a hf'
            · obtain rfl : j = k := by omega
              rw [HFF.out] at hf'
              obtain rfl := Option.some.inj hf'
              exact HM2.out
          case measure => simp [intOf]; omega
        · rw [hmm] at hcmp
          have hfirst : firstF (ofB r) T = some f := first_hit HFF.out hmm HNO.out
          have HFI := Lib.hid hfirst
          clear hmm hfirst
          go_wp2_with fail
          refine (word_any w2.heap.size q sb (2 ^ n) g1 g2 g3 d1 d2 d3 k (aftF n xss) m 1024 (2 ^ n - 1) 1024 T f w5 (by rw [HT.out]; exact all_inv) hl HWS5.out HFF.out).mono ?_
          rintro e w6 ⟨u, rfl, ow, bw⟩
          have HOW := Lib.hid ow
          have HBW := Lib.hid (below_then HBR5.out bw)
          have hbs := HBR5.out.size
          clear ow bw
          go_wp2_with fail
          go_ret2
          rw [HF.out]
          unfold rankW
          rw [← HT.out, ← HRR.out, HFI.out]
          exact ⟨u, rfl, own_base HOW.out hbs, HBW.out⟩
      · have hnone : firstF (ofB r) T = none := first_miss fun j f hf => HNO.out j f (by have := lt_of_at hf; omega) hf
        obtain ⟨f, hf⟩ := rankW_some (n := n) (m := m) (xss := xss)
        rw [← HT.out, ← HRR.out, hnone] at hf
        cases hf

set_option maxRecDepth 100000 in
set_option maxHeartbeats 2000000 in
theorem implRankWord_any (s : Int) (A : Option Addr) (m cap : Nat) (xss : List (List Int)) (w : World) (h : RowsAt w A m xss) (hm : m ≤ 4611686018427387904)
    (hrows : ∀ (r : Nat) (xs : List Int), xss[r]? = some xs → xs.length ≤ 4611686018427387904) :
    Calls Try.prog 19 #[.agg #[.int .i64 s, .slice A m cap]] w fun e w' => ∃ v, e = .returned (.tuple #[v, .int .i64 (rankWord s xss).2]) ∧ w'.ownsRow w.heap.size 2 1 v (rankWord s xss).1.length ((rankWord s xss).1.map (Value.int .i64)) ∧ Below w.heap.size w w' := by
  have HR := Lib.hid hrows
  have HM := Lib.hid h.1
  have b0 : Below w.heap.size w (w.alloc (.cells #[.int .i64 s, .slice A m cap] 29)) := (Below.refl _ _).alloc (Nat.le_refl _) _
  have H0 := Lib.hid (h.below b0)
  have B0 := Lib.hid b0
  clear hrows b0
  rcases hok : okA s xss with _ | _
  · have HF := Lib.hid (rankWord_1 hok)
    go_enter Try.func19, Try.ntmps19
    go_wp2_with fail
    refine (implValid_any s A m cap xss _ H0.out hm HR.out).mono ?_
    rw [hok]
    rintro e w1 ⟨rfl, b1⟩
    have B1 := Lib.hid (below_then B0.out b1)
    clear b1
    go_wp2_with fail
    go_ret2
    rw [HF.out]
    exact ⟨_, rfl, World.ownsRow_nil _ _ _ _, B1.out⟩
  · obtain ⟨n, hsn, hg⟩ := good_of hok HM.out
    subst hsn
    have HG := Lib.hid hg
    have hn10 : n ≤ 10 := hg.n10
    have HF := Lib.hid (rankWord_0 hok HM.out)
    clear hg
    go_enter Try.func19, Try.ntmps19
    go_wp2_with fail
    refine (implValid_any (n : Int) A m cap xss _ H0.out hm HR.out).mono ?_
    rw [hok]
    rintro e w1 ⟨rfl, b1⟩
    have d0 : w1.cell? ⟨w.heap.size, 0, none⟩ = some (.int .i64 (n : Int)) := (b1.cell (by simp)).trans (by go_cell)
    have d1 : w1.cell? ⟨w.heap.size, 1, none⟩ = some (.slice A m cap) := (b1.cell (by simp)).trans (by go_cell)
    have r0 : ∀ W', Below w1.heap.size w1 W' → W'.cell? ⟨w.heap.size, 0, none⟩ = some (.int .i64 (n : Int)) := fun W' hb => (hb.cell (cell_lt d0)).trans d0
    have r1 : ∀ W', Below w1.heap.size w1 W' → W'.cell? ⟨w.heap.size, 1, none⟩ = some (.slice A m cap) := fun W' hb => (hb.cell (cell_lt d1)).trans d1
    have H1 := Lib.hid (H0.out.below b1)
    have B1 := Lib.hid (below_then B0.out b1)
    have h9 : Below w1.heap.size w1 w1 := Below.refl _ _
    obtain ⟨b, hb⟩ : ∃ b, b = 2 ^ n - 1 := ⟨_, rfl⟩
    have hb10 : b < 1024 := by rw [hb]; exact full_lt hn10
    obtain ⟨r, hr⟩ : ∃ r, r = rankN n m xss := ⟨_, rfl⟩
    have HRN := Lib.hid (show leastF b (fnd n m xss 400 b) = r by rw [hb, hr]; exact least_same HG.out)
    have HRC := Lib.hid (rank_cut HG.out)
    rw [← hr, ← hb] at HRC
    have HRR := Lib.hid hr
    have HBB := Lib.hid hb
    clear b1 hb hr
    go_wp2_with fail
    go_region_held3 (fun w' => Below w1.heap.size w1 w') (first | assumption | exact below_drewN' (by assumption) _)
      (first
        | (go_at_call 34; refine (allStates_any A n m cap _ hn10).mono ?_; rw [← HBB.out]; rintro e w3 ⟨rfl, b3⟩; have h3 : Below w1.heap.size w1 w3 := below_then (by first | assumption | exact below_drewN' (by assumption) _) b3; clear b3)
        | (go_at_call 40; refine (rankOfSet_any A n m cap b xss _ HG.out (H1.out.below (by first | assumption | exact below_drewN' (by assumption) _)) hb10).mono ?_; rw [HRN.out]; rintro e w4 ⟨rfl, b4⟩; have h4 : Below w1.heap.size w1 w4 := below_then (by first | assumption | exact below_drewN' (by assumption) _) b4; clear b4)
        | (go_at_call 42; refine (firstWord_any 43 #[.int .i64 (r : Int)] #[] (ofB r) A n m cap b xss _ HG.out (H1.out.below (by first | assumption | exact below_drewN' (by assumption) _)) hb10 (fun _ _ => rfl) (fun b' hb' W' _ => isOf_any r b' W' hb')).mono ?_; rintro e w5 ⟨u, rfl, ow, b5⟩; have HO := Lib.hid (own_base ow (show w.heap.size ≤ _ from (below_then B1.out (by first | assumption | exact below_drewN' (by assumption) _)).size)); have h5 : Below w1.heap.size w1 w5 := below_then (by first | assumption | exact below_drewN' (by assumption) _) b5; clear b5 ow)
        | fail)
    all_goals
      go_wp2_with fail
      go_ret2
      rw [HF.out, ← HRC.out]
      obtain ⟨f, hf⟩ := rankW_some (n := n) (m := m) (xss := xss)
      exact ⟨u, rfl, HO.out, below_then B1.out h5⟩

end Go.Proofs.Ytcdchnddmeofgaa
