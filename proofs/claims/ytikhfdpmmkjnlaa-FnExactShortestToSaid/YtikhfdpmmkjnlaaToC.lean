/-
  First words from all states to one: the contracts of both ShortestTo.
-/
import Derived.Test.YtikhfdpmmkjnlaaPairC
namespace Go.Proofs.Ytikhfdpmmkjnlaa
open Go.RowKit Go.Deep Go.ChangeShapes Go.WideShapes
open Hunt Srch From Moved

def toB (p b : Nat) : Bool := b == 1 <<< p
noncomputable def toW (n m : Nat) (xss : List (List Int)) (p : Nat) : List Int × Int := toldW (firstF (toB p) (fnd n m xss 1024 (2 ^ n - 1)))
/-- What ShortestTo answers. -/
noncomputable def shortestTo (s : Int) (xss : List (List Int)) (x : Int) : List Int × Int :=
  if okA s xss = true then (if belowB s x = true then toW s.toNat xss.length xss x.toNat else ([], 2)) else ([], 1)
theorem shortestTo_1 {s : Int} {xss : List (List Int)} {x : Int} (h : okA s xss = false) : shortestTo s xss x = ([], 1) := by unfold shortestTo; rw [if_neg (by simp [h])]
theorem shortestTo_2 {s : Int} {xss : List (List Int)} {x : Int} (h : okA s xss = true) (h' : belowB s x = false) : shortestTo s xss x = ([], 2) := by unfold shortestTo; rw [if_pos h, if_neg (by simp [h'])]
theorem shortestTo_0 {n m p : Nat} {xss : List (List Int)} (h : okA (n : Int) xss = true) (hm : xss.length = m) (hx : belowB (n : Int) (p : Int) = true) : shortestTo (n : Int) xss (p : Int) = toW n m xss p := by
  unfold shortestTo; rw [if_pos h, if_pos hx, hm, Int.toNat_natCast, Int.toNat_natCast]
theorem shortestTo_len (s : Int) (xss : List (List Int)) (x : Int) : (shortestTo s xss x).1.length ≤ 1024 := by
  rcases hok : okA s xss with _ | _
  · rw [shortestTo_1 hok]; simp
  · obtain ⟨n, hsn, hg⟩ := good_of hok rfl
    subst hsn
    rcases h : belowB (n : Int) x with _ | _
    · rw [shortestTo_2 hok h]; simp
    · obtain ⟨p, rfl, hp⟩ := below_nat h
      rw [shortestTo_0 hok rfl h]
      exact told_len hg (full_lt hg.n10)
theorem pow_nat {p : Nat} (hp : p < 10) : wrap64 (2 ^ p) = ((1 <<< p : Nat) : Int) := by
  have h1 : 2 ^ p ≤ 2 ^ 9 := Nat.pow_le_pow_right (by decide) (by omega)
  have e1 : ((2 : Int) ^ p) = ((2 ^ p : Nat) : Int) := by push_cast; rfl
  rw [e1, wrap_512 (Nat.le_trans h1 (by decide)), Nat.one_shiftLeft]
theorem beq_nat (a b : Nat) : ((a : Int) == (b : Int)) = (a == b) := by
  by_cases h : a = b
  · subst h; simp
  · rw [show (a == b) = false by simpa using h]; simp; omega
theorem to_cut {n m p : Nat} {xss : List (List Int)} (hg : Good n m xss) (hp : p < n) : toldW (firstF (toB p) (fnd n m xss 400 (2 ^ n - 1))) = toW n m xss p := by
  unfold toW
  exact congrArg toldW (single_same hg hp)

set_option maxRecDepth 100000 in
set_option maxHeartbeats 1000000 in
theorem goalTo_any (ps p b : Nat) (W : World) (_hb : b < 1024) (hp : p < 10) (c : W.cell? ⟨ps, 0, none⟩ = some (.int .i64 (p : Int))) :
    Calls Try.prog 84 #[.int .u16 (b : Int), .pointer (some ⟨ps, 0, none⟩)] W fun e w' => e = .returned (.bool (toB p b)) ∧ Below W.heap.size W w' := by
  have HQ := Lib.hid (show ∀ z ∈ [(p : Int)], 0 ≤ z ∧ z < 10 from by simp; omega)
  go_enter Try.func84, Try.ntmps84
  go_wp2_with fail
  refine (setOf_any (some ⟨W.heap.size, 0, none⟩) 1 1 [(p : Int)] _ (nums_one W _ _) HQ.out (by omega)).mono ?_
  rw [setN_one]
  rintro e w' ⟨rfl, rfl⟩
  obtain ⟨t, ht⟩ : ∃ t, t = 1 <<< p := ⟨_, rfl⟩
  rw [← ht]
  have HT := Lib.hid ht
  have HE := Lib.hid (beq_nat b t)
  clear ht
  go_wp2_with fail
  go_ret
  exact ⟨ret_bool (by unfold toB; rw [← HT.out]; first | exact HE.out | (simp [HE.out])), (Below.refl _ _).alloc (Nat.le_refl _) _⟩

set_option maxRecDepth 100000 in
set_option maxHeartbeats 2000000 in
theorem specShortestTo_any (s : Int) (A : Option Addr) (m cap : Nat) (xss : List (List Int)) (x : Int) (w : World) (h : RowsAt w A m xss) (hm : m ≤ 4611686018427387904)
    (hrows : ∀ (r : Nat) (xs : List Int), xss[r]? = some xs → xs.length ≤ 4611686018427387904) :
    Calls Try.prog 45 #[.agg #[.int .i64 s, .slice A m cap], .int .i64 x] w fun e w' => ∃ v, e = .returned (.tuple #[v, .int .i64 (shortestTo s xss x).2]) ∧ w'.ownsRow w.heap.size 2 1 v (shortestTo s xss x).1.length ((shortestTo s xss x).1.map (Value.int .i64)) ∧ Below w.heap.size w w' := by
  have HR := Lib.hid hrows
  have HM := Lib.hid h.1
  have b0 : Below w.heap.size w (w.alloc (.cells #[.int .i64 s, .slice A m cap] 27)) := (Below.refl _ _).alloc (Nat.le_refl _) _
  have H0 := Lib.hid (h.below b0)
  have B0 := Lib.hid b0
  clear hrows b0
  rcases hok : okA s xss with _ | _
  · have HF := Lib.hid (shortestTo_1 (x := x) hok)
    go_enter Try.func45, Try.ntmps45
    go_wp2_with fail
    refine (l01Ok_any w.heap.size s A m cap xss _ (by go_cell) (by go_cell) H0.out hm HR.out).mono ?_
    rw [hok]
    rintro e w' ⟨rfl, d, rfl⟩
    go_wp2_with fail
    go_ret2
    rw [HF.out]
    exact ⟨_, rfl, own_none' (w := (w.alloc (.cells #[.int .i64 s, .slice A m cap] 27)).drewN d) (World.size_alloc _ _).symm (below_drewN' B0.out d).size, (below_drewN' B0.out _).alloc (below_drewN' B0.out _).size _⟩
  · obtain ⟨n, hsn, hg⟩ := good_of hok HM.out
    subst hsn
    have HG := Lib.hid hg
    have hn10 : n ≤ 10 := hg.n10
    have hn1 : 1 ≤ n := hg.n1
    clear hg
    rcases hx : belowB (n : Int) x with _ | _
    all_goals
      go_enter Try.func45, Try.ntmps45
      go_wp2_with fail
      refine (l01Ok_any w.heap.size (n : Int) A m cap xss _ (by go_cell) (by go_cell) H0.out hm HR.out).mono ?_
      rw [hok]
      rintro e w' ⟨rfl, d, rfl⟩
      go_wp2_with fail
      obtain ⟨w1, hw1⟩ : ∃ w1, w1 = (w.alloc (.cells #[.int .i64 (n : Int), .slice A m cap] 27)).drewN d := ⟨_, rfl⟩
      have c0 : w1.cell? ⟨w.heap.size, 0, none⟩ = some (.int .i64 (n : Int)) := by rw [hw1]; exact cell_of_row _ _ 0 _ _ _ (heap_alloc_new _ _)
      have c1 : w1.cell? ⟨w.heap.size, 1, none⟩ = some (.slice A m cap) := by rw [hw1]; exact cell_of_row _ _ 1 _ _ _ (heap_alloc_new _ _)
      have H1 := Lib.hid (show RowsAt w1 A m xss by rw [hw1]; exact H0.out.below (below_drewN' (Below.refl _ _) d))
      have B1 := Lib.hid (show Below w.heap.size w w1 by rw [hw1]; exact below_drewN' B0.out d)
      rw [← hw1]
      clear hw1
      refine (l00In_any x 0 ((n : Int) - 1) w1).mono ?_
      rw [← belowB_inB, hx]
      rintro e w' ⟨rfl, rfl⟩
      go_wp2_with fail
    · have HF := Lib.hid (shortestTo_2 (x := x) hok hx)
      go_ret2
      rw [HF.out]
      exact ⟨_, rfl, own_none w1 _ B1.out.size, B1.out.alloc B1.out.size _⟩
    · obtain ⟨p, rfl, hp⟩ := below_nat hx
      have HF := Lib.hid (shortestTo_0 hok HM.out hx)
      have hp10 : p < 10 := by omega
      clear hx
      refine (l02Full_any w.heap.size n w1 hn10 c0).mono ?_
      rintro e w2 ⟨rfl, k2, rfl⟩
      go_wp2_with fail
      have b2 : Below w1.heap.size w1 (w1.drewN k2) := below_drewN' (Below.refl _ _) k2
      obtain ⟨w2, hw2⟩ : ∃ w2, w2 = w1.drewN k2 := ⟨_, rfl⟩
      rw [← hw2] at b2 ⊢
      have hb10 := full_lt hn10
      refine (l02From_any w.heap.size n m cap (2 ^ n - 1) A xss w2 HG.out (H1.out.below b2) ((b2.cell (cell_lt c0)).trans c0) ((b2.cell (cell_lt c1)).trans c1) (full_in n)).mono ?_
      rintro e w3 ⟨q, sb, g1, g2, g3, d1, d2, d3, rfl, hW, hB⟩
      obtain ⟨T, hT⟩ : ∃ T, T = fnd n m xss 1024 (2 ^ n - 1) := ⟨_, rfl⟩
      have HT := Lib.hid hT
      rw [← hT] at hW
      have hl : T.length ≤ 1024 := by rw [hT]; exact fnd_len HG.out hb10
      have HW := Lib.hid hW
      have B3 := Lib.hid (below_then (below_then B1.out b2) hB)
      have hs2 : w.heap.size ≤ w2.heap.size := Nat.le_trans B1.out.size b2.size
      have hs3 : w2.heap.size ≤ w3.heap.size := hB.size
      have HPN := Lib.hid (pow_nat hp10)
      have i1 : (0 : Int) ≤ (p : Int) := by omega
      have i3 : (p : Int) < 10 := by omega
      clear hT hW hB b2 hw2 c0 c1
      go_wp2_with fail
      go_loopw [7] (fun iv wr => ∃ k : Nat, k ≤ T.length ∧ iv = .int .i64 k ∧ (∀ (j : Nat) f, j < k → T[j]? = some f → toB p f.set = false) ∧ Below w3.heap.size w3 wr) (fun iv _ => T.length - (intOf iv).toNat)
      case atStart => exact ⟨0, Nat.zero_le _, rfl, fun j f hj => by omega, Below.refl _ _⟩
      case round =>
        obtain ⟨k, hk, rfl, hno, hbel⟩ := hrel
        have hws := HW.out.below hbel
        have q0 : wr.cell? ⟨q, 0, none⟩ = some (.slice (some ⟨g1, 0, none⟩) T.length d1) := by
          have := cell_of_row _ q 0 _ _ _ hws.blk
          rw [setsL_len] at this
          exact this
        have HWS := Lib.hid hws
        have HNO := Lib.hid hno
        have HBR := Lib.hid (below_then B3.out hbel)
        have HB1 := Lib.hid hbel
        clear hno hbel hws
        by_cases hlt : k < T.length
        · obtain ⟨f, hf⟩ : ∃ f, T[k]? = some f := ⟨_, List.getElem?_eq_getElem hlt⟩
          have r0 : wr.cell? ⟨g1, k, none⟩ = some (.int .i64 (f.set : Int)) := by
            have h1 := HWS.out.s.cellAt k (by rw [setsL_len]; omega)
            rw [List.getElem?_map, setsL_at hf] at h1
            exact h1
          have j1 : (0 : Int) ≤ (k : Int) := by omega
          have j2 : (k : Int) < (T.length : Int) := by omega
          have HFF := Lib.hid hf
          have hcmp : ((f.set : Int) == wrap64 (2 ^ p)) = toB p f.set := by rw [HPN.out, beq_nat]; rfl
          clear hf
          rcases hmm : toB p f.set with _ | _
          · rw [hmm] at hcmp
            have HM2 := Lib.hid hmm
            clear hmm
            go_wp2_with fail
            go_roundw
            case rel =>
              refine ⟨k + 1, by omega, by go_num, fun j f' hj hf' => ?_, HB1.out⟩
              rcases Nat.lt_or_ge j k with a | a
              · exact HNO.out j f' a hf'
              · obtain rfl : j = k := by omega
                rw [HFF.out] at hf'
                obtain rfl := Option.some.inj hf'
                exact HM2.out
            case measure => simp [intOf]; omega
          · rw [hmm] at hcmp
            have hfirst : firstF (toB p) T = some f := first_hit HFF.out hmm HNO.out
            have HFI := Lib.hid hfirst
            clear hmm hfirst
            go_wp2_with fail
            refine (word_any w2.heap.size q sb (2 ^ n) g1 g2 g3 d1 d2 d3 k (aftF n xss) m 1024 (2 ^ n - 1) 1024 T f wr (by rw [HT.out]; exact all_inv) hl HWS.out HFF.out).mono ?_
            rintro e w4 ⟨u, rfl, ow, bw⟩
            have HOW := Lib.hid ow
            have HBW := Lib.hid (below_then HBR.out bw)
            have hbs := HBR.out.size
            clear ow bw
            go_wp2_with fail
            go_ret2
            rw [HF.out]
            unfold toW
            rw [← HT.out, HFI.out]
            exact ⟨u, rfl, own_base HOW.out hbs, HBW.out⟩
        · have hnone : firstF (toB p) T = none := first_miss fun j f hf => HNO.out j f (by have := lt_of_at hf; omega) hf
          have HFI := Lib.hid hnone
          clear hnone
          go_wp2_with fail
          go_ret2
          rw [HF.out]
          unfold toW
          rw [← HT.out, HFI.out]
          exact ⟨_, rfl, own_none wr _ HBR.out.size, HBR.out.alloc HBR.out.size _⟩

set_option maxRecDepth 100000 in
set_option maxHeartbeats 2000000 in
theorem implShortestTo_any (s : Int) (A : Option Addr) (m cap : Nat) (xss : List (List Int)) (x : Int) (w : World) (h : RowsAt w A m xss) (hm : m ≤ 4611686018427387904)
    (hrows : ∀ (r : Nat) (xs : List Int), xss[r]? = some xs → xs.length ≤ 4611686018427387904) :
    Calls Try.prog 46 #[.agg #[.int .i64 s, .slice A m cap], .int .i64 x] w fun e w' => ∃ v, e = .returned (.tuple #[v, .int .i64 (shortestTo s xss x).2]) ∧ w'.ownsRow w.heap.size 2 1 v (shortestTo s xss x).1.length ((shortestTo s xss x).1.map (Value.int .i64)) ∧ Below w.heap.size w w' := by
  have HR := Lib.hid hrows
  have HM := Lib.hid h.1
  have b0 : Below w.heap.size w (w.alloc (.cells #[.int .i64 s, .slice A m cap] 27)) := (Below.refl _ _).alloc (Nat.le_refl _) _
  have b00 : Below w.heap.size w ((w.alloc (.cells #[.int .i64 s, .slice A m cap] 27)).alloc (.cells #[.int .i64 x] 2)) := b0.alloc b0.size _
  have H0 := Lib.hid (h.below b00)
  have B0 := Lib.hid b00
  clear hrows b0 b00
  rcases hok : okA s xss with _ | _
  · have HF := Lib.hid (shortestTo_1 (x := x) hok)
    go_enter Try.func46, Try.ntmps46
    go_wp2_with fail
    refine (implValid_any s A m cap xss _ H0.out hm HR.out).mono ?_
    rw [hok]
    rintro e w1 ⟨rfl, b1⟩
    have B1 := Lib.hid (below_then B0.out b1)
    clear b1
    go_wp2_with fail
    go_ret2
    rw [HF.out]
    exact ⟨_, rfl, World.ownsRow_nil _ _ _ _, B1.out⟩
  · obtain ⟨n, hsn, hg⟩ := good_of hok HM.out
    subst hsn
    have HG := Lib.hid hg
    have hn10 : n ≤ 10 := hg.n10
    have hn1 : 1 ≤ n := hg.n1
    clear hg
    rcases hx : belowB (n : Int) x with _ | _
    all_goals
      go_enter Try.func46, Try.ntmps46
      go_wp2_with fail
      refine (implValid_any (n : Int) A m cap xss _ H0.out hm HR.out).mono ?_
      rw [hok]
      rintro e w1 ⟨rfl, b1⟩
      obtain ⟨W0, hW0⟩ : ∃ W0, W0 = (w.alloc (.cells #[.int .i64 (n : Int), .slice A m cap] 27)).alloc (.cells #[.int .i64 x] 2) := ⟨_, rfl⟩
      rw [← hW0] at b1
      have x0 : W0.heap[w.heap.size]? = some (.cells #[.int .i64 (n : Int), .slice A m cap] 27 (0, 0)) := by rw [hW0, Below.heap_alloc _ _ _ (by simp)]; exact heap_alloc_new _ _
      have x1 : W0.heap[w.heap.size + 1]? = some (.cells #[.int .i64 x] 2 (0, 0)) := by
        have := heap_alloc_new (w.alloc (.cells #[.int .i64 (n : Int), .slice A m cap] 27)) (.cells #[.int .i64 x] 2)
        rw [World.size_alloc] at this; rw [hW0]; exact this
      have d0 : w1.cell? ⟨w.heap.size, 0, none⟩ = some (.int .i64 (n : Int)) := (b1.cell (block_lt x0)).trans (cell_of_row _ _ 0 _ _ _ x0)
      have d1 : w1.cell? ⟨w.heap.size, 1, none⟩ = some (.slice A m cap) := (b1.cell (block_lt x0)).trans (cell_of_row _ _ 1 _ _ _ x0)
      have d2 : w1.cell? ⟨w.heap.size + 1, 0, none⟩ = some (.int .i64 x) := (b1.cell (block_lt x1)).trans (cell_of_row _ _ 0 _ _ _ x1)
      have H1 := Lib.hid ((show RowsAt W0 A m xss by rw [hW0]; exact H0.out).below b1)
      have B1 := Lib.hid (below_then (show Below w.heap.size w W0 by rw [hW0]; exact B0.out) b1)
      clear b1 x0 x1 hW0
      go_wp2_with fail
      refine (isBelow_any x (n : Int) w1).mono ?_
      rw [hx]
      rintro e w' ⟨rfl, rfl⟩
      go_wp2_with fail
    · have HF := Lib.hid (shortestTo_2 (x := x) hok hx)
      go_ret2
      rw [HF.out]
      exact ⟨_, rfl, World.ownsRow_nil _ _ _ _, B1.out⟩
    · obtain ⟨p, rfl, hp⟩ := below_nat hx
      have HF := Lib.hid (shortestTo_0 hok HM.out hx)
      have HCF := Lib.hid (to_cut HG.out hp)
      obtain ⟨b, hb⟩ : ∃ b, b = 2 ^ n - 1 := ⟨_, rfl⟩
      have hb10 : b < 1024 := by rw [hb]; exact full_lt hn10
      rw [← hb] at HCF
      have HBB := Lib.hid hb
      have hp10 : p < 10 := by omega
      have r0 : ∀ W', Below w1.heap.size w1 W' → W'.cell? ⟨w.heap.size, 0, none⟩ = some (.int .i64 (n : Int)) := fun W' hb => (hb.cell (cell_lt d0)).trans d0
      have r1 : ∀ W', Below w1.heap.size w1 W' → W'.cell? ⟨w.heap.size, 1, none⟩ = some (.slice A m cap) := fun W' hb => (hb.cell (cell_lt d1)).trans d1
      have R2 := Lib.hid (show ∀ W', Below w1.heap.size w1 W' → W'.cell? ⟨w.heap.size + 1, 0, none⟩ = some (.int .i64 (p : Int)) from fun W' hb => (hb.cell (cell_lt d2)).trans d2)
      have h9 : Below w1.heap.size w1 w1 := Below.refl _ _
      clear hx hb
      go_wp2_with fail
      go_region_held3 (fun w' => Below w1.heap.size w1 w') (first | assumption | exact below_drewN' (by assumption) _)
        (first
          | (go_at_call 71; refine (allStates_any A n m cap _ hn10).mono ?_; rw [← HBB.out]; rintro e w3 ⟨rfl, b3⟩; have h3 : Below w1.heap.size w1 w3 := below_then (by first | assumption | exact below_drewN' (by assumption) _) b3; clear b3)
          | (go_at_call 83; refine (firstWord_any 84 #[] #[.pointer (some ⟨w.heap.size + 1, 0, none⟩)] (toB p) A n m cap b xss _ HG.out (H1.out.below (by first | assumption | exact below_drewN' (by assumption) _)) hb10 (fun _ _ => rfl) (fun b' hb' W' hB' => goalTo_any (w.heap.size + 1) p b' W' hb' hp10 (R2.out W' (below_then (by first | assumption | exact below_drewN' (by assumption) _) hB')))).mono ?_; rintro e w4 ⟨u, rfl, ow, b4⟩; have HO := Lib.hid (own_base ow (show w.heap.size ≤ _ from (below_then B1.out (by first | assumption | exact below_drewN' (by assumption) _)).size)); have h4 : Below w1.heap.size w1 w4 := below_then (by first | assumption | exact below_drewN' (by assumption) _) b4; clear b4 ow)
          | fail)
      all_goals
        go_wp2_with fail
        go_ret2
        rw [HF.out, ← HCF.out]
        exact ⟨u, rfl, HO.out, below_then B1.out h4⟩

end Go.Proofs.Ytikhfdpmmkjnlaa
