/-
  How many reset words of a length there are: the model's CountResets.
-/
import Derived.Test.YtdelanjkaokiaaaCntR
import Derived.Test.YtdelanjkaokiaaaFrom
import Derived.Deep.RegionLaw
import Derived.StillTailTactics
import Derived.Deep.DeepCutAuto
namespace Go.Proofs.Ytdelanjkaokiaaa
open Go.RowKit Go.Deep Go.ChangeShapes Go.WideShapes
open Hunt Srch Moved From

/-- The counts in the middle of a round of the model: the first i of the sets found, and the letters below x for the set b. -/
def midS (aft : Nat → Nat → Nat) (f : Nat → Int) (m : Nat) (S : List Nat) (i b x : Nat) : Nat → Int := fun c => wr64 (sumL (fun b => f b * hitN aft b c m) (S.take i) + f b * hitN aft b c x)
theorem midS_0 (aft : Nat → Nat → Nat) (f : Nat → Int) (m : Nat) (S : List Nat) (b c : Nat) : midS aft f m S 0 b 0 c = 0 := by
  show wr64 (0 + f b * 0) = 0
  rw [Int.mul_zero]; exact wr64_0
theorem midS_any (aft : Nat → Nat → Nat) (f : Nat → Int) (m : Nat) (S : List Nat) (i b b' c : Nat) : midS aft f m S i b 0 c = midS aft f m S i b' 0 c := by
  show wr64 (_ + f b * 0) = wr64 (_ + f b' * 0)
  rw [Int.mul_zero, Int.mul_zero]
theorem midS_row {aft : Nat → Nat → Nat} {f : Nat → Int} {m : Nat} {S : List Nat} {i b : Nat} (h : S[i]? = some b) (c : Nat) : midS aft f m S i b m c = midS aft f m S (i + 1) 0 0 c := by
  unfold midS
  rw [sumL_take h]
  show _ = wr64 (_ + f 0 * 0)
  rw [Int.mul_zero, Int.add_zero]
theorem midS_step (aft : Nat → Nat → Nat) (f : Nat → Int) (m : Nat) (S : List Nat) (i b x c : Nat) : (if c = aft b x then wr64 ((sumL (fun b' => f b' * hitN aft b' (aft b x) m) (S.take i) + f b * hitN aft b (aft b x) x) + f b) else midS aft f m S i b x c) = midS aft f m S i b (x + 1) c := by
  unfold midS
  rw [hit_step]
  by_cases h : c = aft b x
  · subst h; rw [if_pos rfl, if_pos rfl]
  · rw [if_neg h, if_neg h]
theorem midS_own {w : World} {base H c N m i b x D : Nat} {aft : Nat → Nat → Nat} {f : Nat → Int} {S : List Nat} {v : Int} (h : w.ownsRow base 2 1 (.slice (some ⟨H, 0, none⟩) N c) N ((rowF N (midS aft f m S i b x)).map (Value.int .i64))) (hD : aft b x = D)
    (hv : v = wr64 ((sumL (fun b' => f b' * hitN aft b' D m) (S.take i) + f b * hitN aft b D x) + f b)) :
    (w.setCell ⟨H, D, none⟩ (.int .i64 v)).ownsRow base 2 1 (.slice (some ⟨H, 0, none⟩) N c) N ((rowF N (midS aft f m S i b (x + 1))).map (Value.int .i64)) := by
  subst hD
  subst hv
  have h9 := own_storeF h (aft b x) (wr64 ((sumL (fun b' => f b' * hitN aft b' (aft b x) m) (S.take i) + f b * hitN aft b (aft b x) x) + f b))
  have e : (fun c => if c = aft b x then wr64 ((sumL (fun b' => f b' * hitN aft b' (aft b x) m) (S.take i) + f b * hitN aft b (aft b x) x) + f b) else midS aft f m S i b x c) = midS aft f m S i b (x + 1) := funext (midS_step aft f m S i b x)
  rw [e] at h9
  exact h9
theorem sums_same {n m b0 : Nat} {xss : List (List Int)} (hg : Good n m xss) (hb : b0 < 1024) (g : Nat → Int) (k : Nat) (h : ∀ b, cntF (aftF n xss) m b0 k b = 0 → g b = 0) : sumL g (List.range 1024) = sumL g ((fnd n m xss 1024 b0).map Fnd.set) := by
  obtain ⟨h1, h2, h3, h4⟩ := found_sets hg hb
  exact sum_support h2 h3 (fun b _ hm => h b (cntF_out h1 h4 k b hm))
theorem midS_all {n m b0 k : Nat} {xss : List (List Int)} (hg : Good n m xss) (hb : b0 < 1024) (c : Nat) : midS (aftF n xss) (cntF (aftF n xss) m b0 k) m ((fnd n m xss 1024 b0).map Fnd.set) (fnd n m xss 1024 b0).length 0 0 c = wr64 (cntF (aftF n xss) m b0 (k + 1) c) := by
  unfold midS
  rw [List.take_of_length_le (by rw [List.length_map]; exact Nat.le_refl _), cntF_succ, sums_same hg hb _ k (fun b h => by show cntF _ _ _ _ _ * _ = 0; rw [h, Int.zero_mul])]
  show wr64 (_ + _ * 0) = _
  rw [Int.mul_zero, Int.add_zero]
theorem goal_all {n m b0 k : Nat} {xss : List (List Int)} (hg : Good n m xss) (hb : b0 < 1024) (P : Nat → Bool) : goalS (cntF (aftF n xss) m b0 k) P ((fnd n m xss 1024 b0).map Fnd.set) = goalS (cntF (aftF n xss) m b0 k) P (List.range 1024) := by
  unfold goalS
  refine (sums_same hg hb _ k (fun b h => ?_)).symm
  show (if P b = true then cntF _ _ _ _ _ else 0) = 0
  rw [h]; split <;> rfl
theorem found_lt {n m : Nat} {xss : List (List Int)} (hg : Good n m xss) : ∀ b ∈ (fnd n m xss 1024 (2 ^ n - 1)).map Fnd.set, b < 2 ^ n := by
  intro b hb
  obtain ⟨f, hf, rfl⟩ := List.mem_map.1 hb
  obtain ⟨h1, h2⟩ := found_word hf
  rw [h1]
  exact in_lt (goW_in (acts hg) _ _ h2 (full_in n)).1
theorem goal_take {F : Nat → Int} {P : Nat → Bool} {S : List Nat} {i b : Nat} (h : S[i]? = some b) : goalS F P (S.take (i + 1)) = goalS F P (S.take i) + if P b = true then F b else 0 := by unfold goalS; rw [sumL_take h]

set_option maxRecDepth 100000 in
set_option maxHeartbeats 16000000 in
theorem specCountResets_any (s : Int) (A : Option Addr) (m cap : Nat) (xss : List (List Int)) (k : Int) (w : World) (h : RowsAt w A m xss) (hm : m ≤ 4611686018427387904)
    (hrows : ∀ (r : Nat) (xs : List Int), xss[r]? = some xs → xs.length ≤ 4611686018427387904) :
    Calls Try.prog 26 #[.agg #[.int .i64 s, .slice A m cap], .int .i64 k] w fun e w' => e = .returned (.tuple #[.int .i64 (countResets s xss k).1, .int .i64 (countResets s xss k).2]) ∧ Below w.heap.size w w' := by
  have HR := Lib.hid hrows
  have HM := Lib.hid h.1
  obtain ⟨R, hR⟩ : ∃ R, R = countResets s xss k := ⟨_, rfl⟩
  rw [← hR]
  have HRR := Lib.hid hR
  obtain ⟨w1, hw1⟩ : ∃ w1, w1 = w.alloc (.cells #[.int .i64 s, .slice A m cap] 31) := ⟨_, rfl⟩
  have b1 : Below w.heap.size w w1 := by rw [hw1]; exact (Below.refl _ _).alloc (Nat.le_refl _) _
  have X1 := Lib.hid (show Box w1 w.heap.size [.int .i64 s, .slice A m cap] by rw [hw1]; exact Box.new _ _ _)
  have HX1 := Lib.hid (h.below b1)
  have W1 := Lib.hid b1
  have HW := Lib.hid hw1
  clear h hrows hR b1 hw1
  go_enter Try.func26, Try.ntmps26
  go_wp2_with fail
  rw [← HW.out]
  refine (l01Ok_any w.heap.size s A m cap xss w1 (X1.out 0 _ rfl) (X1.out 1 _ rfl) HX1.out hm HR.out).mono ?_
  rintro e w2 ⟨rfl, k2, hk2⟩
  have b2 : Below w1.heap.size w1 w2 := by rw [hk2]; exact below_drewN' (Below.refl _ _) _
  have X2 := Lib.hid (Box.below X1.out b2)
  have HX2 := Lib.hid (HX1.out.below b2)
  have W2 := Lib.hid (below_then W1.out b2)
  clear b2 hk2
  rcases hok : okA s xss with _ | _
  · have HF := Lib.hid (HRR.out.trans (countResets_1 hok))
    go_wp2_with fail
    go_ret2
    exact ⟨ret_pair HF.out, W2.out⟩
  · obtain ⟨n, hsn, hg⟩ := good_of hok HM.out
    subst hsn
    have HG := Lib.hid hg
    have HOK := Lib.hid hok
    have hn10 : n ≤ 10 := hg.n10
    have hm3 : m ≤ 3 := hg.m3
    clear hg hok
    rcases hin : inB 0 20 k with _ | _
    · have HF := Lib.hid (HRR.out.trans (countResets_2 HOK.out (by simpa [inB] using hin)))
      go_wp2_with fail
      refine (l00In_any _ _ _ _).mono ?_
      rw [hin]
      rintro e w' ⟨rfl, rfl⟩
      go_wp2_with fail
      go_ret2
      exact ⟨ret_pair HF.out, W2.out⟩
    · have hk' : 0 ≤ k ∧ k ≤ 20 := by simpa [inB] using hin
      obtain ⟨k, rfl⟩ : ∃ z : Nat, k = (z : Int) := ⟨k.toNat, by omega⟩
      have HK := Lib.hid (show k ≤ 20 by omega)
      have HF := Lib.hid (HRR.out.trans (countResets_0 HOK.out HM.out HK.out))
      have q0 := X2.out 0 _ rfl
      have hfull : 2 ^ n - 1 < 1024 := by have := pow_le hn10; omega
      have HFULL := Lib.hid hfull
      obtain ⟨U, hU⟩ : ∃ U, U = 2 ^ n - 1 := ⟨_, rfl⟩
      have HU := Lib.hid hU
      obtain ⟨N, hN⟩ : ∃ N, N = 2 ^ n := ⟨_, rfl⟩
      have HN := Lib.hid hN
      have hN1 : N ≤ 1024 := by rw [hN]; exact pow_le hn10
      have hUN : U < N := by rw [hU, hN]; have := Nat.two_pow_pos n; omega
      have hw2 : wrap64 ((2 : Int) ^ n) = (N : Int) := by
        rw [hN, show ((2 : Int) ^ n) = ((2 ^ n : Nat) : Int) by push_cast; rfl]
        exact Moved.wrap_512' (by rw [← hN]; omega)
      have hmk := run_make_row' (P := Try.prog) 25 2 (.int .i64 0) 8 Try.underlying25 info_int64 rfl .i64 .i64 N (by omega) (by omega)
      have HMK := Lib.hid hmk
      have hNn : 0 ≤ (N : Int) := by omega
      clear hk' hfull hN hU hmk
      go_wp2_with fail
      refine (l00In_any _ _ _ _).mono ?_
      rw [hin]
      rintro e w' ⟨rfl, rfl⟩
      clear hin
      go_wp2_with fail
      refine (l02Full_any w.heap.size n w2 hn10 q0).mono ?_
      rintro e w3 ⟨rfl, k3, hk3⟩
      have b3 : Below w2.heap.size w2 w3 := by rw [hk3]; exact below_drewN' (Below.refl _ _) _
      have X3 := Lib.hid (Box.below X2.out b3)
      have HX3 := Lib.hid (HX2.out.below b3)
      have W3 := Lib.hid (below_then W2.out b3)
      clear b3 hk3 q0
      go_wp2_with fail
      refine (l02From_any w.heap.size n m cap (2 ^ n - 1) A xss w3 HG.out HX3.out (X3.out 0 _ rfl) (X3.out 1 _ rfl) (full_in n)).mono ?_
      rintro e w4 ⟨p, sb, g1, g2, g3, c1, c2, c3, rfl, hws, b4⟩
      have X4 := Lib.hid (Box.below X3.out b4)
      have HX4 := Lib.hid (HX3.out.below b4)
      have W4 := Lib.hid (below_then W3.out b4)
      obtain ⟨T, hT⟩ : ∃ T, T = fnd n m xss 1024 (2 ^ n - 1) := ⟨_, rfl⟩
      rw [← hT] at hws
      have HT := Lib.hid hT
      obtain ⟨L, hL⟩ : ∃ L, L = T.length := ⟨_, rfl⟩
      have hLT : L ≤ 1024 := by rw [hL, hT]; exact all_len (cap := 1024) (small HG.out HFULL.out)
      have hp4 : w4.cell? ⟨p, 0, none⟩ = some (.slice (some ⟨g1, 0, none⟩) L c1) := by rw [hL, ← setsL_len T]; exact cell_of_row _ _ 0 _ _ _ hws.blk
      have hs4 : NumsAt w4 (some ⟨g1, 0, none⟩) L (setsL T) := by rw [hL, ← setsL_len T]; exact NumsAt.own hws.s rfl rfl
      have HP4 := Lib.hid hp4
      have HS4 := Lib.hid hs4
      have HLL := Lib.hid hL
      have hset : ∀ i b : Nat, (T.map Fnd.set)[i]? = some b → (setsL T)[i]? = some ((b : Nat) : Int) := by
        intro i b hb
        unfold setsL
        rw [List.getElem?_map] at hb ⊢
        rcases hTi : T[i]? with _ | f
        · rw [hTi] at hb; cases hb
        · rw [hTi] at hb
          obtain rfl := Option.some.inj hb
          rfl
      have HSET := Lib.hid hset
      have q0 := X4.out 0 _ rfl
      have hmk := HMK.out
      obtain ⟨w5, hw5⟩ : ∃ w5, w5 = w4.alloc (.cells (madeCells #[.int .i64 0] N) 2) := ⟨_, rfl⟩
      have b5 : Below w4.heap.size w4 w5 := by rw [hw5]; exact (Below.refl _ _).alloc (Nat.le_refl _) _
      obtain ⟨G, hGe⟩ : ∃ G, G = w4.heap.size := ⟨_, rfl⟩
      have O5 := Lib.hid (show w5.ownsRow w4.heap.size 2 1 (.slice (some ⟨G, 0, none⟩) N N) N ((rowF N (fun _ => 0)).map (Value.int .i64)) by
        rw [← rowF_zero, hw5, Nat.mul_one, hGe]
        exact World.ownsRow_lit w4 _ N (Nat.le_refl _) (by unfold maxLen; omega) (by rw [size_madeCells, Nat.mul_one]))
      have X5 := Lib.hid (Box.below X4.out b5)
      have B5 := Lib.hid b5
      have HW5 := Lib.hid hw5
      have HGE := Lib.hid hGe
      clear hws b4 hT hL hp4 hs4 hset b5 hw5 hGe
      go_upto_region 7 with fail
      clear hmk hw2 q0
      rw [← HGE.out, ← HW5.out]
      go_wp2_with fail
      refine (l02Full_any w.heap.size n w5 hn10 (X5.out 0 _ rfl)).mono ?_
      rw [← HU.out]
      rintro e w6 ⟨rfl, k6, hk6⟩
      have b6 : Below w5.heap.size w5 w6 := by rw [hk6]; exact below_drewN' (Below.refl _ _) _
      have X6 := Lib.hid (Box.below X5.out b6)
      have B6 := Lib.hid (below_then B5.out b6)
      have O6 := Lib.hid (own_below O5.out b6)
      have hcu : w6.cell? ⟨G, U, none⟩ = some (.int .i64 0) := by rw [O6.out.cellAt U (by omega), List.getElem?_map, rowF_at _ hUN]; rfl
      have hfu : w6.frozen? ⟨G, U, none⟩ = false := O6.out.frozenAt U
      have hU0 : (0 : Int) ≤ (U : Int) := by omega
      have hUN2 : (U : Int) < (N : Int) := by omega
      obtain ⟨F, hF⟩ : ∃ F, F = cntF (aftF n xss) m (2 ^ n - 1) := ⟨_, rfl⟩
      have HFE := Lib.hid hF
      have O7 := Lib.hid (show (w6.setCell ⟨G, U, none⟩ (.int .i64 1)).ownsRow w4.heap.size 2 1 (.slice (some ⟨G, 0, none⟩) N N) N ((rowF N (fun b => wr64 (F 0 b))).map (Value.int .i64)) by
        have h9 := own_storeF O6.out U 1
        rw [rowF_congr (g := fun b => wr64 (F 0 b)) (fun b _ => by
          rw [hF]
          show (if b = U then 1 else 0) = wr64 (if b = 2 ^ n - 1 then 1 else 0)
          rw [← HU.out]
          split
          · exact wr64_1.symm
          · exact wr64_0.symm)] at h9
        exact h9)
      have B7 := Lib.hid (show Below w4.heap.size w4 (w6.setCell ⟨G, U, none⟩ (.int .i64 1)) from B6.out.setCell (by show w4.heap.size ≤ G; rw [HGE.out]; exact Nat.le_refl _) _)
      clear b6 hk6 hF
      go_wp2_with fail
      clear hcu hfu
      go_loopw [7, 8] (fun nv kv wr => ∃ (kk gn : Nat), kk ≤ k ∧ kv = .int .i64 kk ∧ nv = .slice (some ⟨gn, 0, none⟩) N N ∧ wr.ownsRow w4.heap.size 2 1 (.slice (some ⟨gn, 0, none⟩) N N) N ((rowF N (fun b => wr64 (F kk b))).map (Value.int .i64)) ∧ Below w4.heap.size w4 wr) (fun _ kv _ => k - (intOf kv).toNat)
      case atStart => exact ⟨0, G, Nat.zero_le _, rfl, rfl, O7.out, B7.out⟩
      case round =>
        obtain ⟨kk, gn, hkk, rfl, rfl, hown, hbel⟩ := hrel
        obtain ⟨wk, hwk⟩ : ∃ wk, wk = wr := ⟨_, rfl⟩
        rw [← hwk] at hown hbel ⊢
        clear hwk
        have HO := Lib.hid hown
        have HB := Lib.hid hbel
        have hkk0 : (0 : Int) ≤ (kk : Int) := by omega
        clear hown hbel
        by_cases hltk : kk < k
        · have hkl : (kk : Int) < (k : Int) := by omega
          have hk20 : (k : Int) ≤ 20 := by have := HK.out; omega
          have hmk := HMK.out
          obtain ⟨w8, hw8⟩ : ∃ w8, w8 = wk.alloc (.cells (madeCells #[.int .i64 0] N) 2) := ⟨_, rfl⟩
          have b8 : Below wk.heap.size wk w8 := by rw [hw8]; exact (Below.refl _ _).alloc (Nat.le_refl _) _
          obtain ⟨H, hH⟩ : ∃ H, H = wk.heap.size := ⟨_, rfl⟩
          have O8 := Lib.hid (show w8.ownsRow w4.heap.size 2 1 (.slice (some ⟨H, 0, none⟩) N N) N ((rowF N (midS (aftF n xss) (F kk) m (T.map Fnd.set) 0 0 0)).map (Value.int .i64)) by
            rw [rowF_congr (g := fun _ => 0) (fun b _ => midS_0 _ _ _ _ _ b), ← rowF_zero, hw8, Nat.mul_one, hH]
            exact World.ownsRow_lit wk _ N HB.out.size (by unfold maxLen; omega) (by rw [size_madeCells, Nat.mul_one]))
          have N8 := Lib.hid (own_below HO.out b8)
          have B8 := Lib.hid (below_then HB.out b8)
          have HGN := Lib.hid (show gn < H by rw [hH]; exact (HO.out.lt gn rfl).2)
          have HHB := Lib.hid (show w4.heap.size ≤ H by rw [hH]; exact HB.out.size)
          have HW8 := Lib.hid hw8
          have HHE := Lib.hid hH
          clear b8 hw8 hH
          go_upto_region 12 with fail
          clear hmk
          rw [← HHE.out, ← HW8.out]
          go_wp2_with fail
          go_loopw [10] (fun iv wr => ∃ i : Nat, i ≤ L ∧ iv = .int .i64 i ∧ wr.ownsRow w4.heap.size 2 1 (.slice (some ⟨H, 0, none⟩) N N) N ((rowF N (midS (aftF n xss) (F kk) m (T.map Fnd.set) i 0 0)).map (Value.int .i64)) ∧ Only H (H + 1) w8 wr) (fun iv _ => L - (intOf iv).toNat)
          case atStart => exact ⟨0, Nat.zero_le _, rfl, O8.out, Only.refl _ _ _⟩
          case round =>
            obtain ⟨i, hi, rfl, hown, hon⟩ := hrel
            obtain ⟨wi, hwi⟩ : ∃ wi, wi = wr := ⟨_, rfl⟩
            rw [← hwi] at hown hon ⊢
            clear hwi
            have HOI := Lib.hid hown
            have HNI := Lib.hid hon
            have BI := Lib.hid (Only.below B8.out hon HHB.out B8.out.size)
            have hi0 : (0 : Int) ≤ (i : Int) := by omega
            have hpc := (BI.out.cell (cell_lt HP4.out)).trans HP4.out
            clear hown hon
            by_cases hlti : i < L
            · have hil : (i : Int) < (L : Int) := by omega
              obtain ⟨b, hb⟩ : ∃ b, (T.map Fnd.set)[i]? = some b := ⟨_, List.getElem?_eq_getElem (by rw [List.length_map, ← HLL.out]; exact hlti)⟩
              have hbN : b < N := by rw [HN.out]; exact found_lt HG.out b (by rw [← HT.out]; exact List.mem_of_getElem? hb)
              have hb10 : b < 1024 := by omega
              have HBI2 := Lib.hid hb
              have hb0 : (0 : Int) ≤ (b : Int) := by omega
              have hbN2 : (b : Int) < (N : Int) := by omega
              have O9 := Lib.hid (show wi.ownsRow w4.heap.size 2 1 (.slice (some ⟨H, 0, none⟩) N N) N ((rowF N (midS (aftF n xss) (F kk) m (T.map Fnd.set) i b 0)).map (Value.int .i64)) by
                have h9 := HOI.out
                rw [rowF_congr (g := midS (aftF n xss) (F kk) m (T.map Fnd.set) i b 0) (fun c _ => midS_any _ _ _ _ _ _ _ c)] at h9
                exact h9)
              clear hb
              go_wp2_with fail
              clear hpc
              go_loopw [11] (fun xv wr => ∃ x : Nat, x ≤ m ∧ xv = .int .i64 x ∧ wr.ownsRow w4.heap.size 2 1 (.slice (some ⟨H, 0, none⟩) N N) N ((rowF N (midS (aftF n xss) (F kk) m (T.map Fnd.set) i b x)).map (Value.int .i64)) ∧ Only H (H + 1) w8 wr) (fun xv _ => m - (intOf xv).toNat)
              case atStart => exact ⟨0, Nat.zero_le _, rfl, O9.out, HNI.out⟩
              case round =>
                obtain ⟨x, hx, rfl, hown, hon⟩ := hrel
                obtain ⟨wx, hwx⟩ : ∃ wx, wx = wr := ⟨_, rfl⟩
                rw [← hwx] at hown hon ⊢
                clear hwx
                have HOX := Lib.hid hown
                have HNX := Lib.hid hon
                have BX := Lib.hid (Only.below B8.out hon HHB.out B8.out.size)
                have hx0 : (0 : Int) ≤ (x : Int) := by omega
                have XX := Lib.hid (Box.below X4.out BX.out)
                have q1 := XX.out 1 _ rfl
                clear hown hon
                by_cases hltx : x < m
                · have hxm : (x : Int) < (m : Int) := by omega
                  obtain ⟨row, Bx, ox, Ar, cr, hr1, hAe, hcr0, hnr⟩ := (HX4.out.below BX.out).at_ hltx
                  subst hAe
                  have hgr := HG.out.rows x row hr1
                  have hr10 : ∀ y ∈ row, 0 ≤ y ∧ y < 10 := fun y hy => by have := hgr.2 y hy; omega
                  rw [hgr.1] at hcr0 hnr
                  have HNR := Lib.hid hnr
                  have HR10 := Lib.hid hr10
                  obtain ⟨D, hD⟩ : ∃ D, D = aftB b row n := ⟨_, rfl⟩
                  have hDF : aftF n xss b x = D := by
                    rw [hD]; unfold aftF
                    rw [List.getD_eq_getElem?_getD, hr1]; rfl
                  have hDN : D < N := by rw [HN.out, ← hDF]; exact found_lt HG.out _ ((found_sets HG.out HFULL.out).2.2.2 b (by rw [← HT.out]; exact List.mem_of_getElem? HBI2.out) x hltx)
                  have HD := Lib.hid hD
                  have HDF := Lib.hid hDF
                  have hD0 : (0 : Int) ≤ (D : Int) := by omega
                  have hD1 : (D : Int) < (N : Int) := by omega
                  have hpx := (BX.out.cell (cell_lt HP4.out)).trans HP4.out
                  obtain ⟨y, b3, off3, hy, hA3, hcs⟩ := (HS4.out.below BX.out).at_ hlti
                  have hyb : y = ((b : Nat) : Int) := by have h9 := HSET.out i b HBI2.out; rw [hy] at h9; exact Option.some.inj h9
                  subst hyb
                  obtain ⟨rfl, rfl⟩ : g1 = b3 ∧ 0 = off3 := by simpa using hA3
                  rw [Nat.zero_add] at hcs
                  obtain ⟨V, hV⟩ : ∃ V, V = wr64 (F kk b) := ⟨_, rfl⟩
                  have hcv : wx.cell? ⟨gn, b, none⟩ = some (.int .i64 V) := by
                    have h9 := HNX.out.own N8.out (fun g hg => .inl (by have e : gn = g := Option.some.inj hg; have := HGN.out; omega))
                    rw [h9.cellAt b (by omega), List.getElem?_map, rowF_at _ hbN, hV]; rfl
                  obtain ⟨Y, hY⟩ : ∃ Y, Y = midS (aftF n xss) (F kk) m (T.map Fnd.set) i b x D := ⟨_, rfl⟩
                  have hcy : wx.cell? ⟨H, D, none⟩ = some (.int .i64 Y) := by rw [HOX.out.cellAt D (by omega), List.getElem?_map, rowF_at _ hDN, hY]; rfl
                  have hfy : wx.frozen? ⟨H, D, none⟩ = false := HOX.out.frozenAt D
                  have HSUM := Lib.hid (show wrap64 (Y + V) = wr64 ((sumL (fun b' => F kk b' * hitN (aftF n xss) b' D m) ((T.map Fnd.set).take i) + F kk b * hitN (aftF n xss) b D x) + F kk b) by
                    rw [hY, hV]; unfold midS; exact wr64_add _ _)
                  clear hr1 hgr hr10 hnr hD hDF hV hY hy hA3
                  go_wp2_with fail
                  go_still_tail 28, (by kernel_rfl)
                  still_call ((l02Moved_any Ar n cr b row _ hb10 (by first | exact HNR.out | exact HNR.out.drew) hn10 HR10.out).mono (fun _ _ hh => ⟨by rw [hh.1, ← HD.out], hh.2.symm⟩))
                  repeat still_step
                  try refine wpStill_nil ?_
                  obtain ⟨w9, hw9⟩ : ∃ w9, w9 = wx.drew := ⟨_, rfl⟩
                  have b9 : Below wx.heap.size wx w9 := by rw [hw9]; exact below_drewN' (Below.refl _ _) 1
                  have HO9 := Lib.hid (own_below HOX.out b9)
                  have HN9 := Lib.hid (HNX.out.trans (Only.of_below b9 H (H + 1)))
                  have hc9 := (b9.cell (cell_lt hcy)).trans hcy
                  have hf9 : w9.frozen? ⟨H, D, none⟩ = false := HO9.out.frozenAt D
                  have HST := Lib.hid (midS_own HO9.out HDF.out HSUM.out)
                  have HO10 := Lib.hid (HN9.out.trans (only_setCell w9 H D (.int .i64 (wrap64 (Y + V)))))
                  change wpList _ _ _ _ _ wx.drew
                  rw [← hw9]
                  clear hw9 b9 hcy hfy hcs hcv hpx hcr0 q1
                  go_wp2_with fail
                  go_roundw
                  case rel => exact ⟨x + 1, by omega, by go_num, HST.out, HO10.out⟩
                  case measure => simp [intOf]; omega
                · have hxe : x = m := by omega
                  have HON := Lib.hid (show wx.ownsRow w4.heap.size 2 1 (.slice (some ⟨H, 0, none⟩) N N) N ((rowF N (midS (aftF n xss) (F kk) m (T.map Fnd.set) (i + 1) 0 0)).map (Value.int .i64)) by
                    have h9 := HOX.out
                    rw [hxe, rowF_congr (fun c _ => midS_row HBI2.out c)] at h9
                    exact h9)
                  clear hxe
                  go_wp2_with fail
                  go_roundw
                  case rel => exact ⟨i + 1, by omega, by go_num, HON.out, HNX.out⟩
                  case measure => simp [intOf]; omega
            · have hie : i = L := by omega
              have HON := Lib.hid (show wi.ownsRow w4.heap.size 2 1 (.slice (some ⟨H, 0, none⟩) N N) N ((rowF N (fun b => wr64 (F (kk + 1) b))).map (Value.int .i64)) by
                have h9 := HOI.out
                rw [hie, HLL.out, HT.out, HFE.out, rowF_congr (fun c _ => midS_all HG.out HFULL.out c)] at h9
                rw [HFE.out]
                exact h9)
              clear hie
              go_wp2_with fail
              go_roundw
              case rel => exact ⟨kk + 1, H, by omega, by go_num, rfl, HON.out, BI.out⟩
              case measure => simp [intOf]; omega
        · have hke : kk = k := by omega
          have OK := Lib.hid (show wk.ownsRow w4.heap.size 2 1 (.slice (some ⟨gn, 0, none⟩) N N) N ((rowF N (fun b => wr64 (F k b))).map (Value.int .i64)) by rw [← hke]; exact HO.out)
          clear hke
          go_wp2_with fail
          go_loopw [12, 13] (fun sv iv wr => ∃ i : Nat, i ≤ L ∧ iv = .int .i64 i ∧ sv = .int .i64 (wr64 (goalS (F k) mergedB ((T.map Fnd.set).take i))) ∧ Below wk.heap.size wk wr) (fun _ iv _ => L - (intOf iv).toNat)
          case atStart => exact ⟨0, Nat.zero_le _, rfl, by show Value.int .i64 0 = .int .i64 (wr64 0); rw [wr64_0], Below.refl _ _⟩
          case round =>
            obtain ⟨i, hi, rfl, rfl, hbel⟩ := hrel
            obtain ⟨wi, hwi⟩ : ∃ wi, wi = wr := ⟨_, rfl⟩
            rw [← hwi] at hbel ⊢
            clear hwi
            have HBI := Lib.hid hbel
            have BI := Lib.hid (below_then HB.out hbel)
            have hi0 : (0 : Int) ≤ (i : Int) := by omega
            have hpc := (BI.out.cell (cell_lt HP4.out)).trans HP4.out
            obtain ⟨Z, hZ⟩ : ∃ Z, Z = goalS (F k) mergedB ((T.map Fnd.set).take i) := ⟨_, rfl⟩
            rw [← hZ]
            have HZ := Lib.hid hZ
            obtain ⟨ZW, hZW⟩ : ∃ ZW, ZW = wr64 Z := ⟨_, rfl⟩
            rw [← hZW]
            have HZW := Lib.hid hZW
            clear hbel hZ hZW
            by_cases hlti : i < L
            · have hil : (i : Int) < (L : Int) := by omega
              obtain ⟨b, hb⟩ : ∃ b, (T.map Fnd.set)[i]? = some b := ⟨_, List.getElem?_eq_getElem (by rw [List.length_map, ← HLL.out]; exact hlti)⟩
              have hbN : b < N := by rw [HN.out]; exact found_lt HG.out b (by rw [← HT.out]; exact List.mem_of_getElem? hb)
              have hb10 : b < 1024 := by omega
              have HBI2 := Lib.hid hb
              have hb0 : (0 : Int) ≤ (b : Int) := by omega
              have hbN2 : (b : Int) < (N : Int) := by omega
              obtain ⟨y, b3, off3, hy, hA3, hcs⟩ := (HS4.out.below BI.out).at_ hlti
              have hyb : y = ((b : Nat) : Int) := by have h9 := HSET.out i b HBI2.out; rw [hy] at h9; exact Option.some.inj h9
              subst hyb
              obtain ⟨rfl, rfl⟩ : g1 = b3 ∧ 0 = off3 := by simpa using hA3
              rw [Nat.zero_add] at hcs
              obtain ⟨V, hV⟩ : ∃ V, V = wr64 (F k b) := ⟨_, rfl⟩
              have hcv : wi.cell? ⟨gn, b, none⟩ = some (.int .i64 V) := by
                rw [(own_below OK.out HBI.out).cellAt b (by omega), List.getElem?_map, rowF_at _ hbN, hV]; rfl
              have HV := Lib.hid hV
              clear hb hy hA3 hV
              by_cases h1 : Lib.onesCount b ≤ 1
              · have HST := Lib.hid (show wrap64 (ZW + V) = wr64 (goalS (F k) mergedB ((T.map Fnd.set).take (i + 1))) by
                  rw [goal_take HBI2.out, if_pos (by unfold mergedB; simpa using h1), HZW.out, HV.out, ← HZ.out]; exact wr64_add _ _)
                go_wp2_with fail
                refine (l02Single_any b wi hb10).mono ?_
                rw [decide_eq_true h1]
                rintro e w9 ⟨rfl, rfl⟩
                clear h1
                go_wp2_with fail
                go_roundw
                case rel => exact ⟨i + 1, by omega, by go_num, by rw [HST.out], HBI.out⟩
                case measure => simp [intOf]; omega
              · have HST := Lib.hid (show ZW = wr64 (goalS (F k) mergedB ((T.map Fnd.set).take (i + 1))) by
                  rw [goal_take HBI2.out, if_neg (by unfold mergedB; simpa using h1), HZW.out, ← HZ.out, Int.add_zero])
                go_wp2_with fail
                refine (l02Single_any b wi hb10).mono ?_
                rw [decide_eq_false h1]
                rintro e w9 ⟨rfl, rfl⟩
                clear h1
                go_wp2_with fail
                go_roundw
                case rel => exact ⟨i + 1, by omega, by go_num, by rw [HST.out], HBI.out⟩
                case measure => simp [intOf]; omega
            · have hie : i = L := by omega
              have HFIN := Lib.hid (show R = (ZW, 0) from by
                rw [HF.out, HZW.out, HZ.out, hie, HLL.out, List.take_of_length_le (by rw [List.length_map]; exact Nat.le_refl _), HT.out, HFE.out, goal_all HG.out HFULL.out])
              clear hie
              go_wp2_with fail
              go_ret2
              exact ⟨ret_pair HFIN.out, below_then W4.out BI.out⟩

end Go.Proofs.Ytdelanjkaokiaaa
