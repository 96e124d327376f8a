/-
  The words of a length by their ranks: what CountByRank answers, and the model's contract.
-/
import Derived.Test.YtdelanjkaokiaaaCntS
import Derived.Test.YtdelanjkaokiaaaCntP
import Derived.Deep.RegionHeld
namespace Go.Proofs.Ytdelanjkaokiaaa
open Go.RowKit Go.Deep Go.ChangeShapes Go.WideShapes
open Hunt Srch Moved From

theorem only_drewN {lo hi : Nat} {a w : World} (h : Only lo hi a w) (n : Nat) : Only lo hi a (w.drewN n) := ⟨h.os, h.tape, h.output, h.size, h.block⟩
theorem countByRank_len (s : Int) (xss : List (List Int)) (k : Int) : (countByRank s xss k).1.length ≤ 11 := by
  unfold countByRank
  by_cases h1 : okA s xss = true
  · rw [if_pos h1]
    by_cases h2 : 0 ≤ k ∧ k ≤ 20
    · rw [if_pos h2]
      obtain ⟨n, rfl, hg⟩ := good_of h1 rfl
      have := hg.n10
      show (rowF _ _).length ≤ 11
      rw [rowF_len, Int.toNat_natCast]
      omega
    · rw [if_neg h2]; exact Nat.zero_le _
  · rw [if_neg h1]; exact Nat.zero_le _
theorem full_cnt : ∀ n, n < 11 → cnt (2 ^ n - 1) = n := by decide +kernel
theorem found_ones {n m : Nat} {xss : List (List Int)} (hg : Good n m xss) : ∀ b ∈ (fnd n m xss 1024 (2 ^ n - 1)).map Fnd.set, Lib.onesCount b ≤ n := by
  intro b hb
  have hlt := found_lt hg b hb
  obtain ⟨f, hf, rfl⟩ := List.mem_map.1 hb
  obtain ⟨h1, h2⟩ := found_word hf
  have hin : In n f.set := by rw [h1]; exact (goW_in (acts hg) _ _ h2 (full_in n)).1
  have h3 := cnt_sub hin (full_in n) hg.n10 (fun q hq => full_bit (hin q hq))
  rw [full_cnt n (by have := hg.n10; omega)] at h3
  rw [ones_cnt (by have := pow_le hg.n10; omega)]
  exact h3
theorem rank_step {F : Nat → Int} {S : List Nat} {i b C : Nat} (h : S[i]? = some b) (hC : C = Lib.onesCount b) : (fun r => if r = C then wr64 (goalS F (rankP C) (S.take i) + F b) else wr64 (goalS F (rankP r) (S.take i))) = fun r => wr64 (goalS F (rankP r) (S.take (i + 1))) := by
  funext r
  rw [goal_take h]
  by_cases e : r = C
  · subst e
    rw [if_pos rfl, if_pos (by unfold rankP; simp [hC])]
  · rw [if_neg e, if_neg (by unfold rankP; simp; omega), Int.add_zero]

/-- The number that lies in a cell. -/
def cellI (w : World) (H C : Nat) : Int := match w.cell? ⟨H, C, none⟩ with
  | some (.int _ x) => x
  | _ => 0
theorem cellI_eq {w : World} {H C : Nat} {Y : Int} (h : w.cell? ⟨H, C, none⟩ = some (.int .i64 Y)) : cellI w H C = Y := by unfold cellI; rw [h]
theorem cellI_of {w : World} {H C : Nat} {Y : Int} (h : w.cell? ⟨H, C, none⟩ = some (.int .i64 Y)) : w.cell? ⟨H, C, none⟩ = some (.int .i64 (cellI w H C)) := by rw [cellI_eq h]; exact h
theorem cellI_drew {w : World} {H C : Nat} (h : w.cell? ⟨H, C, none⟩ = some (.int .i64 (cellI w H C))) (n : Nat) : (w.drewN n).cell? ⟨H, C, none⟩ = some (.int .i64 (cellI (w.drewN n) H C)) := h
theorem cell_put {w : World} {base H c N C : Nat} {L : List Int} (h : w.ownsRow base 2 1 (.slice (some ⟨H, 0, none⟩) N c) N (L.map (Value.int .i64))) (hC : C < N) (v : Int) : (w.setCell ⟨H, C, none⟩ (.int .i64 v)).cell? ⟨H, C, none⟩ = some (.int .i64 v) := by
  have h1 := (h.stored C (.int .i64 v)).1
  have hl : C < L.length := by have := h.1; rw [List.length_map] at this; omega
  rw [h1.cellAt C (by omega), List.getElem?_set_self (by rw [List.length_map]; exact hl)]
theorem rank_own {w : World} {base H c N i b C : Nat} {F : Nat → Int} {S : List Nat} {v : Int} (h : w.ownsRow base 2 1 (.slice (some ⟨H, 0, none⟩) N c) N ((rowF N (fun r => wr64 (goalS F (rankP r) (S.take i)))).map (Value.int .i64))) (hb : S[i]? = some b) (hC : C = Lib.onesCount b)
    (hv : v = wr64 (goalS F (rankP C) (S.take i) + F b)) :
    (w.setCell ⟨H, C, none⟩ (.int .i64 v)).ownsRow base 2 1 (.slice (some ⟨H, 0, none⟩) N c) N ((rowF N (fun r => wr64 (goalS F (rankP r) (S.take (i + 1))))).map (Value.int .i64)) := by
  subst hv
  have h9 := own_storeF h C (wr64 (goalS F (rankP C) (S.take i) + F b))
  rw [rank_step hb hC] at h9
  exact h9

set_option maxRecDepth 100000 in
set_option maxHeartbeats 16000000 in
theorem specCountByRank_any (s : Int) (A : Option Addr) (m cap : Nat) (xss : List (List Int)) (k : Int) (w : World) (h : RowsAt w A m xss) (hm : m ≤ 4611686018427387904)
    (hrows : ∀ (r : Nat) (xs : List Int), xss[r]? = some xs → xs.length ≤ 4611686018427387904) :
    Calls Try.prog 30 #[.agg #[.int .i64 s, .slice A m cap], .int .i64 k] w (ListsTo (countByRank s xss k) w) := by
  have HR := Lib.hid hrows
  have HM := Lib.hid h.1
  obtain ⟨R, hR⟩ : ∃ R, R = countByRank s xss k := ⟨_, rfl⟩
  rw [← hR]
  have HRR := Lib.hid hR
  obtain ⟨w1, hw1⟩ : ∃ w1, w1 = w.alloc (.cells #[.int .i64 s, .slice A m cap] 31) := ⟨_, rfl⟩
  have b1 : Below w.heap.size w w1 := by rw [hw1]; exact (Below.refl _ _).alloc (Nat.le_refl _) _
  have X1 := Lib.hid (show Box w1 w.heap.size [.int .i64 s, .slice A m cap] by rw [hw1]; exact Box.new _ _ _)
  have HX1 := Lib.hid (h.below b1)
  have W1 := Lib.hid b1
  have HW := Lib.hid hw1
  clear h hrows hR b1 hw1
  go_enter Try.func30, Try.ntmps30
  go_wp2_with fail
  rw [← HW.out]
  refine (l01Ok_any w.heap.size s A m cap xss w1 (X1.out 0 _ rfl) (X1.out 1 _ rfl) HX1.out hm HR.out).mono ?_
  rintro e w2 ⟨rfl, k2, hk2⟩
  have b2 : Below w1.heap.size w1 w2 := by rw [hk2]; exact below_drewN' (Below.refl _ _) _
  have X2 := Lib.hid (Box.below X1.out b2)
  have HX2 := Lib.hid (HX1.out.below b2)
  have W2 := Lib.hid (below_then W1.out b2)
  clear b2 hk2
  rcases hok : okA s xss with _ | _
  · have HF := Lib.hid (HRR.out.trans (countByRank_1 hok))
    go_wp2_with fail
    go_ret2
    exact listsTo_mk (xs := []) HF.out (own_none' rfl W2.out.size) (W2.out.alloc W2.out.size _)
  · obtain ⟨n, hsn, hg⟩ := good_of hok HM.out
    subst hsn
    have HG := Lib.hid hg
    have HOK := Lib.hid hok
    have hn10 : n ≤ 10 := hg.n10
    have hm3 : m ≤ 3 := hg.m3
    clear hg hok
    rcases hin : inB 0 20 k with _ | _
    · have HF := Lib.hid (HRR.out.trans (countByRank_2 HOK.out (by simpa [inB] using hin)))
      go_wp2_with fail
      refine (l00In_any _ _ _ _).mono ?_
      rw [hin]
      rintro e w' ⟨rfl, rfl⟩
      go_wp2_with fail
      go_ret2
      exact listsTo_mk (xs := []) HF.out (own_none' rfl W2.out.size) (W2.out.alloc W2.out.size _)
    · have hk' : 0 ≤ k ∧ k ≤ 20 := by simpa [inB] using hin
      obtain ⟨k, rfl⟩ : ∃ z : Nat, k = (z : Int) := ⟨k.toNat, by omega⟩
      have HK := Lib.hid (show k ≤ 20 by omega)
      have HF := Lib.hid (HRR.out.trans (countByRank_0 HOK.out HM.out HK.out))
      have q0 := X2.out 0 _ rfl
      have hfull : 2 ^ n - 1 < 1024 := by have := pow_le hn10; omega
      have HFULL := Lib.hid hfull
      obtain ⟨U, hU⟩ : ∃ U, U = 2 ^ n - 1 := ⟨_, rfl⟩
      have HU := Lib.hid hU
      obtain ⟨N, hN⟩ : ∃ N, N = 2 ^ n := ⟨_, rfl⟩
      have HN := Lib.hid hN
      have hN1 : N ≤ 1024 := by rw [hN]; exact pow_le hn10
      have hUN : U < N := by rw [hU, hN]; have := Nat.two_pow_pos n; omega
      have hw2 : wrap64 ((2 : Int) ^ n) = (N : Int) := by
        rw [hN, show ((2 : Int) ^ n) = ((2 ^ n : Nat) : Int) by push_cast; rfl]
        exact Moved.wrap_512' (by rw [← hN]; omega)
      have hmk := run_make_row' (P := Try.prog) 25 2 (.int .i64 0) 8 Try.underlying25 info_int64 rfl .i64 .i64 N (by omega) (by omega)
      have HMK := Lib.hid hmk
      have hNn : 0 ≤ (N : Int) := by omega
      clear hk' hfull hN hU hmk
      go_wp2_with fail
      refine (l00In_any _ _ _ _).mono ?_
      rw [hin]
      rintro e w' ⟨rfl, rfl⟩
      clear hin
      go_wp2_with fail
      refine (l02Full_any w.heap.size n w2 hn10 q0).mono ?_
      rintro e w3 ⟨rfl, k3, hk3⟩
      have b3 : Below w2.heap.size w2 w3 := by rw [hk3]; exact below_drewN' (Below.refl _ _) _
      have X3 := Lib.hid (Box.below X2.out b3)
      have HX3 := Lib.hid (HX2.out.below b3)
      have W3 := Lib.hid (below_then W2.out b3)
      clear b3 hk3 q0
      go_wp2_with fail
      refine (l02From_any w.heap.size n m cap (2 ^ n - 1) A xss w3 HG.out HX3.out (X3.out 0 _ rfl) (X3.out 1 _ rfl) (full_in n)).mono ?_
      rintro e w4 ⟨p, sb, g1, g2, g3, c1, c2, c3, rfl, hws, b4⟩
      have X4 := Lib.hid (Box.below X3.out b4)
      have HX4 := Lib.hid (HX3.out.below b4)
      have W4 := Lib.hid (below_then W3.out b4)
      obtain ⟨T, hT⟩ : ∃ T, T = fnd n m xss 1024 (2 ^ n - 1) := ⟨_, rfl⟩
      rw [← hT] at hws
      have HT := Lib.hid hT
      obtain ⟨L, hL⟩ : ∃ L, L = T.length := ⟨_, rfl⟩
      have hLT : L ≤ 1024 := by rw [hL, hT]; exact all_len (cap := 1024) (small HG.out HFULL.out)
      have hp4 : w4.cell? ⟨p, 0, none⟩ = some (.slice (some ⟨g1, 0, none⟩) L c1) := by rw [hL, ← setsL_len T]; exact cell_of_row _ _ 0 _ _ _ hws.blk
      have hs4 : NumsAt w4 (some ⟨g1, 0, none⟩) L (setsL T) := by rw [hL, ← setsL_len T]; exact NumsAt.own hws.s rfl rfl
      have HP4 := Lib.hid hp4
      have HS4 := Lib.hid hs4
      have HLL := Lib.hid hL
      have hset : ∀ i b : Nat, (T.map Fnd.set)[i]? = some b → (setsL T)[i]? = some ((b : Nat) : Int) := by
        intro i b hb
        unfold setsL
        rw [List.getElem?_map] at hb ⊢
        rcases hTi : T[i]? with _ | f
        · rw [hTi] at hb; cases hb
        · rw [hTi] at hb
          obtain rfl := Option.some.inj hb
          rfl
      have HSET := Lib.hid hset
      have q0 := X4.out 0 _ rfl
      have hmk := HMK.out
      obtain ⟨w5, hw5⟩ : ∃ w5, w5 = w4.alloc (.cells (madeCells #[.int .i64 0] N) 2) := ⟨_, rfl⟩
      have b5 : Below w4.heap.size w4 w5 := by rw [hw5]; exact (Below.refl _ _).alloc (Nat.le_refl _) _
      obtain ⟨G, hGe⟩ : ∃ G, G = w4.heap.size := ⟨_, rfl⟩
      have O5 := Lib.hid (show w5.ownsRow w4.heap.size 2 1 (.slice (some ⟨G, 0, none⟩) N N) N ((rowF N (fun _ => 0)).map (Value.int .i64)) by
        rw [← rowF_zero, hw5, Nat.mul_one, hGe]
        exact World.ownsRow_lit w4 _ N (Nat.le_refl _) (by unfold maxLen; omega) (by rw [size_madeCells, Nat.mul_one]))
      have X5 := Lib.hid (Box.below X4.out b5)
      have B5 := Lib.hid b5
      have HW5 := Lib.hid hw5
      have HGE := Lib.hid hGe
      clear hws b4 hT hL hp4 hs4 hset b5 hw5 hGe
      go_upto_region 7 with fail
      clear hmk hw2 q0
      rw [← HGE.out, ← HW5.out]
      go_wp2_with fail
      refine (l02Full_any w.heap.size n w5 hn10 (X5.out 0 _ rfl)).mono ?_
      rw [← HU.out]
      rintro e w6 ⟨rfl, k6, hk6⟩
      have b6 : Below w5.heap.size w5 w6 := by rw [hk6]; exact below_drewN' (Below.refl _ _) _
      have X6 := Lib.hid (Box.below X5.out b6)
      have B6 := Lib.hid (below_then B5.out b6)
      have O6 := Lib.hid (own_below O5.out b6)
      have hcu : w6.cell? ⟨G, U, none⟩ = some (.int .i64 0) := by rw [O6.out.cellAt U (by omega), List.getElem?_map, rowF_at _ hUN]; rfl
      have hfu : w6.frozen? ⟨G, U, none⟩ = false := O6.out.frozenAt U
      have hU0 : (0 : Int) ≤ (U : Int) := by omega
      have hUN2 : (U : Int) < (N : Int) := by omega
      obtain ⟨F, hF⟩ : ∃ F, F = cntF (aftF n xss) m (2 ^ n - 1) := ⟨_, rfl⟩
      have HFE := Lib.hid hF
      have O7 := Lib.hid (show (w6.setCell ⟨G, U, none⟩ (.int .i64 1)).ownsRow w4.heap.size 2 1 (.slice (some ⟨G, 0, none⟩) N N) N ((rowF N (fun b => wr64 (F 0 b))).map (Value.int .i64)) by
        have h9 := own_storeF O6.out U 1
        rw [rowF_congr (g := fun b => wr64 (F 0 b)) (fun b _ => by
          rw [hF]
          show (if b = U then 1 else 0) = wr64 (if b = 2 ^ n - 1 then 1 else 0)
          rw [← HU.out]
          split
          · exact wr64_1.symm
          · exact wr64_0.symm)] at h9
        exact h9)
      have B7 := Lib.hid (show Below w4.heap.size w4 (w6.setCell ⟨G, U, none⟩ (.int .i64 1)) from B6.out.setCell (by show w4.heap.size ≤ G; rw [HGE.out]; exact Nat.le_refl _) _)
      clear b6 hk6 hF
      go_wp2_with fail
      clear hcu hfu
      go_loopw [7, 8] (fun nv kv wr => ∃ (kk gn : Nat), kk ≤ k ∧ kv = .int .i64 kk ∧ nv = .slice (some ⟨gn, 0, none⟩) N N ∧ wr.ownsRow w4.heap.size 2 1 (.slice (some ⟨gn, 0, none⟩) N N) N ((rowF N (fun b => wr64 (F kk b))).map (Value.int .i64)) ∧ Below w4.heap.size w4 wr) (fun _ kv _ => k - (intOf kv).toNat)
      case atStart => exact ⟨0, G, Nat.zero_le _, rfl, rfl, O7.out, B7.out⟩
      case round =>
        obtain ⟨kk, gn, hkk, rfl, rfl, hown, hbel⟩ := hrel
        obtain ⟨wk, hwk⟩ : ∃ wk, wk = wr := ⟨_, rfl⟩
        rw [← hwk] at hown hbel ⊢
        clear hwk
        have HO := Lib.hid hown
        have HB := Lib.hid hbel
        have hkk0 : (0 : Int) ≤ (kk : Int) := by omega
        clear hown hbel
        by_cases hltk : kk < k
        · have hkl : (kk : Int) < (k : Int) := by omega
          have hk20 : (k : Int) ≤ 20 := by have := HK.out; omega
          have hmk := HMK.out
          obtain ⟨w8, hw8⟩ : ∃ w8, w8 = wk.alloc (.cells (madeCells #[.int .i64 0] N) 2) := ⟨_, rfl⟩
          have b8 : Below wk.heap.size wk w8 := by rw [hw8]; exact (Below.refl _ _).alloc (Nat.le_refl _) _
          obtain ⟨H, hH⟩ : ∃ H, H = wk.heap.size := ⟨_, rfl⟩
          have O8 := Lib.hid (show w8.ownsRow w4.heap.size 2 1 (.slice (some ⟨H, 0, none⟩) N N) N ((rowF N (midS (aftF n xss) (F kk) m (T.map Fnd.set) 0 0 0)).map (Value.int .i64)) by
            rw [rowF_congr (g := fun _ => 0) (fun b _ => midS_0 _ _ _ _ _ b), ← rowF_zero, hw8, Nat.mul_one, hH]
            exact World.ownsRow_lit wk _ N HB.out.size (by unfold maxLen; omega) (by rw [size_madeCells, Nat.mul_one]))
          have N8 := Lib.hid (own_below HO.out b8)
          have B8 := Lib.hid (below_then HB.out b8)
          have HGN := Lib.hid (show gn < H by rw [hH]; exact (HO.out.lt gn rfl).2)
          have HHB := Lib.hid (show w4.heap.size ≤ H by rw [hH]; exact HB.out.size)
          have HW8 := Lib.hid hw8
          have HHE := Lib.hid hH
          clear b8 hw8 hH
          go_upto_region 12 with fail
          clear hmk
          rw [← HHE.out, ← HW8.out]
          go_wp2_with fail
          go_loopw [10] (fun iv wr => ∃ i : Nat, i ≤ L ∧ iv = .int .i64 i ∧ wr.ownsRow w4.heap.size 2 1 (.slice (some ⟨H, 0, none⟩) N N) N ((rowF N (midS (aftF n xss) (F kk) m (T.map Fnd.set) i 0 0)).map (Value.int .i64)) ∧ Only H (H + 1) w8 wr) (fun iv _ => L - (intOf iv).toNat)
          case atStart => exact ⟨0, Nat.zero_le _, rfl, O8.out, Only.refl _ _ _⟩
          case round =>
            obtain ⟨i, hi, rfl, hown, hon⟩ := hrel
            obtain ⟨wi, hwi⟩ : ∃ wi, wi = wr := ⟨_, rfl⟩
            rw [← hwi] at hown hon ⊢
            clear hwi
            have HOI := Lib.hid hown
            have HNI := Lib.hid hon
            have BI := Lib.hid (Only.below B8.out hon HHB.out B8.out.size)
            have hi0 : (0 : Int) ≤ (i : Int) := by omega
            have hpc := (BI.out.cell (cell_lt HP4.out)).trans HP4.out
            clear hown hon
            by_cases hlti : i < L
            · have hil : (i : Int) < (L : Int) := by omega
              obtain ⟨b, hb⟩ : ∃ b, (T.map Fnd.set)[i]? = some b := ⟨_, List.getElem?_eq_getElem (by rw [List.length_map, ← HLL.out]; exact hlti)⟩
              have hbN : b < N := by rw [HN.out]; exact found_lt HG.out b (by rw [← HT.out]; exact List.mem_of_getElem? hb)
              have hb10 : b < 1024 := by omega
              have HBI2 := Lib.hid hb
              have hb0 : (0 : Int) ≤ (b : Int) := by omega
              have hbN2 : (b : Int) < (N : Int) := by omega
              have O9 := Lib.hid (show wi.ownsRow w4.heap.size 2 1 (.slice (some ⟨H, 0, none⟩) N N) N ((rowF N (midS (aftF n xss) (F kk) m (T.map Fnd.set) i b 0)).map (Value.int .i64)) by
                have h9 := HOI.out
                rw [rowF_congr (g := midS (aftF n xss) (F kk) m (T.map Fnd.set) i b 0) (fun c _ => midS_any _ _ _ _ _ _ _ c)] at h9
                exact h9)
              clear hb
              go_wp2_with fail
              clear hpc
              go_loopw [11] (fun xv wr => ∃ x : Nat, x ≤ m ∧ xv = .int .i64 x ∧ wr.ownsRow w4.heap.size 2 1 (.slice (some ⟨H, 0, none⟩) N N) N ((rowF N (midS (aftF n xss) (F kk) m (T.map Fnd.set) i b x)).map (Value.int .i64)) ∧ Only H (H + 1) w8 wr) (fun xv _ => m - (intOf xv).toNat)
              case atStart => exact ⟨0, Nat.zero_le _, rfl, O9.out, HNI.out⟩
              case round =>
                obtain ⟨x, hx, rfl, hown, hon⟩ := hrel
                obtain ⟨wx, hwx⟩ : ∃ wx, wx = wr := ⟨_, rfl⟩
                rw [← hwx] at hown hon ⊢
                clear hwx
                have HOX := Lib.hid hown
                have HNX := Lib.hid hon
                have BX := Lib.hid (Only.below B8.out hon HHB.out B8.out.size)
                have hx0 : (0 : Int) ≤ (x : Int) := by omega
                have XX := Lib.hid (Box.below X4.out BX.out)
                have q1 := XX.out 1 _ rfl
                clear hown hon
                by_cases hltx : x < m
                · have hxm : (x : Int) < (m : Int) := by omega
                  obtain ⟨row, Bx, ox, Ar, cr, hr1, hAe, hcr0, hnr⟩ := (HX4.out.below BX.out).at_ hltx
                  subst hAe
                  have hgr := HG.out.rows x row hr1
                  have hr10 : ∀ y ∈ row, 0 ≤ y ∧ y < 10 := fun y hy => by have := hgr.2 y hy; omega
                  rw [hgr.1] at hcr0 hnr
                  have HNR := Lib.hid hnr
                  have HR10 := Lib.hid hr10
                  obtain ⟨D, hD⟩ : ∃ D, D = aftB b row n := ⟨_, rfl⟩
                  have hDF : aftF n xss b x = D := by
                    rw [hD]; unfold aftF
                    rw [List.getD_eq_getElem?_getD, hr1]; rfl
                  have hDN : D < N := by rw [HN.out, ← hDF]; exact found_lt HG.out _ ((found_sets HG.out HFULL.out).2.2.2 b (by rw [← HT.out]; exact List.mem_of_getElem? HBI2.out) x hltx)
                  have HD := Lib.hid hD
                  have HDF := Lib.hid hDF
                  have hD0 : (0 : Int) ≤ (D : Int) := by omega
                  have hD1 : (D : Int) < (N : Int) := by omega
                  have hpx := (BX.out.cell (cell_lt HP4.out)).trans HP4.out
                  obtain ⟨y, b3, off3, hy, hA3, hcs⟩ := (HS4.out.below BX.out).at_ hlti
                  have hyb : y = ((b : Nat) : Int) := by have h9 := HSET.out i b HBI2.out; rw [hy] at h9; exact Option.some.inj h9
                  subst hyb
                  obtain ⟨rfl, rfl⟩ : g1 = b3 ∧ 0 = off3 := by simpa using hA3
                  rw [Nat.zero_add] at hcs
                  obtain ⟨V, hV⟩ : ∃ V, V = wr64 (F kk b) := ⟨_, rfl⟩
                  have hcv : wx.cell? ⟨gn, b, none⟩ = some (.int .i64 V) := by
                    have h9 := HNX.out.own N8.out (fun g hg => .inl (by have e : gn = g := Option.some.inj hg; have := HGN.out; omega))
                    rw [h9.cellAt b (by omega), List.getElem?_map, rowF_at _ hbN, hV]; rfl
                  obtain ⟨Y, hY⟩ : ∃ Y, Y = midS (aftF n xss) (F kk) m (T.map Fnd.set) i b x D := ⟨_, rfl⟩
                  have hcy : wx.cell? ⟨H, D, none⟩ = some (.int .i64 Y) := by rw [HOX.out.cellAt D (by omega), List.getElem?_map, rowF_at _ hDN, hY]; rfl
                  have hfy : wx.frozen? ⟨H, D, none⟩ = false := HOX.out.frozenAt D
                  have HSUM := Lib.hid (show wrap64 (Y + V) = wr64 ((sumL (fun b' => F kk b' * hitN (aftF n xss) b' D m) ((T.map Fnd.set).take i) + F kk b * hitN (aftF n xss) b D x) + F kk b) by
                    rw [hY, hV]; unfold midS; exact wr64_add _ _)
                  clear hr1 hgr hr10 hnr hD hDF hV hY hy hA3
                  go_wp2_with fail
                  go_still_tail 28, (by kernel_rfl)
                  still_call ((l02Moved_any Ar n cr b row _ hb10 (by first | exact HNR.out | exact HNR.out.drew) hn10 HR10.out).mono (fun _ _ hh => ⟨by rw [hh.1, ← HD.out], hh.2.symm⟩))
                  repeat still_step
                  try refine wpStill_nil ?_
                  obtain ⟨w9, hw9⟩ : ∃ w9, w9 = wx.drew := ⟨_, rfl⟩
                  have b9 : Below wx.heap.size wx w9 := by rw [hw9]; exact below_drewN' (Below.refl _ _) 1
                  have HO9 := Lib.hid (own_below HOX.out b9)
                  have HN9 := Lib.hid (HNX.out.trans (Only.of_below b9 H (H + 1)))
                  have hc9 := (b9.cell (cell_lt hcy)).trans hcy
                  have hf9 : w9.frozen? ⟨H, D, none⟩ = false := HO9.out.frozenAt D
                  have HST := Lib.hid (midS_own HO9.out HDF.out HSUM.out)
                  have HO10 := Lib.hid (HN9.out.trans (only_setCell w9 H D (.int .i64 (wrap64 (Y + V)))))
                  change wpList _ _ _ _ _ wx.drew
                  rw [← hw9]
                  clear hw9 b9 hcy hfy hcs hcv hpx hcr0 q1
                  go_wp2_with fail
                  go_roundw
                  case rel => exact ⟨x + 1, by omega, by go_num, HST.out, HO10.out⟩
                  case measure => simp [intOf]; omega
                · have hxe : x = m := by omega
                  have HON := Lib.hid (show wx.ownsRow w4.heap.size 2 1 (.slice (some ⟨H, 0, none⟩) N N) N ((rowF N (midS (aftF n xss) (F kk) m (T.map Fnd.set) (i + 1) 0 0)).map (Value.int .i64)) by
                    have h9 := HOX.out
                    rw [hxe, rowF_congr (fun c _ => midS_row HBI2.out c)] at h9
                    exact h9)
                  clear hxe
                  go_wp2_with fail
                  go_roundw
                  case rel => exact ⟨i + 1, by omega, by go_num, HON.out, HNX.out⟩
                  case measure => simp [intOf]; omega
            · have hie : i = L := by omega
              have HON := Lib.hid (show wi.ownsRow w4.heap.size 2 1 (.slice (some ⟨H, 0, none⟩) N N) N ((rowF N (fun b => wr64 (F (kk + 1) b))).map (Value.int .i64)) by
                have h9 := HOI.out
                rw [hie, HLL.out, HT.out, HFE.out, rowF_congr (fun c _ => midS_all HG.out HFULL.out c)] at h9
                rw [HFE.out]
                exact h9)
              clear hie
              go_wp2_with fail
              go_roundw
              case rel => exact ⟨kk + 1, H, by omega, by go_num, rfl, HON.out, BI.out⟩
              case measure => simp [intOf]; omega
        · have hke : kk = k := by omega
          have OK := Lib.hid (show wk.ownsRow w4.heap.size 2 1 (.slice (some ⟨gn, 0, none⟩) N N) N ((rowF N (fun b => wr64 (F k b))).map (Value.int .i64)) by rw [← hke]; exact HO.out)
          clear hke
          have q0 := (Box.below X4.out HB.out) 0 _ rfl
          have hmk := run_make_row' (P := Try.prog) 25 2 (.int .i64 0) 8 Try.underlying25 info_int64 rfl .i64 .i64 (n + 1) (by omega) (by omega)
          rw [show (((n + 1 : Nat)) : Int) = (n : Int) + 1 from by push_cast; rfl] at hmk
          obtain ⟨w10, hw10⟩ : ∃ w10, w10 = wk.alloc (.cells (madeCells #[.int .i64 0] (n + 1)) 2) := ⟨_, rfl⟩
          have b10 : Below wk.heap.size wk w10 := by rw [hw10]; exact (Below.refl _ _).alloc (Nat.le_refl _) _
          obtain ⟨H, hH⟩ : ∃ H, H = wk.heap.size := ⟨_, rfl⟩
          have O10 := Lib.hid (show w10.ownsRow w4.heap.size 2 1 (.slice (some ⟨H, 0, none⟩) (n + 1) (n + 1)) (n + 1) ((rowF (n + 1) (fun r => wr64 (goalS (F k) (rankP r) ((T.map Fnd.set).take 0)))).map (Value.int .i64)) by
            rw [show rowF (n + 1) (fun r => wr64 (goalS (F k) (rankP r) ((T.map Fnd.set).take 0))) = rowF (n + 1) (fun _ => 0) from rowF_congr (fun r _ => wr64_0), ← rowF_zero, hw10, Nat.mul_one, hH]
            exact World.ownsRow_lit wk _ (n + 1) HB.out.size (by unfold maxLen; omega) (by rw [size_madeCells, Nat.mul_one]))
          have OK2 := Lib.hid (own_below OK.out b10)
          have B10 := Lib.hid (below_then HB.out b10)
          have HHB := Lib.hid (show w4.heap.size ≤ H by rw [hH]; exact HB.out.size)
          have HGN := Lib.hid (show gn < H by rw [hH]; exact (OK.out.lt gn rfl).2)
          have HW10 := Lib.hid hw10
          have HHE := Lib.hid hH
          clear b10 hw10 hH
          go_upto_region 21 with fail
          clear hmk q0
          rw [← HHE.out, ← HW10.out]
          go_wp2_with fail
          go_loopw [13] (fun iv wr => ∃ i : Nat, i ≤ L ∧ iv = .int .i64 i ∧ wr.ownsRow w4.heap.size 2 1 (.slice (some ⟨H, 0, none⟩) (n + 1) (n + 1)) (n + 1) ((rowF (n + 1) (fun r => wr64 (goalS (F k) (rankP r) ((T.map Fnd.set).take i)))).map (Value.int .i64)) ∧ Only H (H + 1) w10 wr) (fun iv _ => L - (intOf iv).toNat)
          case atStart => exact ⟨0, Nat.zero_le _, rfl, O10.out, Only.refl _ _ _⟩
          case round =>
            obtain ⟨i, hi, rfl, hown, hon⟩ := hrel
            obtain ⟨wi, hwi⟩ : ∃ wi, wi = wr := ⟨_, rfl⟩
            rw [← hwi] at hown hon ⊢
            clear hwi
            have HOI := Lib.hid hown
            have HNI := Lib.hid hon
            have BI := Lib.hid (Only.below B10.out hon HHB.out B10.out.size)
            have hi0 : (0 : Int) ≤ (i : Int) := by omega
            have hpc := (BI.out.cell (cell_lt HP4.out)).trans HP4.out
            clear hown hon
            by_cases hlti : i < L
            · have hil : (i : Int) < (L : Int) := by omega
              obtain ⟨b, hb⟩ : ∃ b, (T.map Fnd.set)[i]? = some b := ⟨_, List.getElem?_eq_getElem (by rw [List.length_map, ← HLL.out]; exact hlti)⟩
              have hmemb : b ∈ (fnd n m xss 1024 (2 ^ n - 1)).map Fnd.set := by rw [← HT.out]; exact List.mem_of_getElem? hb
              have hbN : b < N := by rw [HN.out]; exact found_lt HG.out b hmemb
              have hb10 : b < 1024 := by omega
              obtain ⟨C, hC⟩ : ∃ C, C = Lib.onesCount b := ⟨_, rfl⟩
              have hCn : C < n + 1 := by rw [hC]; exact Nat.lt_succ_of_le (found_ones HG.out b hmemb)
              have HCB := Lib.hid hC
              have HBI2 := Lib.hid hb
              have hb0 : (0 : Int) ≤ (b : Int) := by omega
              have hbN2 : (b : Int) < (N : Int) := by omega
              have hC0 : (0 : Int) ≤ (C : Int) := by omega
              have hCn2 : (C : Int) < (n : Int) + 1 := by omega
              obtain ⟨y, b3, off3, hy, hA3, hcs⟩ := (HS4.out.below BI.out).at_ hlti
              have hyb : y = ((b : Nat) : Int) := by have h9 := HSET.out i b HBI2.out; rw [hy] at h9; exact Option.some.inj h9
              subst hyb
              obtain ⟨rfl, rfl⟩ : g1 = b3 ∧ 0 = off3 := by simpa using hA3
              rw [Nat.zero_add] at hcs
              obtain ⟨V, hV⟩ : ∃ V, V = wr64 (F k b) := ⟨_, rfl⟩
              have hcv : wi.cell? ⟨gn, b, none⟩ = some (.int .i64 V) := by
                have h9 := HNI.out.own OK2.out (fun g hg => .inl (by have e : gn = g := Option.some.inj hg; have := HGN.out; omega))
                rw [h9.cellAt b (by omega), List.getElem?_map, rowF_at _ hbN, hV]; rfl
              obtain ⟨Y, hY⟩ : ∃ Y, Y = wr64 (goalS (F k) (rankP C) ((T.map Fnd.set).take i)) := ⟨_, rfl⟩
              have hcy : wi.cell? ⟨H, C, none⟩ = some (.int .i64 Y) := by rw [HOI.out.cellAt C (by omega), List.getElem?_map, rowF_at _ hCn, hY]; rfl
              have hgnH : gn < H := HGN.out
              have hg1H : g1 < H := by
                obtain ⟨y4, b4', off4, _, hA4, hc4⟩ := HS4.out.at_ hlti
                obtain ⟨rfl, rfl⟩ : g1 = b4' ∧ 0 = off4 := by simpa using hA4
                exact Nat.lt_of_lt_of_le (cell_lt hc4) HHB.out
              have hpH : p < H := Nat.lt_of_lt_of_le (cell_lt HP4.out) HHB.out
              have r0 : ∀ W', Only H (H + 1) wi W' → W'.cell? ⟨p, 0, none⟩ = some (.slice (some ⟨g1, 0, none⟩) L c1) := fun W' ho => (ho.cell (cell_lt hpc) (.inl hpH)).trans hpc
              have r1 : ∀ W', Only H (H + 1) wi W' → W'.cell? ⟨g1, i, none⟩ = some (.int .i64 ((b : Nat) : Int)) := fun W' ho => (ho.cell (cell_lt hcs) (.inl hg1H)).trans hcs
              have r2 : ∀ W', Only H (H + 1) wi W' → W'.cell? ⟨gn, b, none⟩ = some (.int .i64 V) := fun W' ho => (ho.cell (cell_lt hcv) (.inl hgnH)).trans hcv
              have HSUM := Lib.hid (show wrap64 (Y + V) = wr64 (goalS (F k) (rankP C) ((T.map Fnd.set).take i) + F k b) by rw [hY, hV]; exact wr64_add _ _)
              have R4 := Lib.hid (show ∀ W', Below wi.heap.size wi W' → W'.cell? ⟨H, C, none⟩ = some (.int .i64 Y) from fun W' hb => (hb.cell (cell_lt hcy)).trans hcy)
              have o9 : Only H (H + 1) wi wi := Only.refl _ _ _
              have HCN := Lib.hid hCn
              clear hb hmemb hC hy hA3 hV hY hpc hcs hcv hcy hgnH hg1H hpH
              go_wp2_with fail
              refine wp_region_held_drew (S := (fun w' => Only H (H + 1) wi w')) (by kernel_rfl) ?_ (fun hHeld => ?_)
              · exact only_drewN o9 1
              refine wpAnyH_take (i := 0) (v := ?_) rfl (by kernel_rfl) (by kernel_rfl) (by kernel_rfl) (fun _ _ _ h => h) (Or.inl ⟨by rfl, ?_⟩) (by assumption) ?_
              rotate_left
              · (intro w hSw; (try dsimp only at hSw); go_simp; try with_reducible rfl)
              try simp only [Act.put, List.setIfInBounds_toArray]
              refine wpAnyH_take (i := 1) (v := ?_) rfl (by kernel_rfl) (by kernel_rfl) (by kernel_rfl) (fun _ _ _ h => h) (Or.inl ⟨by rfl, ?_⟩) (by assumption) ?_
              rotate_left
              · (intro w hSw; (try dsimp only at hSw); go_simp; try with_reducible rfl)
              try simp only [Act.put]
              refine wpAnyH_take (i := 2) (v := ?_) rfl (by kernel_rfl) (by kernel_rfl) (by kernel_rfl) (fun _ _ _ h => h) (Or.inl ⟨by rfl, ?_⟩) (by assumption) ?_
              rotate_left
              · (intro w hSw; (try dsimp only at hSw); go_simp; try with_reducible rfl)
              try simp only [Act.put]
              refine wpAnyH_take (i := 3) (v := ?_) rfl (by kernel_rfl) (by kernel_rfl) (by kernel_rfl) (fun _ _ _ h => h) (Or.inl ⟨by rfl, ?_⟩) (by assumption) ?_
              rotate_left
              · (intro w hSw; (try dsimp only at hSw); go_simp; try with_reducible rfl)
              try simp only [Act.put]
              refine wpAnyH_take (i := 4) (v := ?_) rfl (by kernel_rfl) (by kernel_rfl) (by kernel_rfl) (fun _ _ _ h => h) (Or.inl ⟨by rfl, ?_⟩) (by assumption) ?_
              rotate_left
              · (intro w hSw; (try dsimp only at hSw); go_simp; try with_reducible rfl)
              try simp only [Act.put]
              refine wpAnyH_take (i := 5) (v := ?_) rfl (by kernel_rfl) (by kernel_rfl) (by kernel_rfl) (fun _ _ _ h => h) (Or.inl ⟨by rfl, ?_⟩) (by assumption) ?_
              rotate_left
              · (intro w hSw; (try dsimp only at hSw); go_simp; try with_reducible rfl)
              try simp only [Act.put]
              refine wpAnyH_take (i := 6) (v := ?_) rfl (by kernel_rfl) (by kernel_rfl) (by kernel_rfl) (fun _ _ _ h => h) (Or.inl ⟨by rfl, ?_⟩) (by assumption) ?_
              rotate_left
              · (intro w hSw; (try dsimp only at hSw); go_simp; try with_reducible rfl)
              try simp only [Act.put]
              refine wpAnyH_take (i := 7) (v := ?_) rfl (by kernel_rfl) (by kernel_rfl) (by kernel_rfl) (fun _ _ _ h => h) (Or.inl ⟨by rfl, ?_⟩) (by assumption) ?_
              rotate_left
              · (intro w hSw; (try dsimp only at hSw); go_simp; try with_reducible rfl)
              try simp only [Act.put]
              refine wpAnyH_take (i := 12) (v := ?_) rfl (by kernel_rfl) (by kernel_rfl) (by kernel_rfl) (fun _ _ _ h => h) (Or.inl ⟨by rfl, ?_⟩) (by assumption) ?_
              rotate_left
              · (intro w hSw; (try dsimp only at hSw); go_simp; try with_reducible rfl)
              try simp only [Act.put]
              refine wpAnyH_take (i := 13) (v := ?_) rfl (by kernel_rfl) (by kernel_rfl) (by kernel_rfl) (fun _ _ _ h => h) (Or.inl ⟨by rfl, ?_⟩) (by assumption) ?_
              rotate_left
              · (intro w hSw; (try dsimp only at hSw); go_simp; try with_reducible rfl)
              try simp only [Act.put]
              refine wpAnyH_take (i := 14) (v := ?_) rfl (by kernel_rfl) (by kernel_rfl) (by kernel_rfl) (fun _ _ _ h => h) (Or.inl ⟨by rfl, ?_⟩) (by assumption) ?_
              rotate_left
              · (intro w hSw; (try dsimp only at hSw); go_simp; try with_reducible rfl)
              try simp only [Act.put]
              refine wpAnyH_take (i := 15) (v := ?_) rfl (by kernel_rfl) (by kernel_rfl) (by kernel_rfl) (fun _ _ _ h => h) (Or.inl ⟨by rfl, ?_⟩) (by assumption) ?_
              rotate_left
              · (intro w hSw; (try dsimp only at hSw); go_simp; try with_reducible rfl)
              try simp only [Act.put]
              refine wpAnyH_take (i := 16) (v := ?_) rfl (by kernel_rfl) (by kernel_rfl) (by kernel_rfl) (fun _ _ _ h => h) (Or.inl ⟨by rfl, ?_⟩) (by assumption) ?_
              rotate_left
              · (intro w hSw; (try dsimp only at hSw); go_simp; try with_reducible rfl)
              try simp only [Act.put]
              refine wpAnyH_take (i := 17) (v := ?_) rfl (by kernel_rfl) (by kernel_rfl) (by kernel_rfl) (fun _ _ _ h => h) (Or.inl ⟨by rfl, ?_⟩) (by assumption) ?_
              rotate_left
              · (intro w hSw; (try dsimp only at hSw); go_simp; try with_reducible rfl)
              try simp only [Act.put]
              refine wpAnyH_take (i := 18) (v := ?_) rfl (by kernel_rfl) (by kernel_rfl) (by kernel_rfl) (fun _ _ _ h => h) (Or.inl ⟨by rfl, ?_⟩) (by assumption) ?_
              rotate_left
              · (intro w hSw; (try dsimp only at hSw); go_simp; try with_reducible rfl)
              try simp only [Act.put]
              refine wpAnyH_take (i := 19) (v := ?_) rfl (by kernel_rfl) (by kernel_rfl) (by kernel_rfl) (fun _ _ _ h => h) (Or.inl ⟨by rfl, ?_⟩) (by assumption) ?_
              rotate_left
              · (intro w hSw; (try dsimp only at hSw); go_simp; try with_reducible rfl)
              try simp only [Act.put]
              refine wpAnyH_take (i := 20) (v := ?_) rfl (by kernel_rfl) (by kernel_rfl) (by kernel_rfl) (fun _ _ _ h => h) (Or.inl ⟨by rfl, ?_⟩) (by assumption) ?_
              rotate_left
              · (intro w hSw; (try dsimp only at hSw); go_simp; try with_reducible rfl)
              try simp only [Act.put]
              refine wpAnyH_take (i := 21) (v := ?_) rfl (by kernel_rfl) (by kernel_rfl) (by kernel_rfl) (fun _ _ _ h => h) (Or.inl ⟨by rfl, ?_⟩) (by assumption) ?_
              rotate_left
              · (intro w hSw; (try dsimp only at hSw); go_simp; try with_reducible rfl)
              try simp only [Act.put]
              refine wpAnyH_ready (rs := [8]) (by kernel_rfl) (by simp) ?_
              refine AllReadyH.cons rfl (fun K hK => ?_) AllReadyH.nil
              go_simp
              go_at_call 71
              refine (l02Set_any b _ hb10).mono ?_
              rw [listK_len hb10, ← HCB.out]
              rintro e w5 ⟨u, rfl, o5, b5⟩
              obtain ⟨A9, c9, rfl⟩ := own_form o5
              have B5 : Hid (Below wi.heap.size wi w5) := Lib.hid (below_then (below_drewN' (Below.refl _ _) 1) b5)
              have O5 : Only H (H + 1) wi w5 := Only.of_below B5.out _ _
              have hcy5 := R4.out w5 B5.out
              have hfy5 : w5.frozen? ⟨H, C, none⟩ = false := (own_below HOI.out B5.out).frozenAt C
              clear o5 b5
              refine hK.out _ _ O5 (fun hHeld5 => ?_)
              clear hK K
              refine wpAnyH_take (i := 9) (v := ?_) rfl (by kernel_rfl) (by kernel_rfl) (by kernel_rfl) (fun _ _ _ h => h) (Or.inl ⟨by rfl, ?_⟩) (by assumption) ?_
              rotate_left
              · (intro w hSw; (try dsimp only at hSw); go_simp; try with_reducible rfl)
              try simp only [Act.put]
              refine wpAnyH_take (i := 10) (v := ?_) rfl (by kernel_rfl) (by kernel_rfl) (by kernel_rfl) (fun _ _ _ h => h) (Or.inl ⟨by rfl, ?_⟩) (by assumption) ?_
              rotate_left
              · (intro w hSw; (try dsimp only at hSw); go_simp; try with_reducible rfl)
              try simp only [Act.put]
              refine wpAnyH_ready (rs := [11]) (by kernel_rfl) (by simp) ?_
              refine AllReadyH.cons rfl (fun K hK => ?_) AllReadyH.nil
              go_simp
              refine hK.out _ _ O5 (fun hHeld6 => ?_)
              clear hK K
              refine wpAnyH_take (i := 22) (v := ?_) rfl (by kernel_rfl) (by kernel_rfl) (by kernel_rfl) (fun _ _ _ h => h) (Or.inl ⟨by rfl, ?_⟩) (by assumption) ?_
              rotate_left
              · (intro w hSw; (try dsimp only at hSw); go_simp; try with_reducible rfl)
              try simp only [Act.put]
              refine wpAnyH_take (i := 23) (v := ?_) rfl (by kernel_rfl) (by kernel_rfl) (by kernel_rfl) (fun _ _ _ h => h) (Or.inl ⟨by rfl, ?_⟩) (by assumption) ?_
              rotate_left
              · (intro w hSw; (try dsimp only at hSw); go_simp; try with_reducible rfl)
              try simp only [Act.put]
              refine wpAnyH_ready (rs := [24]) (by kernel_rfl) (by simp) ?_
              refine AllReadyH.cons rfl (fun K hK => ?_) AllReadyH.nil
              go_simp
              refine hK.out _ _ (O5.trans (only_setCell w5 H C _)) (fun hHeld7 => ?_)
              clear hK K
              refine wpAnyH_done (by kernel_rfl) ?_ _
              have HST := Lib.hid (rank_own (own_below HOI.out B5.out) HBI2.out HCB.out (show IntKind.i64.wrap (Y + V) = wr64 (goalS (F k) (rankP C) ((T.map Fnd.set).take i) + F k b) by rw [wrap_wr]; exact HSUM.out))
              have HO2 := Lib.hid (HNI.out.trans (O5.trans (only_setCell w5 H C (.int .i64 (IntKind.i64.wrap (Y + V))))))
              obtain ⟨w7, hw7⟩ : ∃ w7, w7 = w5.setCell ⟨H, C, none⟩ (.int .i64 (IntKind.i64.wrap (Y + V))) := ⟨_, rfl⟩
              rw [← hw7] at HST HO2 ⊢
              clear hw7
              go_simp
              go_wp2_with fail
              go_roundw
              case rel => exact ⟨i + 1, by omega, by go_num, HST.out, HO2.out⟩
              case measure => simp [intOf]; omega
            · have hie : i = L := by omega
              have HON := Lib.hid (show wi.ownsRow w.heap.size 2 1 (.slice (some ⟨H, 0, none⟩) (n + 1) (n + 1)) (rowF (n + 1) (fun r => wr64 (goalS (cntF (aftF n xss) m (2 ^ n - 1) k) (rankP r) (List.range 1024)))).length ((rowF (n + 1) (fun r => wr64 (goalS (cntF (aftF n xss) m (2 ^ n - 1) k) (rankP r) (List.range 1024)))).map (Value.int .i64)) by
                have h9 := own_base HOI.out W4.out.size
                rw [hie, HLL.out, List.take_of_length_le (by rw [List.length_map]; exact Nat.le_refl _), HT.out, HFE.out, rowF_congr (fun r _ => by rw [goal_all HG.out HFULL.out])] at h9
                rw [rowF_len]
                exact h9)
              clear hie
              go_wp2_with fail
              go_ret2
              exact listsTo_mk HF.out HON.out (below_then W4.out BI.out)

end Go.Proofs.Ytdelanjkaokiaaa
