/-
  The best letter for a set: the program's letterFor and AdaptiveLetter.
-/
import Derived.Test.YtdelanjkaokiaaaLetD
import Derived.Test.YtdelanjkaokiaaaAdP
import Derived.Deep.RegionLaw
namespace Go.Proofs.Ytdelanjkaokiaaa
open Go.RowKit Go.Deep Go.ChangeShapes Go.WideShapes

theorem depAt_of {w : World} {base G : Nat} {f : Nat → Int} {M : Array Value} (h : w.heap[G]? = some (.cells M 76 (0, 0))) (hs : M.size = 1024) (hM : M.toList = (rowF 1024 f).map (Value.int .i64)) (hb : base ≤ G) : DepAt w base G f := by
  refine ⟨by rw [List.length_map, rowF_len], .inr ⟨G, 1024, M, rfl, hb, h, Nat.le_refl _, by unfold maxLen; omega, by rw [hs], ?_⟩⟩
  rw [← hM]
  exact List.take_of_length_le (by rw [Array.length_toList, hs]; omega)

set_option maxRecDepth 100000 in
set_option maxHeartbeats 4000000 in
theorem letterFor_any (baseA ALL : Nat) (e : Nat → Int) (A : Option Addr) (n mm c : Nat) (xss : List (List Int)) (B : Option Addr) (d : Nat) (ls : List Int) (b : Nat) (w : World) (hg : GoodL n mm xss ls) (h : RowsAt w A mm xss) (g : NumsAt w B n ls) (hA : DepAt w baseA ALL e) (hb : b < 1024) (he0 : 0 ≤ e b) (he1 : e b ≤ 1024) :
    Calls Try.prog 56 #[.pointer (some ⟨ALL, 0, none⟩), .agg #[.int .i64 (n : Int), .slice A mm c, .slice B n d], .int .u16 (b : Int)] w fun r w' => r = .returned (.int .i64 (placeOf (rowF mm (fun x => worstN e (belB n xss ls b x) 4)) (e b - 1) 0)) ∧ Below w.heap.size w w' := by
  have hm3 : mm ≤ 3 := hg.good.m3
  obtain ⟨w1, hw1⟩ : ∃ w1, w1 = w.alloc (.cells #[.int .i64 (n : Int), .slice A mm c, .slice B n d] 33) := ⟨_, rfl⟩
  have b1 : Below w.heap.size w w1 := by rw [hw1]; exact (Below.refl _ _).alloc (Nat.le_refl _) _
  have X1 := Lib.hid (show LBox w1 w.heap.size (n : Int) A mm c B n d by rw [hw1]; exact Box.new _ _ _)
  have HX := Lib.hid (h.below b1)
  have HY := Lib.hid (g.below b1)
  have HA1 := Lib.hid (show DepAt w1 baseA ALL e from own_below hA b1)
  have HG := Lib.hid hg
  have BB := Lib.hid b1
  have HW := Lib.hid hw1
  obtain ⟨E, hE⟩ : ∃ E, E = e b := ⟨_, rfl⟩
  have hcE : w1.cell? ⟨ALL, b, none⟩ = some (.int .i64 E) := by rw [hE]; exact HA1.out.cell hb
  rw [← hE] at he0 he1 ⊢
  have hb0 : (0 : Int) ≤ (b : Int) := by omega
  have hb10 : (b : Int) < 1024 := by omega
  obtain ⟨G, hGe⟩ : ∃ G, G = rowF mm (fun x => worstN e (belB n xss ls b x) 4) := ⟨_, rfl⟩
  rw [← hGe]
  have HGE := Lib.hid hGe
  have HWR := Lib.hid (show IntKind.i64.wrap (E - 1) = E - 1 from IntWalk.i64_in _ (by omega))
  have R1 := Lib.hid (show ∀ W', Below w1.heap.size w1 W' → W'.cell? ⟨ALL, b, none⟩ = some (.int .i64 E) from fun W' hb => (hb.cell (cell_lt hcE)).trans hcE)
  clear h g hA b1 hw1 hg hE hGe
  go_enter Try.func56, Try.ntmps56
  go_upto_region 1 with fail
  rw [← HW.out]
  have q0 := X1.out 0 _ rfl
  have q1 := X1.out 1 _ rfl
  have q2 := X1.out 2 _ rfl
  go_region_law
    (first
      | (go_simp; go_at_call 99
         refine (behindLetters_any baseA ALL e A n mm c xss B d ls b _ HG.out (by first | exact HX.out | exact HX.out.drew) (by first | exact HY.out | exact HY.out.drew) (by first | exact HA1.out | exact own_below HA1.out (below_drewN' (Below.refl _ _) 1)) hb).mono ?_
         rw [← HGE.out]
         rintro e' w5 ⟨GA, rfl, o5, b5⟩
         have B5 : Hid (Below w1.heap.size w1 w5) := Lib.hid (by first | exact b5 | exact below_then (below_drewN' (Below.refl _ _) 1) b5)
         have N5 := Lib.hid (NumsAt.own o5 (by rw [HGE.out, rowF_len]) rfl)
         have hcE5 := R1.out w5 B5.out
         clear b5 o5)
      | (go_simp; rw [HWR.out]; go_at_call 98
         refine (slIndex_any _ mm mm G (E - 1) _ (by first | exact N5.out | exact N5.out.drew) (by omega)).mono ?_
         rintro e' w6 ⟨rfl, rfl⟩)
      | fail)
  all_goals
    go_wp2_with fail
    go_ret
    exact ⟨rfl, by first | exact below_then BB.out B5.out | exact below_then (below_then BB.out B5.out) (below_drewN' (Below.refl _ _) 1)⟩

set_option maxRecDepth 100000 in
set_option maxHeartbeats 4000000 in
theorem implAdaptiveLetter_any (s : Int) (A : Option Addr) (n c : Nat) (xss : List (List Int)) (B : Option Addr) (m d : Nat) (ls : List Int) (A2 : Option Addr) (l cap : Nat) (set : List Int) (w : World) (h : RowsAt w A n xss) (hn : n ≤ 4611686018427387904)
    (hrows : ∀ (r : Nat) (xs : List Int), xss[r]? = some xs → xs.length ≤ 4611686018427387904) (g : NumsAt w B m ls) (hm : m ≤ 4611686018427387904) (hs : NumsAt w A2 l set) (hl : l ≤ 4611686018427387904) :
    Calls Try.prog 19 #[.agg #[.int .i64 s, .slice A n c, .slice B m d], .slice A2 l cap] w fun e w' => e = .returned (.tuple #[.int .i64 (adaptiveLetter s xss ls set).1, .int .i64 (adaptiveLetter s xss ls set).2]) ∧ Below w.heap.size w w' := by
  have HR := Lib.hid hrows
  have HL := Lib.hid h.1
  obtain ⟨R, hR⟩ : ∃ R, R = adaptiveLetter s xss ls set := ⟨_, rfl⟩
  rw [← hR]
  have HRR := Lib.hid hR
  clear hrows hR
  obtain ⟨w1, hw1⟩ : ∃ w1, w1 = w.alloc (.cells #[.int .i64 s, .slice A n c, .slice B m d] 33) := ⟨_, rfl⟩
  have b1 : Below w.heap.size w w1 := by rw [hw1]; exact (Below.refl _ _).alloc (Nat.le_refl _) _
  have X1 := Lib.hid (show LBox w1 w.heap.size s A n c B m d by rw [hw1]; exact Box.new _ _ _)
  have HX := Lib.hid (h.below b1)
  have HY := Lib.hid (g.below b1)
  have HS := Lib.hid (hs.below b1)
  have BB := Lib.hid b1
  have HW := Lib.hid hw1
  clear h g hs b1 hw1
  go_enter Try.func19, Try.ntmps19
  go_upto_region 1 with fail
  rw [← HW.out]
  have q0 := X1.out 0 _ rfl
  have q1 := X1.out 1 _ rfl
  have q2 := X1.out 2 _ rfl
  go_wp2_with fail
  refine (checkDepth0_any s A n c xss B m d ls A2 l cap set w1 HX.out hn HR.out HY.out hm HS.out hl).mono ?_
  rintro e w2 ⟨M, rfl, hM1, hM2, hM3, b2⟩
  have MS := Lib.hid hM1
  have MO := Lib.hid hM2
  have MT := Lib.hid hM3
  have X1 := Lib.hid (show LBox w2 w.heap.size s A n c B m d from Box.below X1.out b2)
  have HX := Lib.hid (HX.out.below b2)
  have HY := Lib.hid (HY.out.below b2)
  have HS := Lib.hid (HS.out.below b2)
  have BB := Lib.hid (below_then BB.out b2)
  obtain ⟨C, hC⟩ : ∃ C, C = checkCode s xss ls set := ⟨_, rfl⟩
  rw [← hC] at MT ⊢
  have HC := Lib.hid hC
  clear q0 q1 q2 hM1 hM2 hM3 b2 hC
  go_upto_region 2 with (first
    | (refine wpList_store_mid rfl 76 _ _ rfl w2.heap.size 0 M rfl rfl (there_of (heap_alloc_new w2 (.cells Try.zeroCells76 76)) (by rw [MS.out, zeros_size]; exact Nat.le_refl _)) (by rw [MS.out]; exact size_deps) MO.out ?_))
  obtain ⟨w7, hw7⟩ : ∃ w7, w7 = (w2.alloc (.cells Try.zeroCells76 76)).setCells w2.heap.size 0 M.toList := ⟨_, rfl⟩
  have h7 : w7.heap[w2.heap.size]? = some (.cells M 76 (0, 0)) := by
    have hw := setCells_whole (vs := M.toList) (heap_alloc_new w2 (.cells Try.zeroCells76 76)) (by rw [Array.length_toList, MS.out, zeros_size])
    rw [Array.toArray_toList] at hw
    rw [hw7]
    exact hw
  have b7 : Below w2.heap.size w2 w7 := by rw [hw7]; exact setCells_below (Nat.le_refl _) _ _ _ ((Below.refl _ _).alloc (Nat.le_refl _) _)
  rw [← hw7]
  clear hw7
  have X1 := Lib.hid (show LBox w7 w.heap.size s A n c B m d from Box.below X1.out b7)
  have HX := Lib.hid (HX.out.below b7)
  have HY := Lib.hid (HY.out.below b7)
  have HS := Lib.hid (HS.out.below b7)
  have BB := Lib.hid (below_then BB.out b7)
  have H7 := Lib.hid h7
  obtain ⟨Q, hQ⟩ : ∃ Q, Q = w2.heap.size := ⟨_, rfl⟩
  rw [← hQ] at H7 ⊢
  clear b7 h7 hQ
  rcases hc0 : (C != 0) with _ | _
  · have hCe : C = 0 := by simpa using hc0
    have hcc : checkCode s xss ls set = 0 := by rw [← HC.out]; exact hCe
    obtain ⟨N, hsN, hg, hse, hdp, had⟩ := adaptiveDepth_yes hcc
    subst hsN
    have HG := Lib.hid (show GoodL N n xss ls by have := HL.out; rw [← this]; exact hg)
    have HNX := Lib.hid (show n = xss.length from HL.out.symm)
    have hmN : m = N := by rw [← HY.out.1]; exact hg.len
    subst hmN
    have hN10 : m ≤ 10 := hg.good.n10
    have hmem : ∀ y ∈ set, 0 ≤ y ∧ y < 10 := fun y hy => by have := setB_mem hse y hy; omega
    have HMEM := Lib.hid hmem
    have hSN := setN_ltN hse
    have hp2 := pow_le hN10
    obtain ⟨S, hS⟩ : ∃ S, S = setN set := ⟨_, rfl⟩
    rw [← hS] at hSN
    have HSS := Lib.hid hS
    have hS10 : S < 1024 := by omega
    have HSN := Lib.hid hSN
    obtain ⟨V, hV⟩ : ∃ V, V = deepN m xss ls set := ⟨_, rfl⟩
    have HDV := Lib.hid (show deepN m xss ls set = depF n (belB m xss ls) S by unfold deepN; rw [HL.out, hS])
    have HVV := Lib.hid (show V = depF n (belB m xss ls) S from hV.trans HDV.out)
    obtain ⟨T, hT⟩ : ∃ T, T = tabF n (belB m xss ls) (2 ^ m) 1024 := ⟨_, rfl⟩
    have HT := Lib.hid hT
    have HTV := Lib.hid (show T S = V by
      rw [hT, HVV.out]
      unfold tabF depF
      rw [if_pos hSN, if_pos]
      rw [HDV.out] at hdp
      exact hdp)
    have HDA := Lib.hid (show DepAt w7 Q Q T from by
      exact depAt_of H7.out MS.out (show M.toList = (rowF 1024 T).map (Value.int .i64) by rw [MT.out hCe, Int.toNat_natCast, hT]) (Nat.le_refl _))
    have HV0 := Lib.hid (show 0 ≤ V by rw [hV]; exact hdp)
    have HCC := Lib.hid hcc
    have hVle : V ≤ 1024 := by rw [HVV.out]; exact depN_le 1024 S
    have HVL := Lib.hid hVle
    clear hcc hg hse hdp had hmem hSN hp2 hS hCe hT
    go_wp2_with fail
    refine (setOf_any A2 l cap set w7 HS.out HMEM.out hl).mono ?_
    rw [← HSS.out]
    rintro e w8 ⟨rfl, rfl⟩
    by_cases hmer : Lib.onesCount S ≤ 1
    · have HF := Lib.hid (show R = (0, 4) from HRR.out.trans (adaptiveLetter_4 HCC.out (by rw [HDV.out]; exact depN_merged hmer 1024)))
      go_wp2_with fail
      refine (isMerged_any S w7 hS10).mono ?_
      rw [decide_eq_true hmer]
      rintro e w9 ⟨rfl, k9, rfl⟩
      clear hmer
      go_wp2_with fail
      go_ret2
      exact ⟨ret_pair HF.out, below_drewN' BB.out _⟩
    · have hVn : ¬ deepN m xss ls set = 0 := by rw [HDV.out]; exact depN_pos hmer 1024
      have HF := Lib.hid (show R = (letZ m xss ls S, 0) from HRR.out.trans ((adaptiveLetter_0 HCC.out hVn).trans (by rw [HSS.out])))
      have HPOS := Lib.hid (show 0 < depF n (belB m xss ls) S by have h1 := HV0.out; rw [HDV.out] at hVn; rw [HVV.out] at h1; omega)
      have HLZ := Lib.hid (show placeOf (rowF n (fun x => worstN T (belB m xss ls S x) 4)) (T S - 1) 0 = letZ m xss ls S by rw [HT.out]; exact letZ_tab HG.out HNX.out HSN.out HPOS.out)
      clear hVn
      go_wp2_with fail
      refine (isMerged_any S w7 hS10).mono ?_
      rw [decide_eq_false hmer]
      rintro e w9 ⟨rfl, k9, hk9⟩
      have b9 : Below w7.heap.size w7 w9 := by rw [hk9]; exact below_drewN' (Below.refl _ _) _
      have X1 := Lib.hid (show LBox w9 w.heap.size (m : Int) A n c B m d from Box.below X1.out b9)
      have HX := Lib.hid (HX.out.below b9)
      have HY := Lib.hid (HY.out.below b9)
      have HDA := Lib.hid (show DepAt w9 Q Q T from own_below HDA.out b9)
      have BB := Lib.hid (below_then BB.out b9)
      have q0 := X1.out 0 _ rfl
      have q1 := X1.out 1 _ rfl
      have q2 := X1.out 2 _ rfl
      clear hmer b9 hk9
      go_wp2_with fail
      refine (letterFor_any Q Q T A m n c xss B d ls S w9 HG.out HX.out HY.out HDA.out hS10 (by rw [HTV.out]; exact HV0.out) (by rw [HTV.out]; exact HVL.out)).mono ?_
      rw [HLZ.out]
      rintro e w10 ⟨rfl, b10⟩
      have BB := Lib.hid (below_then BB.out b10)
      clear b10
      go_wp2_with fail
      go_ret2
      exact ⟨ret_pair HF.out, BB.out⟩
  · have hCe : ¬ checkCode s xss ls set = 0 := by rw [← HC.out]; simpa using hc0
    have HF := Lib.hid (show R = (0, C) from HRR.out.trans (adaptiveLetter_no HC.out.symm (by rw [HC.out]; exact hCe)))
    clear hCe
    go_wp2_with fail
    go_ret2
    exact ⟨ret_pair HF.out, BB.out⟩

end Go.Proofs.Ytdelanjkaokiaaa
