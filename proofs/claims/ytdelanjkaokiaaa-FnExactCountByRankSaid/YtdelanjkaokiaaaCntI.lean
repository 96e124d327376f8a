/-
  How many words lead to each set: the program's countByImage.
-/
import Derived.Test.YtdelanjkaokiaaaCntD
import Derived.Test.YtdelanjkaokiaaaAdI
import Derived.Test.YtdelanjkaokiaaaTab
import Derived.Deep.DeepCutAuto
namespace Go.Proofs.Ytdelanjkaokiaaa
open Go.RowKit Go.Deep Go.ChangeShapes Go.WideShapes
open Hunt Srch Moved

/-- The block of an array of 1024 numbers. -/
def CntAt (w : World) (base G : Nat) (f : Nat → Int) : Prop := w.ownsRow base 75 1 (.slice (some ⟨G, 0, none⟩) 1024 1024) 1024 ((rowF 1024 f).map (Value.int .i64))
theorem zero_cnt : Try.zeroCells75 = Array.replicate 1024 (Value.int .i64 0) := by kernel_rfl
theorem size_cnt : (Try.prog.info? 75).map (·.size) = some 1024 := by kernel_rfl
theorem zeros_list : (rowF 1024 (fun _ => 0)).map (Value.int .i64) = (Array.replicate 1024 (Value.int .i64 0)).toList := by
  unfold rowF
  rw [List.map_map, Array.toList_replicate]
  exact List.map_const' .. |>.trans (by simp)
theorem cnt_new (w : World) (base : Nat) (h : base ≤ w.heap.size) : CntAt (w.alloc (.cells (Array.replicate 1024 (Value.int .i64 0)) 75)) base w.heap.size (fun _ => 0) := by
  unfold CntAt
  rw [zeros_list]
  exact World.ownsRow_lit w _ 1024 h (by unfold maxLen; omega) (by simp)
theorem CntAt.cell {w : World} {base G : Nat} {f : Nat → Int} (h : CntAt w base G f) {b : Nat} (hb : b < 1024) : w.cell? ⟨G, b, none⟩ = some (.int .i64 (f b)) := by
  rw [World.ownsRow.cellAt h b (by omega), List.getElem?_map, rowF_at _ hb]; rfl
theorem CntAt.store {w : World} {base G b : Nat} {f : Nat → Int} (h : CntAt w base G f) (v : Int) : CntAt (w.setCell ⟨G, b, none⟩ (.int .i64 v)) base G (fun c => if c = b then v else f c) := by
  have h1 := (World.ownsRow.stored h b (.int .i64 v)).1
  rw [← List.map_set, rowF_set] at h1
  exact h1
theorem CntAt.congr {w : World} {base G : Nat} {f g : Nat → Int} (h : CntAt w base G f) (e : ∀ b, f b = g b) : CntAt w base G g := by
  rw [show g = f from funext fun b => (e b).symm]; exact h
theorem cntAt_heap {w : World} {base G : Nat} {f : Nat → Int} (h : CntAt w base G f) : ∃ M : Array Value, w.heap[G]? = some (.cells M 75 (0, 0)) ∧ M.size = 1024 ∧ M.toList = (rowF 1024 f).map (Value.int .i64) := by
  rcases h.2 with ⟨h', _⟩ | ⟨g', cap', cur, h', hb, hg, hnc, hcm, hcs, htake⟩
  · simp at h'
  · simp only [Value.slice.injEq, Option.some.injEq, Addr.mk.injEq, and_true, true_and] at h'
    obtain ⟨rfl, rfl⟩ := h'
    refine ⟨cur, hg, by omega, ?_⟩
    rw [← htake, List.take_of_length_le (by rw [Array.length_toList]; omega)]
theorem cntAt_of {w : World} {base G : Nat} {f : Nat → Int} {M : Array Value} (h : w.heap[G]? = some (.cells M 75 (0, 0))) (hs : M.size = 1024) (hM : M.toList = (rowF 1024 f).map (Value.int .i64)) (hb : base ≤ G) : CntAt w base G f := by
  refine ⟨by rw [List.length_map, rowF_len], .inr ⟨G, 1024, M, rfl, hb, h, Nat.le_refl _, by unfold maxLen; omega, by rw [hs], ?_⟩⟩
  rw [← hM]
  exact List.take_of_length_le (by rw [Array.length_toList, hs]; omega)
theorem list_one {M : Array Value} {f : Nat → Int} (hM : M.toList = (rowF 1024 f).map (Value.int .i64)) : M.all (·.oneCell') = true := by
  rw [← Array.all_toList, hM, List.all_eq_true]
  intro u hu
  obtain ⟨y, _, rfl⟩ := List.mem_map.1 hu
  rfl
theorem run_index_cnt (M : Array Value) (k : Nat) (P : Int) (w : World) (hk : k < 1024) (hM : M[k]? = some (.int .i64 P)) :
    Sem.run Try.prog (Instr.index 75 (.agg M) (.int .i64 (k : Int))) w = .ok (.int .i64 P) w := by
  have hu : Try.prog.underlying 75 = some (.array 1024 2) := Try.underlying75
  have h1 : (0 : Int) ≤ (k : Int) := by omega
  simp [Instr.index, run_underlying hu, asIntOf, h1, hk, hM, go_sem]

/-- The counts in the middle of a round: the sets below j, and the letters below x for j itself. -/
def midC (aft : Nat → Nat → Nat) (f : Nat → Int) (m j x : Nat) : Nat → Int := fun c => wr64 (sumL (fun b => f b * hitN aft b c m) (List.range j) + f j * hitN aft j c x)
theorem midC_0 (aft : Nat → Nat → Nat) (f : Nat → Int) (m c : Nat) : midC aft f m 0 0 c = 0 := by
  show wr64 (0 + f 0 * 0) = 0
  rw [Int.mul_zero]; exact wr64_0
theorem midC_row (aft : Nat → Nat → Nat) (f : Nat → Int) (m j c : Nat) : midC aft f m j m c = midC aft f m (j + 1) 0 c := by
  unfold midC
  rw [sumL_range]
  show _ = wr64 (_ + f (j + 1) * 0)
  rw [Int.mul_zero, Int.add_zero]
theorem midC_step (aft : Nat → Nat → Nat) (f : Nat → Int) (m j x c : Nat) : (if c = aft j x then wr64 ((sumL (fun b => f b * hitN aft b (aft j x) m) (List.range j) + f j * hitN aft j (aft j x) x) + f j) else midC aft f m j x c) = midC aft f m j (x + 1) c := by
  unfold midC
  rw [hit_step]
  by_cases h : c = aft j x
  · subst h; rw [if_pos rfl, if_pos rfl]
  · rw [if_neg h, if_neg h]
theorem midC_all (aft : Nat → Nat → Nat) (m b0 k c : Nat) : midC aft (cntF aft m b0 k) m 1024 0 c = wr64 (cntF aft m b0 (k + 1) c) := by
  unfold midC
  rw [cntF_succ]
  show wr64 (_ + _ * 0) = _
  rw [Int.mul_zero, Int.add_zero]

set_option maxRecDepth 100000 in
set_option maxHeartbeats 16000000 in
theorem countByImage_any (A : Option Addr) (n m c : Nat) (xss : List (List Int)) (len : Nat) (w : World) (hg : Good n m xss) (h : RowsAt w A m xss) (hlen : len ≤ 20) :
    Calls Try.prog 105 #[.agg #[.int .i64 (n : Int), .slice A m c], .int .i64 (len : Int)] w fun e w' => ∃ M : Array Value, e = .returned (.agg M) ∧ M.toList = (rowF 1024 (fun b => wr64 (cntF (aftF n xss) m (2 ^ n - 1) len b))).map (Value.int .i64) ∧ Below w.heap.size w w' := by
  have HG := Lib.hid hg
  have hn10 : n ≤ 10 := hg.n10
  have hm3 : m ≤ 3 := hg.m3
  obtain ⟨F, hF⟩ : ∃ F, F = cntF (aftF n xss) m (2 ^ n - 1) := ⟨_, rfl⟩
  rw [← hF]
  have HF := Lib.hid hF
  obtain ⟨W1, hW1⟩ : ∃ W1, W1 = w.alloc (.cells #[.int .i64 (n : Int), .slice A m c] 31) := ⟨_, rfl⟩
  obtain ⟨W2, hW2⟩ : ∃ W2, W2 = W1.alloc (.cells (Array.replicate 1024 (Value.int .i64 0)) 75) := ⟨_, rfl⟩
  obtain ⟨W3, hW3⟩ : ∃ W3, W3 = W2.alloc (.cells (Array.replicate 1024 (Value.int .i64 0)) 75) := ⟨_, rfl⟩
  have s1 : W1.heap.size = w.heap.size + 1 := by rw [hW1, World.size_alloc]
  have s2 : W2.heap.size = w.heap.size + 2 := by rw [hW2, World.size_alloc, s1]
  have s3 : W3.heap.size = w.heap.size + 3 := by rw [hW3, World.size_alloc, s2]
  have b1 : Below w.heap.size w W1 := by rw [hW1]; exact (Below.refl _ _).alloc (Nat.le_refl _) _
  have b2 : Below W1.heap.size W1 W2 := by rw [hW2]; exact (Below.refl _ _).alloc (Nat.le_refl _) _
  have b3 : Below W2.heap.size W2 W3 := by rw [hW3]; exact (Below.refl _ _).alloc (Nat.le_refl _) _
  have bb := below_then (below_then b1 b2) b3
  have X3 := Lib.hid (show Box W3 w.heap.size [.int .i64 (n : Int), .slice A m c] from Box.below (Box.below (by rw [hW1]; exact Box.new _ _ _) b2) b3)
  have R3 := Lib.hid (show W3.heap[w.heap.size + 1]? = some (.cells (Array.replicate 1024 (Value.int .i64 0)) 75 (0, 0)) from (b3.block _ (by omega)).trans (by rw [hW2, ← s1]; exact heap_alloc_new _ _))
  have C3 := Lib.hid (show CntAt W3 w.heap.size (w.heap.size + 2) (fun _ => 0) by rw [hW3, ← s2]; exact cnt_new W2 w.heap.size (by omega))
  have B3 := Lib.hid bb
  have HH := Lib.hid h
  have HW1 := Lib.hid hW1
  have HW2 := Lib.hid hW2
  have HW3 := Lib.hid hW3
  have hfull : (2 ^ n - 1 : Nat) < 1024 := by have := pow_le hn10; omega
  obtain ⟨U, hU⟩ : ∃ U, U = 2 ^ n - 1 := ⟨_, rfl⟩
  rw [← hU] at hfull
  have HU := Lib.hid hU
  have hU0 : (0 : Int) ≤ (U : Int) := by omega
  have hU1 : (U : Int) < 1024 := by omega
  clear hg h hF s1 s2 s3 b1 b2 b3 bb hW1 hW2 hW3 hU
  go_enter Try.func105, Try.ntmps105
  go_upto_region 2 with fail
  rw [zero_cnt, ← HW1.out, ← HW2.out, ← HW3.out]
  obtain ⟨Q, hQ⟩ : ∃ Q, Q = w.heap.size + 1 + 1 := ⟨_, rfl⟩
  rw [← hQ]
  obtain ⟨R, hR⟩ : ∃ R, R = w.heap.size + 1 := ⟨_, rfl⟩
  rw [← hR]
  have R3 := Lib.hid (show W3.heap[R]? = some (.cells (Array.replicate 1024 (Value.int .i64 0)) 75 (0, 0)) by rw [hR]; exact R3.out)
  have C3 := Lib.hid (show CntAt W3 w.heap.size Q (fun _ => 0) by rw [hQ]; exact C3.out)
  have hQR : R < Q := by omega
  have hRw : w.heap.size < R := by omega
  clear hQ hR
  have q0 := X3.out 0 _ rfl
  have q1 := X3.out 1 _ rfl
  go_wp2_with fail
  refine (allStates_any A n m c W3 hn10).mono ?_
  rw [← HU.out]
  rintro e w4 ⟨rfl, b4⟩
  have X4 := Lib.hid (Box.below X3.out b4)
  have R4 := Lib.hid ((b4.block _ (block_lt R3.out)).trans R3.out)
  have C4 := Lib.hid (show CntAt w4 w.heap.size Q (fun _ => 0) from own_below C3.out b4)
  have B4 := Lib.hid (below_then B3.out b4)
  have hcu := C4.out.cell hfull
  have hfu := World.ownsRow.frozenAt C4.out U
  have C5 := Lib.hid ((C4.out.store (b := U) 1).congr (g := fun b => wr64 (F 0 b)) (fun b => by
    rw [HF.out]
    show (if b = U then 1 else 0) = wr64 (if b = 2 ^ n - 1 then 1 else 0)
    rw [← HU.out]
    split
    · exact wr64_1.symm
    · exact wr64_0.symm))
  have O5 := Lib.hid (only_setCell w4 Q U (.int .i64 1))
  clear b4 q0 q1
  go_wp2_with fail
  obtain ⟨w5, hw5⟩ : ∃ w5, w5 = w4.setCell ⟨Q, U, none⟩ (.int .i64 1) := ⟨_, rfl⟩
  rw [← hw5] at C5 O5 ⊢
  have X5 := Lib.hid (Box.only X4.out O5.out (.inl (by omega)))
  have R5 := Lib.hid ((O5.out.block _ (block_lt R4.out) (.inl (by omega))).trans R4.out)
  have B5 := Lib.hid (Only.below B4.out O5.out (by omega) B4.out.size)
  clear hw5 hcu hfu
  go_loopw [15] (fun kv wr => ∃ k : Nat, k ≤ len ∧ kv = .int .i64 k ∧ CntAt wr w.heap.size Q (fun b => wr64 (F k b)) ∧ Box wr w.heap.size [.int .i64 (n : Int), .slice A m c] ∧ wr.heap[R]? = some (.cells (Array.replicate 1024 (Value.int .i64 0)) 75 (0, 0)) ∧ Below w.heap.size w wr) (fun kv _ => len - (intOf kv).toNat)
  case atStart => exact ⟨0, Nat.zero_le _, rfl, C5.out, X5.out, R5.out, B5.out⟩
  case round =>
    obtain ⟨k, hk, rfl, hcnt, hbox, hres, hbel⟩ := hrel
    obtain ⟨wo, hwo⟩ : ∃ wo, wo = wr := ⟨_, rfl⟩
    rw [← hwo] at hcnt hbox hres hbel ⊢
    clear hwo
    have HC := Lib.hid hcnt
    have HBX := Lib.hid hbox
    have HRE := Lib.hid hres
    have HB := Lib.hid hbel
    have hk0 : (0 : Int) ≤ (k : Int) := by omega
    have hQL := Lib.hid (World.ownsRow.lt hcnt _ rfl).2
    clear hcnt hbox hres hbel
    by_cases hlt : k < len
    · have hkl : (k : Int) < (len : Int) := by omega
      obtain ⟨w6, hw6⟩ : ∃ w6, w6 = wo.alloc (.cells (Array.replicate 1024 (Value.int .i64 0)) 75) := ⟨_, rfl⟩
      have b6 : Below wo.heap.size wo w6 := by rw [hw6]; exact (Below.refl _ _).alloc (Nat.le_refl _) _
      obtain ⟨G, hG⟩ : ∃ G, G = wo.heap.size := ⟨_, rfl⟩
      have HGE := Lib.hid hG
      have C6 := Lib.hid (show CntAt w6 w.heap.size G (midC (aftF n xss) (F k) m 0 0) from by
        rw [hw6, hG]; exact (cnt_new wo w.heap.size HB.out.size).congr (fun b => (midC_0 _ _ _ b).symm))
      have D6 := Lib.hid (show CntAt w6 w.heap.size Q (fun b => wr64 (F k b)) from own_below HC.out b6)
      have X6 := Lib.hid (Box.below HBX.out b6)
      have R6 := Lib.hid ((b6.block _ (block_lt HRE.out)).trans HRE.out)
      have B6 := Lib.hid (below_then HB.out b6)
      have HGQ := Lib.hid (show Q < G by rw [hG]; exact hQL.out)
      have HW6 := Lib.hid hw6
      obtain ⟨M, hM1, hM2, hM3⟩ := cntAt_heap D6.out
      have K6 := Lib.hid hM1
      have MS := Lib.hid hM2
      have MT := Lib.hid hM3
      clear hw6 b6 hG hM1 hM2 hM3
      go_upto_region 6 with fail
      rw [zero_cnt, ← HW6.out, ← HGE.out]
      go_wp2_with (first
        | (refine wpList_load_row rfl 75 _ rfl Q rfl 75 M (0, 0) _ K6.out Try.underlying75 rfl (by rw [MS.out]; exact size_cnt) ?_))
      go_loopw [18] (fun jv wr => ∃ j : Nat, j ≤ 1024 ∧ jv = .int .i64 j ∧ CntAt wr w.heap.size G (midC (aftF n xss) (F k) m j 0) ∧ Only G (G + 1) w6 wr) (fun jv _ => 1024 - (intOf jv).toNat)
      case atStart => exact ⟨0, Nat.zero_le _, rfl, C6.out, Only.refl _ _ _⟩
      case round =>
        obtain ⟨j, hj, rfl, hcj, hon⟩ := hrel
        obtain ⟨wj, hwj⟩ : ∃ wj, wj = wr := ⟨_, rfl⟩
        rw [← hwj] at hcj hon ⊢
        clear hwj
        have HCJ := Lib.hid hcj
        have HON := Lib.hid hon
        have hj0 : (0 : Int) ≤ (j : Int) := by omega
        clear hcj hon
        by_cases hltj : j < 1024
        · have hjl : (j : Int) < 1024 := by omega
          obtain ⟨V, hV⟩ : ∃ V, V = wr64 (F k j) := ⟨_, rfl⟩
          have HV := Lib.hid hV
          have hix := fun (w : World) => run_index_cnt M j V w hltj (by rw [← Array.getElem?_toList, MT.out, List.getElem?_map, rowF_at _ hltj, hV]; rfl)
          have XJ := Lib.hid (Box.only X6.out HON.out (.inl (by have := HGQ.out; omega)))
          have q1 := XJ.out 1 _ rfl
          clear hV
          go_wp2_with fail
          go_loopw [25] (fun xv wr => ∃ x : Nat, x ≤ m ∧ xv = .int .i64 x ∧ CntAt wr w.heap.size G (midC (aftF n xss) (F k) m j x) ∧ Only G (G + 1) w6 wr) (fun xv _ => m - (intOf xv).toNat)
          case atStart => exact ⟨0, Nat.zero_le _, rfl, HCJ.out, HON.out⟩
          case round =>
            obtain ⟨x, hx, rfl, hcx, honx⟩ := hrel
            obtain ⟨wx, hwx⟩ : ∃ wx, wx = wr := ⟨_, rfl⟩
            rw [← hwx] at hcx honx ⊢
            clear hwx
            have HCX := Lib.hid hcx
            have HNX := Lib.hid honx
            have hx0 : (0 : Int) ≤ (x : Int) := by omega
            clear hcx honx
            by_cases hltx : x < m
            · have hxm : (x : Int) < (m : Int) := by omega
              have HBX2 := Lib.hid (Only.below B6.out HNX.out (by have := HGQ.out; omega) B6.out.size)
              have HW3B := Lib.hid (show RowsAt wx A m xss from HH.out.below HBX2.out)
              obtain ⟨row, Bx, ox, Ar, cr, hr1, hAe, hcr0, hnr⟩ := HW3B.out.at_ hltx
              subst hAe
              have hgr := HG.out.rows x row hr1
              have hr10 : ∀ y ∈ row, 0 ≤ y ∧ y < 10 := fun y hy => by have := hgr.2 y hy; omega
              rw [hgr.1] at hcr0 hnr
              have HNR := Lib.hid hnr
              have HR10 := Lib.hid hr10
              obtain ⟨T, hT⟩ : ∃ T, T = aftB j row n := ⟨_, rfl⟩
              have hTF : aftF n xss j x = T := by
                rw [hT]; unfold aftF
                rw [List.getD_eq_getElem?_getD, hr1]; rfl
              have hTl : T < 1024 := by rw [← hTF]; exact aftF_lt HG.out j x hltj hltx
              have HT := Lib.hid hT
              have HTF := Lib.hid hTF
              have hT0 : (0 : Int) ≤ (T : Int) := by omega
              have hT1 : (T : Int) < 1024 := by omega
              obtain ⟨Y, hY⟩ : ∃ Y, Y = midC (aftF n xss) (F k) m j x T := ⟨_, rfl⟩
              have hcy : wx.cell? ⟨G, T, none⟩ = some (.int .i64 Y) := by rw [hY]; exact HCX.out.cell hTl
              have hfy : wx.frozen? ⟨G, T, none⟩ = false := World.ownsRow.frozenAt HCX.out T
              have HSUM := Lib.hid (show wrap64 (Y + V) = wr64 ((sumL (fun b => F k b * hitN (aftF n xss) b T m) (List.range j) + F k j * hitN (aftF n xss) j T x) + F k j) by
                rw [hY, HV.out]; unfold midC; exact wr64_add _ _)
              have HST := Lib.hid (show CntAt (wx.setCell ⟨G, T, none⟩ (.int .i64 (wrap64 (Y + V)))) w.heap.size G (midC (aftF n xss) (F k) m j (x + 1)) from
                (HCX.out.store _).congr (fun b => by rw [HSUM.out, ← HTF.out]; exact midC_step _ _ _ _ _ _))
              have HO2 := Lib.hid (HNX.out.trans (only_setCell wx G T (.int .i64 (wrap64 (Y + V)))))
              clear hr1 hgr hr10 hnr hT hTF hY
              go_wp2_with fail
              refine (after_any _ n cr j row wx hltj HNR.out hn10 HR10.out).mono ?_
              rw [← HT.out]
              rintro e w9 ⟨rfl, rfl⟩
              go_wp2_with fail
              go_roundw
              case rel => exact ⟨x + 1, by omega, by go_num, HST.out, HO2.out⟩
              case measure => simp [intOf]; omega
            · have hxe : x = m := by omega
              have HCN := Lib.hid (show CntAt wx w.heap.size G (midC (aftF n xss) (F k) m (j + 1) 0) from HCX.out.congr (fun b => by rw [hxe]; exact midC_row _ _ _ _ _))
              clear hxe
              go_wp2_with fail
              go_roundw
              case rel => exact ⟨j + 1, by omega, by go_num, HCN.out, HNX.out⟩
              case measure => simp [intOf]; omega
        · have hje : j = 1024 := by omega
          have HCN := Lib.hid (show CntAt wj w.heap.size G (fun b => wr64 (F (k + 1) b)) from HCJ.out.congr (fun b => by rw [hje, HF.out]; exact midC_all _ _ _ _ _))
          have XJ := Lib.hid (Box.only X6.out HON.out (.inl (by have := HGQ.out; omega)))
          have RJ := Lib.hid ((HON.out.block _ (block_lt R6.out) (.inl (by have := HGQ.out; omega))).trans R6.out)
          have KJ := Lib.hid ((HON.out.block _ (block_lt K6.out) (.inl HGQ.out)).trans K6.out)
          have BJ := Lib.hid (Only.below B6.out HON.out (by have := HGQ.out; omega) B6.out.size)
          obtain ⟨M2, hM1, hM2, hM3⟩ := cntAt_heap HCN.out
          have K2 := Lib.hid hM1
          have MS2 := Lib.hid hM2
          have MT2 := Lib.hid hM3
          have MO2 := Lib.hid (list_one hM3)
          clear hje hM1 hM2 hM3
          go_wp2_with (first
            | (refine wpList_load_row rfl 75 _ rfl G rfl 75 M2 (0, 0) _ K2.out Try.underlying75 rfl (by rw [MS2.out]; exact size_cnt) ?_)
            | (refine wpList_store_mid rfl 75 _ _ rfl Q 0 M2 rfl rfl (there_of KJ.out (by rw [MS2.out, MS.out]; exact Nat.le_refl _)) (by rw [MS2.out]; exact size_cnt) MO2.out ?_))
          obtain ⟨w7, hw7⟩ : ∃ w7, w7 = wj.setCells Q 0 M2.toList := ⟨_, rfl⟩
          rw [← hw7]
          have h7 : w7.heap[Q]? = some (.cells M2 75 (0, 0)) := by
            have hw := setCells_whole (vs := M2.toList) KJ.out (by rw [Array.length_toList, MS2.out, MS.out])
            rw [Array.toArray_toList] at hw
            rw [hw7]
            exact hw
          have o7 : Only Q (Q + 1) wj w7 := by rw [hw7]; exact only_setCells _ _ _
          have C7 := Lib.hid (cntAt_of (base := w.heap.size) h7 MS2.out MT2.out (by omega))
          have X7 := Lib.hid (Box.only XJ.out o7 (.inl (by omega)))
          have R7 := Lib.hid ((o7.block _ (block_lt RJ.out) (.inl (by omega))).trans RJ.out)
          have B7 := Lib.hid (Only.below BJ.out o7 (by omega) BJ.out.size)
          clear hw7 h7 o7
          go_roundw
          case rel => exact ⟨k + 1, by omega, by go_num, C7.out, X7.out, R7.out, B7.out⟩
          case measure => simp [intOf]; omega
    · have hke : k = len := by omega
      obtain ⟨M, hM1, hM2, hM3⟩ := cntAt_heap HC.out
      have K2 := Lib.hid hM1
      have MS := Lib.hid hM2
      have MT := Lib.hid (show M.toList = (rowF 1024 (fun b => wr64 (F len b))).map (Value.int .i64) by rw [← hke]; exact hM3)
      have MO := Lib.hid (list_one hM3)
      clear hke hM1 hM2 hM3
      go_wp2_with (first
        | (refine wpList_load_row rfl 75 _ rfl Q rfl 75 M (0, 0) _ K2.out Try.underlying75 rfl (by rw [MS.out]; exact size_cnt) ?_)
        | (refine wpList_store_mid rfl 75 _ _ rfl R 0 M rfl rfl (there_of HRE.out (by rw [MS.out]; simp)) (by rw [MS.out]; exact size_cnt) MO.out ?_))
      have hw := setCells_whole (vs := M.toList) HRE.out (by rw [Array.length_toList, MS.out]; simp)
      rw [Array.toArray_toList] at hw
      exact bodyPost_ret (v := .agg M) (results_cell_row rfl _ _ R 75 _ (0, 0) _ rfl hw Try.underlying75 rfl (by rw [MS.out]; exact size_cnt)) rfl ⟨M, rfl, MT.out, setCells_below (by omega) _ _ _ HB.out⟩

end Go.Proofs.Ytdelanjkaokiaaa
