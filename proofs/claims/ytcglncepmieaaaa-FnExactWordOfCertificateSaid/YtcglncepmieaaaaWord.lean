/-
  The model's first words: the contracts of (*l02Walk).word and of l02Shrink.
-/
import Derived.Test.YtcglncepmieaaaaFrom
import Derived.Deep.LoopGhost
namespace Go.Proofs.Ytcglncepmieaaaa
open Go.RowKit Go.Deep Go.ChangeShapes Go.WideShapes

namespace From
open Hunt Srch Moved

/-- The letters from a place on, back to the root: the rest of the word. -/
theorem word_back {aft : Nat → Nat → Nat} {m cap b0 i : Nat} {T : List Fnd} (h : Inv aft m cap b0 T i) {j : Nat} {e : Fnd} (hj : T[j]? = some e) : (j = 0 ∧ e.par = -1 ∧ e.word = []) ∨ ∃ (p : Nat) (f : Fnd), p < j ∧ T[p]? = some f ∧ e.par = (p : Int) ∧ e.word = f.word ++ [e.ltr] ∧ 0 ≤ e.ltr ∧ e.ltr < (m : Int) := by
  rcases h.par j e hj with a | ⟨p, f, h1, _, h2, h3, h4, h5, h6⟩
  · exact .inl a
  · exact .inr ⟨p, f, h1, h2, h3, h4, h5, h6⟩

set_option maxRecDepth 100000 in
set_option maxHeartbeats 8000000 in
theorem word_any (base p sb N g1 g2 g3 c1 c2 c3 j : Nat) (aft : Nat → Nat → Nat) (m cap b0 i : Nat) (T : List Fnd) (e : Fnd) (w : World) (hT : Inv aft m cap b0 T i) (hl : T.length ≤ 1024) (hW : WalkS base p sb N (setsL T) (parsL T) (ltrsL T) (knownB T) g1 g2 g3 c1 c2 c3 w) (hj : T[j]? = some e) :
    Calls Try.prog 121 #[.pointer (some ⟨p, 0, none⟩), .int .i64 (j : Int)] w fun en w' => ∃ u, en = .returned u ∧ w'.ownsRow w.heap.size 2 1 u e.word.length (e.word.map (Value.int .i64)) ∧ Below w.heap.size w w' := by
  obtain ⟨i0, hi, hz0, hz1, hz2⟩ := info_parts info_int64
  have HT := Lib.hid hT
  have HW := Lib.hid hW
  have HL := Lib.hid hl
  have HJ := Lib.hid hj
  have HLE := Lib.hid (show e.word.length ≤ 1024 from by have h1 := word_le hT j e hj; have h2 := lt_of_at hj; omega)
  clear hT hW hl hj
  go_enter Try.func121, Try.ntmps121
  go_wp2_with fail
  go_loopw [1, 5] (fun av bv wr => ∃ (k : Nat) (e' : Fnd) (bk : List Int), av = .int .i64 k ∧ T[k]? = some e' ∧ e.word = e'.word ++ bk.reverse ∧ wr.ownsRow w.heap.size 2 1 bv bk.length (bk.map (Value.int .i64)) ∧ Below w.heap.size w wr) (fun av _ _ => (intOf av).toNat)
  case atStart => exact ⟨j, e, [], rfl, HJ.out, by simp, own_none w _ (Nat.le_refl _), (Below.refl _ _).alloc (Nat.le_refl _) _⟩
  case round =>
    obtain ⟨k, e', bk, rfl, hk, hw, hown, hbel⟩ := hrel
    obtain ⟨A3, C3, rfl⟩ := own_form hown
    have HK := Lib.hid hk
    have HWD := Lib.hid hw
    have HO := Lib.hid hown
    have HB := Lib.hid hbel
    have hkl : k < T.length := lt_of_at hk
    have hkl10 : T.length ≤ 1024 := HL.out
    have hws := HW.out.below hbel
    have q1 : wr.cell? ⟨p, 1, none⟩ = some (.slice (some ⟨g2, 0, none⟩) T.length c2) := by
      have := cell_of_row _ p 1 _ _ _ hws.blk
      rw [parsL_len] at this
      exact this
    have q2 : wr.cell? ⟨p, 2, none⟩ = some (.slice (some ⟨g3, 0, none⟩) T.length c3) := by
      have := cell_of_row _ p 2 _ _ _ hws.blk
      rw [ltrsL_len] at this
      exact this
    have r1 : wr.cell? ⟨g2, k, none⟩ = some (.int .i64 e'.par) := by
      have h1 := hws.b.cellAt k (by rw [parsL_len]; omega)
      rw [List.getElem?_map, parsL_at hk] at h1
      exact h1
    have r2 : wr.cell? ⟨g3, k, none⟩ = some (.int .i64 e'.ltr) := by
      have h1 := hws.l.cellAt k (by rw [ltrsL_len]; omega)
      rw [List.getElem?_map, ltrsL_at hk] at h1
      exact h1
    have j1 : (0 : Int) ≤ (k : Int) := by omega
    have j2 : (k : Int) < (T.length : Int) := by omega
    have HBL := Lib.hid (show bk.length ≤ 1024 from by have h1 := HLE.out; rw [hw, List.length_append, List.length_reverse] at h1; omega)
    have hback := word_back HT.out hk
    clear hk hw hown hbel hws
    rcases hback with ⟨h1, h2, h3⟩ | ⟨p', f, h1, h2, h3, h4, h5, h6⟩
    · have HE := Lib.hid h3
      have hneg : ¬ (0 : Int) ≤ e'.par := by rw [h2]; omega
      clear h1 h2 h3
      go_wp2_with fail
      have hll : bk.length ≤ 1024 := HBL.out
      obtain ⟨L, hL⟩ : ∃ L, L = bk.length := ⟨_, rfl⟩
      rw [← hL] at hll ⊢
      have HLL := Lib.hid hL
      clear hL
      clear q1 q2 r1 r2 j1 j2 hneg
      obtain ⟨w9, hw9⟩ : ∃ w9, w9 = wr.alloc (.cells #[] 2) := ⟨_, rfl⟩
      have b9 : Below wr.heap.size wr w9 := by rw [hw9]; exact (Below.refl _ _).alloc (Nat.le_refl _) _
      have HO9 := Lib.hid (own_below HO.out b9)
      have HB9 := Lib.hid (below_then HB.out b9)
      have HN9 := Lib.hid (show w9.ownsRow w.heap.size 2 1 (.slice (some ⟨wr.heap.size, 0, none⟩) 0 0) 0 [] by rw [hw9]; exact own_none wr _ HB.out.size)
      have HS9 := Lib.hid (show w9.heap.size = wr.heap.size + 1 by rw [hw9, World.size_alloc])
      rw [← hw9]
      clear hw9 b9
      obtain ⟨G, hG⟩ : ∃ G, G = wr.heap.size := ⟨_, rfl⟩
      have hOG : ∀ q, (Value.slice A3 bk.length C3).ownBlock = some q → q < G := fun q hq => by rw [hG]; exact (HO.out.lt q hq).2
      have HOG := Lib.hid hOG
      rw [← hG] at HN9 HS9 ⊢
      have HG := Lib.hid hG
      clear hOG hG
      rw [← HLL.out] at HO9
      go_loopw [6, 7] (fun ov iv wi => ∃ (r : Nat) (x : Int), r ≤ L ∧ iv = .int .i64 x ∧ x = (r : Int) - 1 ∧ wi.ownsRow w.heap.size 2 1 ov (L - r) ((bk.drop r).reverse.map (Value.int .i64)) ∧ wi.ownsRow w.heap.size 2 1 (.slice A3 L C3) L (bk.map (Value.int .i64)) ∧ (∀ q, ov.ownBlock = some q → G ≤ q) ∧ Below w.heap.size w wi ∧ G ≤ wi.heap.size) (fun _ iv _ => (intOf iv + 1).toNat)
      case atStart =>
        refine ⟨L, _, Nat.le_refl _, rfl, by unfold wrap64; omega, ?_, HO9.out, fun q hq => ?_, HB9.out, by rw [HS9.out]; omega⟩
        · rw [Nat.sub_self, HLL.out, List.drop_length]
          exact HN9.out
        · simp [Value.ownBlock] at hq; omega
      case round =>
        obtain ⟨r, x, hr, rfl, hx, hon, hob, hap, hbl, hgs⟩ := hrel
        obtain ⟨A4, C4, rfl⟩ := own_form hon
        have HN := Lib.hid hon
        have HOB := Lib.hid hob
        have HAP := Lib.hid hap
        have HBB := Lib.hid hbl
        have HGS := Lib.hid hgs
        clear hon hob hap hbl hgs HN9 HO9 HB9 HS9
        rcases r with _ | r
        · have hx0 : ¬ (0 : Int) ≤ x := by rw [hx]; omega
          clear hx
          go_wp2_with fail
          go_ret
          have h1 := HN.out
          have h2 : e.word = bk.reverse := by rw [HWD.out, HE.out]; rfl
          rw [h2, List.length_reverse, ← HLL.out]
          rw [List.drop_zero, Nat.sub_zero] at h1
          exact ⟨_, rfl, h1, HBB.out⟩
        · obtain rfl : x = (r : Int) := by rw [hx]; push_cast; omega
          clear hx
          have hrl : r < bk.length := by rw [← HLL.out]; omega
          obtain ⟨y, hy⟩ : ∃ y, bk[r]? = some y := ⟨_, List.getElem?_eq_getElem hrl⟩
          obtain ⟨b3, rfl⟩ := own_addr HOB.out (by omega)
          have rc : World.cell? ‹World› ⟨b3, r, none⟩ = some (.int .i64 y) := by
            have h1 := HOB.out.cellAt r (by omega)
            rw [List.getElem?_map, hy] at h1
            exact h1
          have HY := Lib.hid hy
          have j1 : (0 : Int) ≤ (r : Int) := by omega
          have j2 : (r : Int) < (L : Int) := by omega
          have HBS := Lib.hid (HBB.out.size)
          clear hy hrl
          go_wp2_with (at_builtin; refine wpList_append_own_at _ rfl _ _ 35 rfl (w.heap.size) 2 i0 (.int .i64 0) 1 8 Try.underlying35 hi hz0 hz1 hz2 rfl (by decide) _ _ _ rfl (World.ownsRow.alloc (HN.out) _) ⟨(wr).heap.size, 0, none⟩ 1 1 [.int .i64 y] rfl rfl (cell_one_new _ _ _) (ones_i64 [y]) (by unfold maxLen; omega) (by omega) (by rw [World.size_alloc]; exact Nat.le_succ_of_le (HBS.out)) ?_)
          intro v' w2 hown' hgrow _ hat
          have ba : Below wr.heap.size wr (wr.alloc (.cells #[.int .i64 y] 2)) := (Below.refl _ _).alloc (Nat.le_refl _) _
          have HB2 := Lib.hid (below_grown (below_then HBB.out ba) hgrow (fun g hg => (HN.out.lt g hg).1))
          have HO2 := Lib.hid (show w2.ownsRow w.heap.size 2 1 v' (L - r) ((bk.drop r).reverse.map (Value.int .i64)) from by
            have h1 := hown'
            have h2 : (bk.drop r).reverse = (bk.drop (r + 1)).reverse ++ [y] := by
              rw [List.drop_eq_getElem_cons (show r < bk.length by rw [← HLL.out]; omega), List.reverse_cons, show bk[r]'(by rw [← HLL.out]; omega) = y from by
                have h3 := HY.out
                rw [List.getElem?_eq_getElem (show r < bk.length by rw [← HLL.out]; omega)] at h3
                exact Option.some.inj h3]
            rw [h2, List.map_append, show L - r = L - (r + 1) + 1 by omega, List.map_reverse, List.map_drop]
            exact h1)
          have HOB2 := Lib.hid (own_kept (own_below HOB.out ba) (fun q hq => hgrow.block q (Nat.lt_of_lt_of_le (HOB.out.lt q hq).2 ba.size) (fun e => by have h1 := HAP.out q e.symm; have h2 := HOG.out q hq; omega)))
          have HAP2 := Lib.hid (show ∀ q, v'.ownBlock = some q → G ≤ q from fun q hq => by
            rcases hat with h1 | h1
            · exact HAP.out q (h1.symm.trans hq)
            · rw [h1] at hq
              have h2 : wr.heap.size + 1 = q := by simpa using hq
              have h3 := HGS.out
              omega)
          have HGS2 := Lib.hid (show G ≤ w2.heap.size by have h1 := HGS.out; have h2 := hgrow.size; have h3 := ba.size; omega)
          clear hown' hgrow hat ba rc
          go_wp2_with fail
          go_roundw
          case rel => exact ⟨r, _, by omega, rfl, by (try unfold wrap64); omega, HO2.out, HOB2.out, HAP2.out, HB2.out, HGS2.out⟩
          case measure => simp [intOf] <;> omega
    · have HWF := Lib.hid h4
      have HF := Lib.hid h2
      have hpos : (0 : Int) ≤ e'.par := by rw [h3]; omega
      have hpar : e'.par = (p' : Int) := h3
      rw [hpar] at r1 hpos
      have HPAR := Lib.hid hpar
      clear h2 h3 h4 hpar
      have hbl := HBL.out
      go_wp2_with (at_builtin; refine wpList_append_own _ rfl _ _ 35 rfl (w.heap.size) 2 i0 (.int .i64 0) 1 8 Try.underlying35 hi hz0 hz1 hz2 rfl (by decide) _ _ _ rfl (World.ownsRow.alloc (HO.out) _) ⟨(wr).heap.size, 0, none⟩ 1 1 [.int .i64 e'.ltr] rfl rfl (cell_one_new _ _ _) (ones_i64 [e'.ltr]) (by unfold maxLen; omega) (by omega) (by rw [World.size_alloc]; exact Nat.le_succ_of_le (HB.out.size)) ?_)
      intro v' w2 hown' hgrow _
      have ba : Below wr.heap.size wr (wr.alloc (.cells #[.int .i64 e'.ltr] 2)) := (Below.refl _ _).alloc (Nat.le_refl _) _
      have HB2 := Lib.hid (below_grown (below_then HB.out ba) hgrow (fun g hg => (HO.out.lt g hg).1))
      have HO2 := Lib.hid hown'
      have hws2 := HW.out.below HB2.out
      have q1' : w2.cell? ⟨p, 1, none⟩ = some (.slice (some ⟨g2, 0, none⟩) T.length c2) := by
        have := cell_of_row _ p 1 _ _ _ hws2.blk
        rw [parsL_len] at this
        exact this
      have r1' : w2.cell? ⟨g2, k, none⟩ = some (.int .i64 (p' : Int)) := by
        have h1 := hws2.b.cellAt k (by rw [parsL_len]; omega)
        rw [List.getElem?_map, parsL_at HK.out] at h1
        rw [← HPAR.out]
        exact h1
      clear hown' hgrow ba hws2 q1 q2 r1 r2
      go_wp2_with fail
      go_roundw
      case rel => exact ⟨p', f, bk ++ [e'.ltr], rfl, HF.out, by rw [HWD.out, HWF.out]; simp, by rw [List.length_append, List.map_append]; exact HO2.out, HB2.out⟩
      case measure => simp [intOf]; omega

/-- Whether there is one. -/
def hitB (o : Option Fnd) : Bool := o.isSome
theorem fnd_len {n m b : Nat} {xss : List (List Int)} (hg : Good n m xss) (hb : b < 1024) : (fnd n m xss 1024 b).length ≤ 1024 := all_len (small hg hb)
set_option maxRecDepth 100000 in
set_option maxHeartbeats 8000000 in
theorem l02Shrink_any (p0 n m cap b0 : Nat) (A : Option Addr) (xss : List (List Int)) (w : World) (hg : Good n m xss) (hR : RowsAt w A m xss) (hp0 : w.cell? ⟨p0, 0, none⟩ = some (.int .i64 (n : Int))) (hp1 : w.cell? ⟨p0, 1, none⟩ = some (.slice A m cap)) (hb0 : In n b0) :
    Calls Try.prog 71 #[.pointer (some ⟨p0, 0, none⟩), .int .i64 (b0 : Int)] w fun e w' => ∃ u, e = .returned (.tuple #[u, .bool (hitB (firstF mergedB (fnd n m xss 1024 b0)))]) ∧
      w'.ownsRow w.heap.size 2 1 u (toldW (firstF mergedB (fnd n m xss 1024 b0))).1.length ((toldW (firstF mergedB (fnd n m xss 1024 b0))).1.map (Value.int .i64)) ∧ Below w.heap.size w w' := by
  have hb10 : b0 < 1024 := hb0.lt hg.n10
  have HG := Lib.hid hg
  have HR := Lib.hid hR
  have HP0 := Lib.hid hp0
  have HP1 := Lib.hid hp1
  have HB0 := Lib.hid hb0
  obtain ⟨T, hT⟩ : ∃ T, T = fnd n m xss 1024 b0 := ⟨_, rfl⟩
  rw [← hT]
  have hl : T.length ≤ 1024 := by rw [hT]; exact fnd_len HG.out hb10
  have HT := Lib.hid hT
  clear hg hR hp0 hp1 hb0 hT
  go_enter Try.func71, Try.ntmps71
  go_wp2_with fail
  refine (l02From_any p0 n m cap b0 A xss w HG.out HR.out HP0.out HP1.out HB0.out).mono ?_
  rintro e w1 ⟨p, sb, g1, g2, g3, c1, c2, c3, rfl, hW, hB⟩
  rw [← HT.out] at hW
  have HW := Lib.hid hW
  have HB := Lib.hid hB
  clear hW hB
  go_wp2_with fail
  go_loopw [7] (fun iv wr => ∃ k : Nat, k ≤ T.length ∧ iv = .int .i64 k ∧ (∀ (j : Nat) f, j < k → T[j]? = some f → mergedB f.set = false) ∧ Below w1.heap.size w1 wr) (fun iv _ => T.length - (intOf iv).toNat)
  case atStart => exact ⟨0, Nat.zero_le _, rfl, fun j f hj => by omega, Below.refl _ _⟩
  case round =>
    obtain ⟨k, hk, rfl, hno, hbel⟩ := hrel
    have hws := HW.out.below hbel
    have q0 : wr.cell? ⟨p, 0, none⟩ = some (.slice (some ⟨g1, 0, none⟩) T.length c1) := by
      have := cell_of_row _ p 0 _ _ _ hws.blk
      rw [setsL_len] at this
      exact this
    have HWS := Lib.hid hws
    have HNO := Lib.hid hno
    have HBR := Lib.hid (below_then HB.out hbel)
    have HB1 := Lib.hid hbel
    clear hno hbel hws
    by_cases hlt : k < T.length
    · obtain ⟨f, hf⟩ : ∃ f, T[k]? = some f := ⟨_, List.getElem?_eq_getElem hlt⟩
      have r0 : wr.cell? ⟨g1, k, none⟩ = some (.int .i64 (f.set : Int)) := by
        have h1 := HWS.out.s.cellAt k (by rw [setsL_len]; omega)
        rw [List.getElem?_map, setsL_at hf] at h1
        exact h1
      have j1 : (0 : Int) ≤ (k : Int) := by omega
      have j2 : (k : Int) < (T.length : Int) := by omega
      have hs10 : f.set < 1024 := by
        obtain ⟨h1, h2⟩ := found_word (by rw [← HT.out]; exact List.mem_of_getElem? hf)
        rw [h1]
        exact goW_lt (aftF_lt HG.out) hb10 _ h2
      have HF := Lib.hid hf
      clear hf
      go_wp2_with fail
      refine (l02Single_any f.set wr hs10).mono ?_
      rintro e w2 ⟨rfl, rfl⟩
      rcases hm : decide (Lib.onesCount f.set ≤ 1) with _ | _
      · have HM := Lib.hid hm
        clear hm
        go_wp2_with fail
        go_roundw
        case rel =>
          refine ⟨k + 1, by omega, by go_num, fun j f' hj hf' => ?_, HB1.out⟩
          rcases Nat.lt_or_ge j k with a | a
          · exact HNO.out j f' a hf'
          · obtain rfl : j = k := by omega
            rw [HF.out] at hf'
            obtain rfl := Option.some.inj hf'
            exact HM.out
        case measure => simp [intOf]; omega
      · have hfirst : firstF mergedB T = some f := first_hit HF.out hm HNO.out
        have HFF := Lib.hid hfirst
        clear hm hfirst
        go_wp2_with fail
        refine (word_any w.heap.size p sb (2 ^ n) g1 g2 g3 c1 c2 c3 k (aftF n xss) m 1024 b0 1024 T f wr (by rw [HT.out]; exact all_inv) hl HWS.out HF.out).mono ?_
        rintro e w3 ⟨u, rfl, ow, bw⟩
        have HOW := Lib.hid ow
        have HBW := Lib.hid (below_then HBR.out bw)
        have hbs := HBR.out.size
        clear ow bw
        go_wp2_with fail
        go_ret2
        rw [HFF.out]
        exact ⟨u, rfl, own_base HOW.out hbs, HBW.out⟩
    · have hnone : firstF mergedB T = none := first_miss fun j f hf => HNO.out j f (by have := lt_of_at hf; omega) hf
      have HFF := Lib.hid hnone
      clear hnone
      go_wp2_with fail
      go_ret2
      rw [HFF.out]
      exact ⟨_, rfl, own_none wr _ HBR.out.size, HBR.out.alloc HBR.out.size _⟩
end From

end Go.Proofs.Ytcglncepmieaaaa
