/-
  Stable pairs: the model's l02Steady and l02Stable.
-/
import Derived.Test.YtcglncepmieaaaaStbI
import Derived.BigQuiet
namespace Go.Proofs.Ytcglncepmieaaaa
open Go.RowKit Go.Deep Go.ChangeShapes Go.WideShapes
open Hunt Srch From Moved

theorem tab_read {n m s t : Nat} {xss : List (List Int)} {w : World} {At : Option Addr} (h : RowsAt w At n (tabK n m xss n)) (hs : s < n) (ht : t < n) :
    ∃ bT oT bR oR cR, At = some ⟨bT, oT, none⟩ ∧ w.cell? ⟨bT, oT + s, none⟩ = some (.slice (some ⟨bR, oR, none⟩) n cR) ∧ w.cell? ⟨bR, oR + t, none⟩ = some (.int .i64 (lenP n m xss s t)) := by
  obtain ⟨row, bT, oT, A', c', hrow, rfl, hc, hnum⟩ := h.at_ hs
  have e : row = rowK n m xss s n := by
    unfold tabK at hrow
    rw [List.getElem?_map, List.getElem?_range hs] at hrow
    exact (Option.some.inj hrow).symm
  subst e
  rw [rowK_len] at hc hnum
  obtain ⟨y, bR, oR, hy, rfl, hcy⟩ := hnum.at_ ht
  refine ⟨bT, oT, bR, oR, c', rfl, hc, ?_⟩
  rw [hcy]
  unfold rowK at hy
  rw [List.getElem?_map, List.getElem?_range ht] at hy
  exact congrArg some (congrArg (Value.int .i64) (Option.some.inj hy).symm)
theorem found_in {n m cap b : Nat} {xss : List (List Int)} {f : Fnd} (hg : Good n m xss) (hb : In n b) (hf : f ∈ fnd n m xss cap b) : In n f.set := by
  obtain ⟨h1, h2⟩ := found_word hf
  rw [h1]
  exact (goW_in (acts hg) _ _ h2 hb).1
/-- The words are searched for up to what the model's table tells. -/
noncomputable def sdB (n m : Nat) (xss : List (List Int)) (s t : Nat) : Bool := !hitB (firstF (apM n m xss) (fnd n m xss 1024 (pairB s t)))
theorem find_congr {g h : Nat → Bool} : ∀ {T : List Fnd}, (∀ f ∈ T, g f.set = h f.set) → firstF g T = firstF h T
  | [], _ => rfl
  | f :: T, hh => by
    have h1 := hh f List.mem_cons_self
    have h2 := find_congr (T := T) (fun x hx => hh x (List.mem_cons_of_mem _ hx))
    unfold firstF at h2 ⊢
    rw [List.find?_cons, List.find?_cons, h1, h2]
theorem sdB_eq {n m s t : Nat} {xss : List (List Int)} (hg : Good n m xss) (hs : s < n) (ht : t < n) : sdB n m xss s t = stB n m xss s t := by
  unfold sdB stB
  rw [find_congr (fun f hf => apM_eq hg ((found_in hg (pair_in hs ht) hf).lt hg.n10) (found_in hg (pair_in hs ht) hf))]

set_option maxRecDepth 100000 in
set_option maxHeartbeats 4000000 in
theorem l02Steady_any (p0 n m cap ct s t : Nat) (A At : Option Addr) (xss : List (List Int)) (w : World) (hg : Good n m xss) (hR : RowsAt w A m xss) (hp0 : w.cell? ⟨p0, 0, none⟩ = some (.int .i64 (n : Int))) (hp1 : w.cell? ⟨p0, 1, none⟩ = some (.slice A m cap))
    (hT : RowsAt w At n (tabK n m xss n)) (hs : s < n) (ht : t < n) :
    Calls Try.prog 111 #[.pointer (some ⟨p0, 0, none⟩), .slice At n ct, .int .i64 (s : Int), .int .i64 (t : Int)] w fun e w' => e = .returned (.bool (sdB n m xss s t)) ∧ Below w.heap.size w w' := by
  have hn10 := hg.n10
  have hin := pair_in hs ht
  have hb10 : pairB s t < 1024 := hin.lt hn10
  have HPB := Lib.hid (pair_bitsT (show s < 10 by omega) (show t < 10 by omega))
  have HG := Lib.hid hg
  have HR := Lib.hid hR
  have HP0 := Lib.hid hp0
  have HP1 := Lib.hid hp1
  have HTT := Lib.hid hT
  have HIN := Lib.hid hin
  have i1 : (0 : Int) ≤ (s : Int) := by omega
  have i2 : (s : Int) < 10 := by omega
  have i3 : (0 : Int) ≤ (t : Int) := by omega
  have i4 : (t : Int) < 10 := by omega
  obtain ⟨T, hTe⟩ : ∃ T, T = fnd n m xss 1024 (pairB s t) := ⟨_, rfl⟩
  have hl : T.length ≤ 1024 := by rw [hTe]; exact fnd_len hg hb10
  obtain ⟨R, hRR⟩ : ∃ R, R = sdB n m xss s t := ⟨_, rfl⟩
  rw [← hRR]
  have HRR := Lib.hid (show R = !hitB (firstF (apM n m xss) T) by rw [hRR, hTe]; rfl)
  have HT := Lib.hid hTe
  clear hg hR hp0 hp1 hT hin hTe hRR
  go_enter Try.func111, Try.ntmps111
  go_wp2_with fail
  rw [HPB.out]
  refine (l02From_any p0 n m cap (pairB s t) A xss w HG.out HR.out HP0.out HP1.out HIN.out).mono ?_
  rintro e w1 ⟨p, sb, g1, g2, g3, c1, c2, c3, rfl, hW, hB⟩
  rw [← HT.out] at hW
  have HW := Lib.hid hW
  have HB := Lib.hid hB
  clear hW hB
  go_wp2_with fail
  go_loopw [10] (fun iv wr => ∃ k : Nat, k ≤ T.length ∧ iv = .int .i64 k ∧ (∀ (j : Nat) f, j < k → T[j]? = some f → apM n m xss f.set = false) ∧ Below w1.heap.size w1 wr) (fun iv _ => T.length - (intOf iv).toNat)
  case atStart => exact ⟨0, Nat.zero_le _, rfl, fun j f hj => by omega, Below.refl _ _⟩
  case round =>
    obtain ⟨k, hk, rfl, hno, hbel⟩ := hrel
    have hws := HW.out.below hbel
    have q0 : wr.cell? ⟨p, 0, none⟩ = some (.slice (some ⟨g1, 0, none⟩) T.length c1) := by
      have := cell_of_row _ p 0 _ _ _ hws.blk
      rw [setsL_len] at this
      exact this
    have HWS := Lib.hid hws
    have HNO := Lib.hid hno
    have HBR := Lib.hid (below_then HB.out hbel)
    have HB1 := Lib.hid hbel
    clear hno hbel hws
    by_cases hlt : k < T.length
    · obtain ⟨f, hf⟩ : ∃ f, T[k]? = some f := ⟨_, List.getElem?_eq_getElem hlt⟩
      have r0 : wr.cell? ⟨g1, k, none⟩ = some (.int .i64 (f.set : Int)) := by
        have h1 := HWS.out.s.cellAt k (by rw [setsL_len]; omega)
        rw [List.getElem?_map, setsL_at hf] at h1
        exact h1
      have j1 : (0 : Int) ≤ (k : Int) := by omega
      have j2 : (k : Int) < (T.length : Int) := by omega
      have hfin := found_in HG.out HIN.out (by rw [← HT.out]; exact List.mem_of_getElem? hf)
      have hs10 : f.set < 1024 := hfin.lt hn10
      have HF := Lib.hid hf
      have HFI := Lib.hid hfin
      clear hf hfin
      go_wp2_with fail
      refine (l02Set_any f.set wr hs10).mono ?_
      rintro e w2 ⟨u, rfl, o2, b2⟩
      have HB2 := Lib.hid (below_then HB1.out b2)
      have HBR2 := Lib.hid (below_then HBR.out b2)
      by_cases h2 : (listK f.set 10).length = 2
      · obtain ⟨x, y, hxy, hy, hpe⟩ := two_pair hs10 HFI.out h2
        have hL : listK f.set 10 = [((x : Nat) : Int), ((y : Nat) : Int)] := by rw [hpe]; exact list_pair x (by omega) y (by omega) hxy
        rw [hL] at o2
        obtain ⟨A9, C9, rfl⟩ := own_form o2
        obtain ⟨g9, rfl, hNC9, hcells⟩ := own_cells (n := 2) o2 rfl (by omega)
        have d0 : w2.cell? ⟨g9, 0, none⟩ = some (.int .i64 ((x : Nat) : Int)) := hcells 0 (by omega)
        have d1 : w2.cell? ⟨g9, 1, none⟩ = some (.int .i64 ((y : Nat) : Int)) := hcells 1 (by omega)
        obtain ⟨bT, oT, bR, oR, cR, rfl, d2, d3⟩ := tab_read (HTT.out.below HBR2.out) (show x < n by omega) hy
        have HAP := Lib.hid (show apM n m xss f.set = decide (lenP n m xss x y < 0) by
          unfold apM
          rw [hL, ← tabK_at (xss := xss) (m := m) (show x < n by omega) hy]
          simp)
        obtain ⟨V, hV⟩ : ∃ V, V = lenP n m xss x y := ⟨_, rfl⟩
        rw [← hV] at d3 HAP
        have k1 : (0 : Int) ≤ (x : Int) := by omega
        have k2 : (x : Int) < (n : Int) := by omega
        have k3 : (0 : Int) ≤ (y : Int) := by omega
        have k4 : (y : Int) < (n : Int) := by omega
        clear hcells o2 b2 h2 hL hpe hV r0 q0
        rcases hv : decide (V < 0) with _ | _
        · have HM := Lib.hid (show apM n m xss f.set = false by rw [HAP.out, hv])
          go_upto_region 6 with fail
          go_quiet (fail)
          go_wp2_with fail
          go_roundw
          case rel =>
            refine ⟨k + 1, by omega, by go_num, fun j f' hj hf' => ?_, below_drewN' HB2.out _⟩
            rcases Nat.lt_or_ge j k with a | a
            · exact HNO.out j f' a hf'
            · obtain rfl : j = k := by omega
              rw [HF.out] at hf'
              obtain rfl := Option.some.inj hf'
              exact HM.out
          case measure => simp [intOf]; omega
        · have HM := Lib.hid (show apM n m xss f.set = true by rw [HAP.out, hv])
          go_upto_region 6 with fail
          go_quiet (fail)
          go_wp2_with fail
          go_ret
          have hR : R = false := by
            rw [HRR.out, first_hit HF.out HM.out HNO.out]; rfl
          rw [hR]
          exact ⟨rfl, below_drewN' HBR2.out _⟩
      · have HM := Lib.hid (show apM n m xss f.set = false by unfold apM; rw [decide_eq_false h2]; rfl)
        obtain ⟨L9, hL9⟩ : ∃ L9, L9 = listK f.set 10 := ⟨_, rfl⟩
        rw [← hL9] at o2 h2
        obtain ⟨A9, C9, rfl⟩ := own_form o2
        have hd0 : ((L9.length : Int) == 2) = false := by rw [beq_eq_false_iff_ne]; omega
        have hd1 : decide ((L9.length : Int) = 2) = false := decide_eq_false (by omega)
        clear o2 b2 h2 hL9 r0 q0
        go_upto_region 6 with fail
        go_quiet (fail)
        go_wp2_with fail
        go_roundw
        case rel =>
          refine ⟨k + 1, by omega, by go_num, fun j f' hj hf' => ?_, below_drewN' HB2.out _⟩
          rcases Nat.lt_or_ge j k with a | a
          · exact HNO.out j f' a hf'
          · obtain rfl : j = k := by omega
            rw [HF.out] at hf'
            obtain rfl := Option.some.inj hf'
            exact HM.out
        case measure => simp [intOf]; omega
    · have hke : k = T.length := by omega
      have hR : R = true := by
        rw [HRR.out, first_miss (fun j f hf => HNO.out j f (by rw [hke]; exact lt_of_at hf) hf)]; rfl
      have HRT := Lib.hid hR
      clear hR hke
      go_wp2_with fail
      go_ret
      rw [HRT.out]
      exact ⟨rfl, HBR.out⟩

end Go.Proofs.Ytcglncepmieaaaa
