/-
  The best letter for a set: the model's.
-/
import Derived.Test.YtdelanjkaokiaaaLetD
import Derived.Deep.RegionLaw
namespace Go.Proofs.Ytdelanjkaokiaaa
open Go.RowKit Go.Deep Go.ChangeShapes Go.WideShapes

set_option maxRecDepth 100000 in
set_option maxHeartbeats 4000000 in
theorem l08Letter_any (p : Nat) (A : Option Addr) (n mm c : Nat) (xss : List (List Int)) (B : Option Addr) (d : Nat) (ls : List Int) (A2 : Option Addr) (l cap : Nat) (D : List Int) (b : Nat) (w : World) (hL : LitAt w p A n mm c xss B d ls)
    (hD : NumsAt w A2 l D) (hl : l = 2 ^ n) (hf : ∀ b, b < 2 ^ n → D[b]? = some (depF mm (belB n xss ls) b)) (hbn : b < 2 ^ n) (hd : 0 < depF mm (belB n xss ls) b) :
    Calls Try.prog 54 #[.pointer (some ⟨p, 0, none⟩), .slice A2 l cap, .int .i64 (b : Int)] w fun e w' => e = .returned (.int .i64 (letZ n xss ls b)) ∧ Below w.heap.size w w' := by
  have hmm : mm = xss.length := hL.rows.1.symm
  obtain ⟨P, hPm, hPz, hPw, hPn, _⟩ := letZ_hit hL.good hmm hd
  have hm3 : mm ≤ 3 := hL.good.good.m3
  have hp2 : 2 ^ n ≤ 1024 := pow_le hL.good.good.n10
  have hle : depF mm (belB n xss ls) b ≤ 1024 := depN_le 1024 b
  rw [hPz]
  obtain ⟨f, hfe⟩ : ∃ f, f = depF mm (belB n xss ls) := ⟨_, rfl⟩
  rw [← hfe] at hf hd hPw hPn hle
  obtain ⟨F, hFe⟩ : ∃ F, F = f b := ⟨_, rfl⟩
  rw [← hFe] at hd hPw hPn hle
  have HPM := Lib.hid hPm
  have HPW := Lib.hid hPw
  have HPN := Lib.hid hPn
  have HLI := Lib.hid hL
  have HF := Lib.hid hf
  have HBN := Lib.hid hbn
  have HLL := Lib.hid hl
  have HDD := Lib.hid hD
  have hlb : b < l := by omega
  have HLB := Lib.hid hlb
  have HFE := Lib.hid hFe
  clear hPm hPz hPw hPn hL hf hl hfe hmm hD hFe
  go_enter Try.func54, Try.ntmps54
  go_wp2_with fail
  go_loopw [7] (fun xv wr => ∃ x : Nat, x ≤ P ∧ xv = .int .i64 x ∧ Below w.heap.size w wr) (fun xv _ => mm - (intOf xv).toNat)
  case atStart => exact ⟨0, Nat.zero_le _, rfl, Below.refl _ _⟩
  case round =>
    obtain ⟨x, hx, rfl, hbel⟩ := hrel
    obtain ⟨wi, hwi⟩ : ∃ wi, wi = wr := ⟨_, rfl⟩
    rw [← hwi] at hbel ⊢
    clear hwi
    have HB := Lib.hid hbel
    have HLW := Lib.hid (HLI.out.below hbel)
    have hPm := HPM.out
    have hxm : x < mm := by omega
    have HXM := Lib.hid hxm
    have hx0 : (0 : Int) ≤ (x : Int) := by omega
    have hxi : (x : Int) < (mm : Int) := by omega
    have m1 := HLW.out.box 1 _ rfl
    obtain ⟨WV, hWV⟩ : ∃ WV, WV = worstS f (belB n xss ls b x) := ⟨_, rfl⟩
    have HWV := Lib.hid hWV
    have R0 := Lib.hid (show ∀ W', Below wi.heap.size wi W' → NumsAt W' A2 l D from fun W' hb => HDD.out.below (below_then hbel hb))
    obtain ⟨y, b3, off3, hy, hA2, hcy⟩ := (HDD.out.below hbel).at_ hlb
    subst hA2
    have hyf : y = F := by have := HF.out b HBN.out; rw [hy] at this; rw [HFE.out]; exact Option.some.inj this
    subst hyf
    have hb0 : (0 : Int) ≤ (b : Int) := by omega
    have hbl : (b : Int) < (l : Int) := by omega
    have R1 := Lib.hid (show ∀ W', Below wi.heap.size wi W' → W'.cell? ⟨b3, off3 + b, none⟩ = some (.int .i64 y) from fun W' hb => (hb.cell (cell_lt hcy)).trans hcy)
    clear hbel hWV hy hPm
    go_wp2_with fail
    go_region_law
      (first
        | (go_simp; go_at_call 90
           refine (l08Worst_any p A n mm c xss B n d ls (some ⟨b3, off3, none⟩) l cap D f b x _ HLW.out.good (by first | exact HLW.out.box | exact Box.below HLW.out.box (below_drewN' (Below.refl _ _) 1)) (by first | exact HLW.out.rows | exact HLW.out.rows.below (below_drewN' (Below.refl _ _) 1)) (by first | exact HLW.out.lamps | exact HLW.out.lamps.below (below_drewN' (Below.refl _ _) 1)) (by first | exact R0.out _ (Below.refl _ _) | exact R0.out _ (below_drewN' (Below.refl _ _) 1)) HLL.out HF.out HBN.out HXM.out).mono ?_
           rw [← HWV.out]
           rintro e' w5 ⟨rfl, b5⟩
           have B5 : Hid (Below wi.heap.size wi w5) := Lib.hid (by first | exact b5 | exact below_then (below_drewN' (Below.refl _ _) 1) b5)
           have hcy5 := R1.out w5 B5.out
           clear b5)
        | fail)
    all_goals
      have HB5 := Lib.hid (below_then HB.out B5.out)
      have HWR := Lib.hid (show IntKind.i64.wrap (y - 1) = y - 1 from IntWalk.i64_in _ (by omega))
      rcases hxB : (WV == IntKind.i64.wrap (y - 1)) with _ | _
      · have hxP : ¬ WV = y - 1 := by rw [← HWR.out]; simpa using hxB
        have HXP := Lib.hid (show x < P by
          rcases Nat.lt_or_ge x P with h | h
          · exact h
          · exfalso
            obtain rfl : x = P := by omega
            exact hxP (HWV.out.trans HPW.out))
        clear m1 hcy hcy5 hxP
        go_wp2_with fail
        exact ⟨⟨x + 1, HXP.out, by go_num, HB5.out⟩, by simp [intOf]; omega⟩
      · have hxP : WV = y - 1 := by rw [← HWR.out]; simpa using hxB
        have HXP := Lib.hid (show x = P by
          rcases Nat.lt_or_ge x P with h | h
          · exact absurd (HWV.out.symm.trans hxP) (HPN.out x h)
          · omega)
        clear m1 hcy hcy5 hxP
        go_wp2_with fail
        go_ret
        exact ⟨ret_int (by rw [HXP.out]), HB5.out⟩

end Go.Proofs.Ytdelanjkaokiaaa
