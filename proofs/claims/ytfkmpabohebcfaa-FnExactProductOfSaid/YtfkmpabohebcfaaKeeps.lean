/-
  The contracts of l01Congruent and keepsClasses.
-/
import Derived.Test.YtfkmpabohebcfaaCong
namespace Go.Proofs.Ytfkmpabohebcfaa
open Go.RowKit Go.Deep Go.ChangeShapes Go.WideShapes

/-- What a round reads of the automaton's row x, at two states. -/
theorem row_base {w : World} {A : Option Addr} {n m : Nat} {xss : List (List Int)} (hg : Good n m xss) (h : RowsAt w A m xss) {x : Nat} (hx : x < m) :
    ∃ b off b2 off2 c, A = some ⟨b, off, none⟩ ∧ w.cell? ⟨b, off + x, none⟩ = some (.slice (some ⟨b2, off2, none⟩) n c) ∧ ∀ q, q < n → w.cell? ⟨b2, off2 + q, none⟩ = some (.int .i64 ((nx xss x q : Nat) : Int)) := by
  obtain ⟨row, b, off, A2, c, hrow, hA, hc, hnum⟩ := h.at_ hx
  have hrl : row.length = n := (hg.rows x row hrow).1
  obtain ⟨b2, off2, hA2, hcells⟩ := nums_base hnum (by rw [hrl]; exact hg.n1)
  subst hA2
  rw [hrl] at hc
  exact ⟨b, off, b2, off2, c, hA, hc, fun q hq => hcells q _ (hg.next hrow hq).1⟩

set_option maxRecDepth 100000 in
set_option maxHeartbeats 4000000 in
theorem l01Congruent_any (p : Nat) (A A2 : Option Addr) (n m cap cap2 : Nat) (xss : List (List Int)) (cls : List Int) (w : World) (hg : Good n m xss) (hd : DivOk n cls) (c1 : w.cell? ⟨p, 1, none⟩ = some (.slice A m cap)) (h : RowsAt w A m xss) (h2 : NumsAt w A2 n cls) :
    Calls Try.prog 67 #[.pointer (some ⟨p, 0, none⟩), .slice A2 n cap2] w fun e w' => e = .returned (.bool (congB n m xss cls)) ∧ ∃ d, w' = w.drewN d := by
  have HG := Lib.hid hg
  have HD := Lib.hid hd
  have hn10 : n ≤ 10 := hg.n10
  have hm3 : m ≤ 3 := hg.m3
  obtain ⟨bc, oc, rfl, hcc⟩ := nums_base h2 hg.n1
  have HCC := Lib.hid hcc
  clear hg hd hcc
  go_enter Try.func67, Try.ntmps67
  go_wp2_with fail
  go_loopw [5] (fun i wr => ∃ s d : Nat, s ≤ n ∧ i = .int .i64 s ∧ wr = w.drewN d ∧ ∀ s', s' < s → ∀ t, t < s' → ∀ x, x < m → cl cls s' = cl cls t → cl cls (nx xss x s') = cl cls (nx xss x t)) (fun i _ => n - (intOf i).toNat)
  case atStart => exact ⟨0, 0, Nat.zero_le _, rfl, rfl, by omega⟩
  case round =>
    obtain ⟨s, d, hs, rfl, hw, hall⟩ := hrel
    have HA := Lib.hid hall
    have HW := Lib.hid hw
    clear hall hw
    by_cases hlt : s < n
    · have i1 : (0 : Int) ≤ (s : Int) := by omega
      have i2 : (s : Int) < (n : Int) := by omega
      go_wp2_with fail
      go_loopw [6] (fun i wr => ∃ t d : Nat, t ≤ s ∧ i = .int .i64 t ∧ wr = w.drewN d ∧ ∀ t', t' < t → ∀ x, x < m → cl cls s = cl cls t' → cl cls (nx xss x s) = cl cls (nx xss x t')) (fun i _ => s - (intOf i).toNat)
      case atStart => exact ⟨0, d, Nat.zero_le _, rfl, HW.out, by omega⟩
      case round =>
        obtain ⟨t, d2, ht, rfl, hw2, hall2⟩ := hrel
        have HA2 := Lib.hid hall2
        have HW2 := Lib.hid hw2
        clear hall2 hw2
        by_cases hlt2 : t < s
        · have j1 : (0 : Int) ≤ (t : Int) := by omega
          have j2 : (t : Int) < (s : Int) := by omega
          have j3 : (t : Int) < (n : Int) := by omega
          have HC1 := Lib.hid (HD.out.at_ s hlt)
          have HC2 := Lib.hid (HD.out.at_ t (by omega))
          go_wp2_with fail
          go_loopw [7] (fun i wr => ∃ x d : Nat, x ≤ m ∧ i = .int .i64 x ∧ wr = w.drewN d ∧ ∀ x', x' < x → cl cls s = cl cls t → cl cls (nx xss x' s) = cl cls (nx xss x' t)) (fun i _ => m - (intOf i).toNat)
          case atStart => exact ⟨0, d2, Nat.zero_le _, rfl, HW2.out, by omega⟩
          case round =>
            obtain ⟨x, d3, hx, rfl, hw3, hall3⟩ := hrel
            have HA3 := Lib.hid hall3
            have HW3 := Lib.hid hw3
            have e1 : wr.cell? ⟨p, 1, none⟩ = some (.slice A m cap) := by rw [hw3]; exact c1
            have e2 : wr.cell? ⟨bc, oc + s, none⟩ = some (.int .i64 ((cl cls s : Nat) : Int)) := by rw [hw3]; exact HCC.out s _ HC1.out
            have e3 : wr.cell? ⟨bc, oc + t, none⟩ = some (.int .i64 ((cl cls t : Nat) : Int)) := by rw [hw3]; exact HCC.out t _ HC2.out
            clear hall3 hw3
            by_cases hlt3 : x < m
            · have l1 : (0 : Int) ≤ (x : Int) := by omega
              have l2 : (x : Int) < (m : Int) := by omega
              have l3 : decide ((x : Int) < (m : Int)) = true := by rw [decide_eq_true_eq]; exact l2
              by_cases heq : cl cls s = cl cls t
              · have hbe : (((cl cls s : Nat) : Int) == ((cl cls t : Nat) : Int)) = true := by rw [beq_iff_eq]; omega
                have HE := Lib.hid heq
                obtain ⟨b, off, b2, off2, c, hA, hcr, hcells⟩ := row_base HG.out (by rw [HW3.out]; exact h.drewN d3 : RowsAt wr A m xss) hlt3
                subst hA
                have hq1 := HG.out.nextD hlt3 hlt
                have hq2 := HG.out.nextD hlt3 (show t < n by omega)
                have f1 := hcells s hlt
                have f2 := hcells t (by omega)
                have f3 : wr.cell? ⟨bc, oc + nx xss x s, none⟩ = some (.int .i64 ((cl cls (nx xss x s) : Nat) : Int)) := by rw [HW3.out]; exact HCC.out _ _ (HD.out.at_ _ hq1)
                have f4 : wr.cell? ⟨bc, oc + nx xss x t, none⟩ = some (.int .i64 ((cl cls (nx xss x t) : Nat) : Int)) := by rw [HW3.out]; exact HCC.out _ _ (HD.out.at_ _ hq2)
                have g1 : (0 : Int) ≤ ((nx xss x s : Nat) : Int) := by omega
                have g2 : ((nx xss x s : Nat) : Int) < (n : Int) := by omega
                have g3 : (0 : Int) ≤ ((nx xss x t : Nat) : Int) := by omega
                have g4 : ((nx xss x t : Nat) : Int) < (n : Int) := by omega
                clear hcells heq hq1 hq2
                by_cases hne : cl cls (nx xss x s) = cl cls (nx xss x t)
                · have hbn : (((cl cls (nx xss x s) : Nat) : Int) == ((cl cls (nx xss x t) : Nat) : Int)) = true := by rw [beq_iff_eq]; omega
                  have HNE := Lib.hid hne
                  clear hne
                  go_wp2_with fail
                  go_quiet (fail)
                  go_wp2_with fail
                  go_quiet (fail)
                  go_wp2_with fail
                  go_roundw
                  case rel =>
                    refine ⟨x + 1, _, by omega, by go_num, by rw [HW3.out, World.drewN_drewN], fun x' hx' he => ?_⟩
                    rcases Nat.lt_or_ge x' x with a | a
                    · exact HA3.out x' a he
                    · obtain rfl : x' = x := by omega
                      exact HNE.out
                  case measure => simp [intOf]; omega
                · have hbn : (((cl cls (nx xss x s) : Nat) : Int) == ((cl cls (nx xss x t) : Nat) : Int)) = false := by rw [beq_eq_false_iff_ne]; omega
                  have HNE := Lib.hid (congB_f (show ¬ Cong n m xss cls from fun hc => hne (hc s t x hlt (by omega) hlt3 HE.out)))
                  clear hne
                  go_wp2_with fail
                  go_quiet (fail)
                  go_wp2_with fail
                  go_quiet (fail)
                  go_wp2_with fail
                  go_ret
                  exact ⟨ret_bool HNE.out.symm, _, by rw [HW3.out, World.drewN_drewN, World.drewN_drewN]⟩
              · have hbe : (((cl cls s : Nat) : Int) == ((cl cls t : Nat) : Int)) = false := by rw [beq_eq_false_iff_ne]; omega
                have HE := Lib.hid heq
                clear heq
                go_wp2_with fail
                go_quiet (fail)
                go_wp2_with fail
                go_roundw
                case rel =>
                  refine ⟨t + 1, _, by omega, by go_num, by rw [HW3.out, World.drewN_drewN], fun t' ht' x' hx' he => ?_⟩
                  rcases Nat.lt_or_ge t' t with a | a
                  · exact HA2.out t' a x' hx' he
                  · obtain rfl : t' = t := by omega
                    exact absurd he HE.out
                case measure => simp [intOf]; omega
            · have l3 : decide ((x : Int) < (m : Int)) = false := by rw [decide_eq_false_iff_not]; omega
              go_wp2_with fail
              go_quiet (fail)
              go_wp2_with fail
              go_roundw
              case rel =>
                refine ⟨t + 1, _, by omega, by go_num, by rw [HW3.out, World.drewN_drewN], fun t' ht' x' hx' he => ?_⟩
                rcases Nat.lt_or_ge t' t with a | a
                · exact HA2.out t' a x' hx' he
                · obtain rfl : t' = t := by omega
                  exact HA3.out x' (by omega) he
              case measure => simp [intOf]; omega
        · go_wp2_with fail
          go_roundw
          case rel =>
            refine ⟨s + 1, _, by omega, by go_num, HW2.out, fun s' hs' t' ht' x' hx' he => ?_⟩
            rcases Nat.lt_or_ge s' s with a | a
            · exact HA.out s' a t' ht' x' hx' he
            · obtain rfl : s' = s := by omega
              exact HA2.out t' (by omega) x' hx' he
          case measure => simp [intOf]; omega
    · go_wp2_with fail
      go_ret
      exact ⟨ret_bool (congB_t (cong_low fun s' hs' => HA.out s' (by omega))).symm, _, HW.out⟩

set_option maxRecDepth 100000 in
set_option maxHeartbeats 4000000 in
theorem keepsClasses_any (A A2 : Option Addr) (n m cap cap2 : Nat) (xss : List (List Int)) (cls : List Int) (w : World) (hg : Good n m xss) (hd : DivOk n cls) (h : RowsAt w A m xss) (h2 : NumsAt w A2 n cls) :
    Calls Try.prog 70 #[.agg #[.int .i64 (n : Int), .slice A m cap], .slice A2 n cap2] w fun e w' => e = .returned (.bool (congB n m xss cls)) ∧ Below w.heap.size w w' := by
  have HG := Lib.hid hg
  have HD := Lib.hid hd
  have hn10 : n ≤ 10 := hg.n10
  have hm3 : m ≤ 3 := hg.m3
  have hn1 : 1 ≤ n := hg.n1
  have b0 : Below w.heap.size w (w.alloc (.cells #[.int .i64 (n : Int), .slice A m cap] 29)) := (Below.refl _ _).alloc (Nat.le_refl _) _
  have B0 := Lib.hid b0
  have H0 := Lib.hid (h.below b0)
  have H2 := Lib.hid (h2.below b0)
  clear hg hd b0
  go_enter Try.func70, Try.ntmps70
  go_wp2_with fail
  refine (leastStates_any A2 n cap2 cls _ H2.out (by omega)).mono ?_
  rintro e w1 ⟨v, rfl, o1, b1⟩
  obtain ⟨V, cv, rfl⟩ := own_form o1
  have d1 : w1.cell? ⟨w.heap.size, 1, none⟩ = some (.slice A m cap) := (b1.cell (by simp)).trans (by go_cell)
  have hR : RowsAt w1 A m xss := H0.out.below b1
  have HR := Lib.hid hR
  obtain ⟨bc, oc, hA2, hcc⟩ := nums_base (H2.out.below b1) hn1
  subst hA2
  have hcnt : 0 < cntK cls n := Nat.lt_of_le_of_lt (Nat.zero_le _) (HD.out.lt 0 hn1)
  have hll : (leastK cls n).length = cntK cls n := leastK_len cls n
  obtain ⟨bl, ol, hV, hlc⟩ := nums_base (NumsAt.own o1 rfl rfl) (by rw [hll]; exact hcnt)
  subst hV
  have HCC := Lib.hid hcc
  have HLC := Lib.hid hlc
  have HLL := Lib.hid hll
  have B1 := Lib.hid (below_then B0.out b1)
  clear o1 b1 hR hcc hlc hcnt
  go_wp2_with fail
  go_loopw [15] (fun i wr => ∃ x d : Nat, x ≤ m ∧ i = .int .i64 x ∧ wr = w1.drewN d ∧ ∀ x', x' < x → ∀ s, s < n → cl cls (nx xss x' s) = cl cls (nx xss x' (lst cls n (cl cls s)))) (fun i _ => m - (intOf i).toNat)
  case atStart => exact ⟨0, 0, Nat.zero_le _, rfl, rfl, by omega⟩
  case round =>
    obtain ⟨x, d, hx, rfl, hw, hall⟩ := hrel
    have HA := Lib.hid hall
    have HW := Lib.hid hw
    clear hall
    by_cases hlt : x < m
    · have i1 : (0 : Int) ≤ (x : Int) := by omega
      have i2 : (x : Int) < (m : Int) := by omega
      obtain ⟨b, off, b2, off2, c, hA, hcr, hcells⟩ := row_base HG.out (by rw [hw]; exact HR.out.drewN d : RowsAt wr A m xss) hlt
      subst hA
      have hcells1 : ∀ q, q < n → w1.cell? ⟨b2, off2 + q, none⟩ = some (.int .i64 ((nx xss x q : Nat) : Int)) := fun q hq => by have := hcells q hq; rw [hw] at this; exact this
      have HCE := Lib.hid hcells1
      clear hw hcells hcells1
      go_wp2_with fail
      go_loopw [21] (fun i wr => ∃ s d : Nat, s ≤ n ∧ i = .int .i64 s ∧ wr = w1.drewN d ∧ ∀ s', s' < s → cl cls (nx xss x s') = cl cls (nx xss x (lst cls n (cl cls s')))) (fun i _ => n - (intOf i).toNat)
      case atStart => exact ⟨0, d, Nat.zero_le _, rfl, HW.out, by omega⟩
      case round =>
        obtain ⟨s, d2, hs, rfl, hw2, hall2⟩ := hrel
        have HA2 := Lib.hid hall2
        have HW2 := Lib.hid hw2
        clear hall2
        by_cases hlt2 : s < n
        · have j1 : (0 : Int) ≤ (s : Int) := by omega
          have j2 : (s : Int) < (n : Int) := by omega
          have hq1 := HG.out.nextD hlt hlt2
          have hcl := HD.out.lt s hlt2
          obtain ⟨hl1, hl2, hl3⟩ := HD.out.least (cl cls s) hcl
          have hq2 := HG.out.nextD hlt hl2
          have f0 : wr.cell? ⟨b2, off2 + s, none⟩ = some (.int .i64 ((nx xss x s : Nat) : Int)) := by rw [hw2]; exact HCE.out s hlt2
          have f1 : wr.cell? ⟨bc, oc + nx xss x s, none⟩ = some (.int .i64 ((cl cls (nx xss x s) : Nat) : Int)) := by rw [hw2]; exact HCC.out _ _ (HD.out.at_ _ hq1)
          have f2 : wr.cell? ⟨bc, oc + s, none⟩ = some (.int .i64 ((cl cls s : Nat) : Int)) := by rw [hw2]; exact HCC.out _ _ (HD.out.at_ _ hlt2)
          have f3 : wr.cell? ⟨bl, ol + cl cls s, none⟩ = some (.int .i64 ((lst cls n (cl cls s) : Nat) : Int)) := by rw [hw2]; exact HLC.out _ _ hl1
          have f4 : wr.cell? ⟨b2, off2 + lst cls n (cl cls s), none⟩ = some (.int .i64 ((nx xss x (lst cls n (cl cls s)) : Nat) : Int)) := by rw [hw2]; exact HCE.out _ hl2
          have f5 : wr.cell? ⟨bc, oc + nx xss x (lst cls n (cl cls s)), none⟩ = some (.int .i64 ((cl cls (nx xss x (lst cls n (cl cls s))) : Nat) : Int)) := by rw [hw2]; exact HCC.out _ _ (HD.out.at_ _ hq2)
          have k1 : (0 : Int) ≤ ((nx xss x s : Nat) : Int) := by omega
          have k2 : ((nx xss x s : Nat) : Int) < (n : Int) := by omega
          have k3 : (0 : Int) ≤ ((cl cls s : Nat) : Int) := by omega
          have k4 : ((cl cls s : Nat) : Int) < ((cntK cls n : Nat) : Int) := by omega
          have k5 : (0 : Int) ≤ ((lst cls n (cl cls s) : Nat) : Int) := by omega
          have k6 : ((lst cls n (cl cls s) : Nat) : Int) < (n : Int) := by omega
          have k7 : (0 : Int) ≤ ((nx xss x (lst cls n (cl cls s)) : Nat) : Int) := by omega
          have k8 : ((nx xss x (lst cls n (cl cls s)) : Nat) : Int) < (n : Int) := by omega
          clear hw2 hq1 hq2 hcl hl1 hl2 hl3 hll
          by_cases hne : cl cls (nx xss x s) = cl cls (nx xss x (lst cls n (cl cls s)))
          · have hbn : (((cl cls (nx xss x s) : Nat) : Int) == ((cl cls (nx xss x (lst cls n (cl cls s))) : Nat) : Int)) = true := by rw [beq_iff_eq]; omega
            have HNE := Lib.hid hne
            clear hne
            go_wp2_with fail
            go_quiet (fail)
            go_wp2_with fail
            go_roundw
            case rel =>
              refine ⟨s + 1, _, by omega, by go_num, by rw [HW2.out, World.drewN_drewN], fun s' hs' => ?_⟩
              rcases Nat.lt_or_ge s' s with a | a
              · exact HA2.out s' a
              · obtain rfl : s' = s := by omega
                exact HNE.out
            case measure => simp [intOf]; omega
          · have hbn : (((cl cls (nx xss x s) : Nat) : Int) == ((cl cls (nx xss x (lst cls n (cl cls s))) : Nat) : Int)) = false := by rw [beq_eq_false_iff_ne]; omega
            have HNE := Lib.hid (congB_f (cong_not (m := m) HD.out hlt2 hlt hne))
            clear hne
            go_wp2_with fail
            go_quiet (fail)
            go_wp2_with fail
            go_ret
            exact ⟨ret_bool HNE.out.symm, by rw [HW2.out]; exact below_drewN' (below_drewN' B1.out _) _⟩
        · clear hw2 hll
          go_wp2_with fail
          go_roundw
          case rel =>
            refine ⟨x + 1, _, by omega, by go_num, HW2.out, fun x' hx' s' hs' => ?_⟩
            rcases Nat.lt_or_ge x' x with a | a
            · exact HA.out x' a s' hs'
            · obtain rfl : x' = x := by omega
              exact HA2.out s' (by omega)
          case measure => simp [intOf]; omega
    · clear hw hll
      go_wp2_with fail
      go_ret
      exact ⟨ret_bool (congB_t (cong_least HD.out fun x' hx' => HA.out x' (by omega))).symm, by rw [HW.out]; exact below_drewN' B1.out _⟩

end Go.Proofs.Ytfkmpabohebcfaa
