/-
  Fewer choices: the contracts of both RefineChoice.
-/
import Derived.Test.YtikimfncpemmkabBy
import Derived.Deep.DeepCutAuto
namespace Go.Proofs.Ytikimfncpemmkab
open Go.RowKit Go.Deep Go.ChangeShapes Go.WideShapes
open Hunt Moved

theorem i64_andNot_nat (a b : Nat) (ha : a < 1024) (hb : b < 1024) : bits .andNot .i64 (a : Int) (b : Int) = ((a &&& (2 ^ 64 - (b + 1)) : Nat) : Int) := by
  have hx : a &&& (2 ^ 64 - (b + 1)) ≤ a := Nat.and_le_left
  show IntKind.i64.wrap ((BitVec.ofInt 64 (a : Int) &&& ~~~BitVec.ofInt 64 (b : Int)).toNat : Int) = _
  rw [BitVec.toNat_and, BitVec.toNat_not, ofInt_i64 a (by omega), ofInt_i64 b (by omega)]
  have e : 2 ^ 64 - 1 - b = 2 ^ 64 - (b + 1) := by omega
  rw [e]
  exact wrap_i64' (by omega)
theorem part_iff {a b : Nat} (ha10 : a < 1024) (hb : b < 1024) : (a &&& (2 ^ 64 - (b + 1)) = 0) ↔ b &&& a = a := by
  have hb64 : b < 2 ^ 64 := by omega
  have ht : ∀ i, (2 ^ 64 - (b + 1)).testBit i = (decide (i < 64) && !b.testBit i) := fun i => Nat.testBit_two_pow_sub_succ hb64 i
  constructor
  · intro h
    refine Nat.eq_of_testBit_eq fun i => ?_
    have h1 : (a &&& (2 ^ 64 - (b + 1))).testBit i = false := by rw [h]; simp
    rw [Nat.testBit_and, ht] at h1
    rw [Nat.testBit_and]
    rcases ha : a.testBit i with _ | _
    · simp
    · rw [ha, Bool.true_and] at h1
      rcases hbi : b.testBit i with _ | _
      · rw [hbi, Bool.not_false, Bool.and_true, decide_eq_false_iff_not] at h1
        rw [Nat.testBit_lt_two_pow (Nat.lt_of_lt_of_le ha10 (Nat.le_trans (show 1024 ≤ 2 ^ 64 by decide) (Nat.pow_le_pow_right (by decide) (by omega))))] at ha
        cases ha
      · rfl
  · intro h
    refine Nat.eq_of_testBit_eq fun i => ?_
    rw [Nat.testBit_and, ht, Nat.zero_testBit]
    rcases ha : a.testBit i with _ | _
    · rfl
    · have h1 : (b &&& a).testBit i = true := by rw [h]; exact ha
      rw [Nat.testBit_and, ha, Bool.and_true] at h1
      simp [h1]
theorem part_is {a b : Nat} (ha : a < 1024) (hb : b < 1024) : (bits .andNot .i64 (a : Int) (b : Int) != 0) = !(b &&& a == a) := by
  rw [i64_andNot_nat a b ha hb]
  have h := part_iff ha hb
  by_cases e : b &&& a = a
  · have h2 := h.2 e
    rw [h2]; simp [e]
  · have h2 : ¬ (a &&& (2 ^ 64 - (b + 1)) = 0) := fun x => e (h.1 x)
    obtain ⟨x, hx⟩ : ∃ x, x = a &&& (2 ^ 64 - (b + 1)) := ⟨_, rfl⟩
    rw [← hx] at h2 ⊢
    have h3 : ((x : Nat) : Int) ≠ 0 := by omega
    have e2 : (b &&& a == a) = false := by rw [beq_eq_false_iff_ne]; exact e
    rw [e2, bne_iff_ne.2 h3]
    rfl

/-- Each set of the first list is a part of that of the other one. -/
def subAt (bs cs : List Nat) (j : Nat) : Bool := cs.getD j 0 &&& bs.getD j 0 == bs.getD j 0
def subL (bs cs : List Nat) : Bool := (List.range bs.length).all (subAt bs cs)
def subT (xss yss : List (List (List Int))) : Bool := (List.range xss.length).all fun k => subL (nextB xss k) (nextB yss k)
def refineChoice (s : Int) (xss : List (List (List Int))) (s' : Int) (yss : List (List (List Int))) : Bool × Int :=
  if okC s xss = true ∧ okC s' yss = true then (if s = s' ∧ xss.length = yss.length then (subT xss yss, 0) else (false, 2)) else (false, 1)
theorem refineChoice_1 {s s' : Int} {xss yss : List (List (List Int))} (h : ¬ (okC s xss = true ∧ okC s' yss = true)) : refineChoice s xss s' yss = (false, 1) := by unfold refineChoice; rw [if_neg h]
theorem refineChoice_2 {s s' : Int} {xss yss : List (List (List Int))} (h : okC s xss = true ∧ okC s' yss = true) (h' : ¬ (s = s' ∧ xss.length = yss.length)) : refineChoice s xss s' yss = (false, 2) := by unfold refineChoice; rw [if_pos h, if_neg h']
theorem refineChoice_0 {s s' : Int} {xss yss : List (List (List Int))} (h : okC s xss = true ∧ okC s' yss = true) (h' : s = s' ∧ xss.length = yss.length) : refineChoice s xss s' yss = (subT xss yss, 0) := by unfold refineChoice; rw [if_pos h, if_pos h']
theorem subL_all {bs cs : List Nat} {n : Nat} (hn : bs.length = n) (h : ∀ j, j < n → subAt bs cs j = true) : subL bs cs = true := by
  subst hn
  unfold subL
  rw [List.all_eq_true]
  intro j hj
  exact h j (List.mem_range.1 hj)
theorem subL_no {bs cs : List Nat} {n j : Nat} (hn : bs.length = n) (hj : j < n) (h : subAt bs cs j = false) : subL bs cs = false := by
  subst hn
  unfold subL
  rw [List.all_eq_false]
  exact ⟨j, List.mem_range.2 hj, by simp [h]⟩
theorem subT_all {xss yss : List (List (List Int))} {m : Nat} (hm : xss.length = m) (h : ∀ k, k < m → subL (nextB xss k) (nextB yss k) = true) : subT xss yss = true := by
  subst hm
  unfold subT
  rw [List.all_eq_true]
  intro j hj
  exact h j (List.mem_range.1 hj)
theorem subT_no {xss yss : List (List (List Int))} {m k : Nat} (hm : xss.length = m) (hk : k < m) (h : subL (nextB xss k) (nextB yss k) = false) : subT xss yss = false := by
  subst hm
  unfold subT
  rw [List.all_eq_false]
  exact ⟨k, List.mem_range.2 hk, by simp [h]⟩

set_option maxRecDepth 100000 in
set_option maxHeartbeats 4000000 in
theorem specRefineChoice_any (s s' : Int) (A A' : Option Addr) (m m' cap cap' : Nat) (xss yss : List (List (List Int))) (w : World) (h : TabsAt w A m xss) (h' : TabsAt w A' m' yss) (hm : m ≤ 4611686018427387904) (hm' : m' ≤ 4611686018427387904)
    (hrows : Wide3 4611686018427387904 xss) (hrows' : Wide3 4611686018427387904 yss) :
    Calls Try.prog 14 #[.agg #[.int .i64 s, .slice A m cap], .agg #[.int .i64 s', .slice A' m' cap']] w fun e w' => e = .returned (.tuple #[.bool (refineChoice s xss s' yss).1, .int .i64 (refineChoice s xss s' yss).2]) ∧ Below w.heap.size w w' := by
  have HR := Lib.hid hrows
  have HR' := Lib.hid hrows'
  have HM := Lib.hid h.1
  have HM' := Lib.hid h'.1
  obtain ⟨w0, hw0⟩ : ∃ w0, w0 = (w.alloc (.cells #[.int .i64 s, .slice A m cap] 28)).alloc (.cells #[.int .i64 s', .slice A' m' cap'] 28) := ⟨_, rfl⟩
  have b0 : Below w.heap.size w w0 := by rw [hw0]; go_grown
  have x0 : w0.cell? ⟨w.heap.size, 0, none⟩ = some (.int .i64 s) := by rw [hw0]; go_cell
  have x1 : w0.cell? ⟨w.heap.size, 1, none⟩ = some (.slice A m cap) := by rw [hw0]; go_cell
  have y0 : w0.cell? ⟨w.heap.size + 1, 0, none⟩ = some (.int .i64 s') := by rw [hw0]; go_cell
  have y1 : w0.cell? ⟨w.heap.size + 1, 1, none⟩ = some (.slice A' m' cap') := by rw [hw0]; go_cell
  have H0 := Lib.hid (h.below b0)
  have H0' := Lib.hid (h'.below b0)
  have B0 := Lib.hid b0
  have HW0 := Lib.hid hw0
  clear hrows hrows' b0 hw0 h h'
  go_enter Try.func14, Try.ntmps14
  go_wp2_with fail
  rw [← HW0.out]
  refine (l04Choices_any w.heap.size s A m cap xss _ x0 x1 H0.out hm HR.out).mono ?_
  rcases hok : okC s xss with _ | _
  · have HF := Lib.hid (refineChoice_1 (s' := s') (yss := yss) (fun hh => by rw [hok] at hh; cases hh.1))
    rintro e w1 ⟨rfl, d, rfl⟩
    go_wp2_with fail
    go_ret2
    exact ⟨two_mkt HF.out, below_drewN' B0.out _⟩
  · rintro e w1 ⟨rfl, d, hw1⟩
    have b1 : Below w0.heap.size w0 w1 := by rw [hw1]; exact below_drewN' (Below.refl _ _) d
    have x0' : w1.cell? ⟨w.heap.size, 0, none⟩ = some (.int .i64 s) := (b1.cell (cell_lt x0)).trans x0
    have x1' : w1.cell? ⟨w.heap.size, 1, none⟩ = some (.slice A m cap) := (b1.cell (cell_lt x1)).trans x1
    have y0' : w1.cell? ⟨w.heap.size + 1, 0, none⟩ = some (.int .i64 s') := (b1.cell (cell_lt y0)).trans y0
    have y1' : w1.cell? ⟨w.heap.size + 1, 1, none⟩ = some (.slice A' m' cap') := (b1.cell (cell_lt y1)).trans y1
    have H1 := Lib.hid (H0.out.below b1)
    have H1' := Lib.hid (H0'.out.below b1)
    have B1 := Lib.hid (below_then B0.out b1)
    clear b1 hw1 x0 x1 y0 y1
    go_wp2_with fail
    refine (l04Choices_any (w.heap.size + 1) s' A' m' cap' yss _ y0' y1' H1'.out hm' HR'.out).mono ?_
    rcases hok' : okC s' yss with _ | _
    · have HF := Lib.hid (refineChoice_1 (s := s) (xss := xss) (s' := s') (yss := yss) (fun hh => by rw [hok'] at hh; cases hh.2))
      rintro e w2 ⟨rfl, d2, rfl⟩
      go_wp2_with fail
      go_ret2
      exact ⟨two_mkt HF.out, below_drewN' B1.out _⟩
    · rintro e w2 ⟨rfl, d2, hw2⟩
      have b2 : Below w1.heap.size w1 w2 := by rw [hw2]; exact below_drewN' (Below.refl _ _) d2
      have x0 : w2.cell? ⟨w.heap.size, 0, none⟩ = some (.int .i64 s) := (b2.cell (cell_lt x0')).trans x0'
      have x1 : w2.cell? ⟨w.heap.size, 1, none⟩ = some (.slice A m cap) := (b2.cell (cell_lt x1')).trans x1'
      have y0 : w2.cell? ⟨w.heap.size + 1, 0, none⟩ = some (.int .i64 s') := (b2.cell (cell_lt y0')).trans y0'
      have y1 : w2.cell? ⟨w.heap.size + 1, 1, none⟩ = some (.slice A' m' cap') := (b2.cell (cell_lt y1')).trans y1'
      have H2 := Lib.hid (H1.out.below b2)
      have H2' := Lib.hid (H1'.out.below b2)
      have B2 := Lib.hid (below_then B1.out b2)
      clear b2 hw2 x0' x1' y0' y1'
      by_cases hss : s = s'
      · by_cases hmm : m = m'
        · have HF := Lib.hid (refineChoice_0 ⟨hok, hok'⟩ ⟨hss, by rw [HM.out, HM'.out, hmm]⟩)
          subst hss
          subst hmm
          obtain ⟨n, hsn, hg⟩ := goodC_of hok HM.out
          obtain ⟨n', hsn', hg'⟩ := goodC_of hok' HM'.out
          subst hsn
          obtain rfl : n = n' := by omega
          have HG := Lib.hid hg
          have HG' := Lib.hid hg'
          have hne : (((n : Nat) : Int) != (n : Int)) = false := by simp
          have hne2 : (((m : Nat) : Int) != (m : Int)) = false := by simp
          have hn10 : n ≤ 10 := hg.n10
          clear hg hg' hok hok' hsn'
          go_wp2_with fail
          clear hne hne2
          go_loopw [6] (fun i wr => ∃ k d : Nat, k ≤ m ∧ i = .int .i64 k ∧ wr = w2.drewN d ∧ ∀ j, j < k → subL (nextB xss j) (nextB yss j) = true) (fun i _ => m - (intOf i).toNat)
          case atStart => exact ⟨0, 0, Nat.zero_le _, rfl, rfl, fun j hj => absurd hj (Nat.not_lt_zero _)⟩
          case round =>
            obtain ⟨k, d, hk, rfl, hw, hall⟩ := hrel
            have HA := Lib.hid hall
            have HW := Lib.hid hw
            have t1 : TabsAt wr A m xss := by rw [hw]; exact H2.out.drewN d
            have t2 : TabsAt wr A' m yss := by rw [hw]; exact H2'.out.drewN d
            have u1 : wr.cell? ⟨w.heap.size, 1, none⟩ = some (.slice A m cap) := by rw [hw]; exact x1
            have u2 : wr.cell? ⟨w.heap.size + 1, 1, none⟩ = some (.slice A' m cap') := by rw [hw]; exact y1
            clear hall hw
            by_cases hlt : k < m
            · obtain ⟨xs, b, off, A1, c1, hx, rfl, hc, hnum⟩ := t1.at_ hlt
              obtain ⟨ys, b', off', A1', c1', hy, rfl, hc', hnum'⟩ := t2.at_ hlt
              have hxl : xs.length = n := by
                obtain ⟨z, h1, h2, _⟩ := HG.out.row k hlt
                rw [hx] at h1; obtain rfl := Option.some.inj h1; exact h2
              have hyl : ys.length = n := by
                obtain ⟨z, h1, h2, _⟩ := HG'.out.row k hlt
                rw [hy] at h1; obtain rfl := Option.some.inj h1; exact h2
              have hnx : nextB xss k = xs.map setN := by unfold nextB; rw [List.getD_eq_getElem?_getD, hx]; rfl
              have hny : nextB yss k = ys.map setN := by unfold nextB; rw [List.getD_eq_getElem?_getD, hy]; rfl
              have HNX := Lib.hid hnx
              have HNY := Lib.hid hny
              have HXL := Lib.hid hxl
              have OX := Lib.hid (HG.out.opts HR.out k xs hx).2
              have OY := Lib.hid (HG'.out.opts HR'.out k ys hy).2
              rw [hxl] at hc hnum
              rw [hyl] at hc' hnum'
              have HN := Lib.hid hnum
              have HN' := Lib.hid hnum'
              have HC := Lib.hid hc
              have HC' := Lib.hid hc'
              have hk0 : (0 : Int) ≤ (k : Int) := by omega
              have hkn : (k : Int) < (m : Int) := by omega
              clear hx hy hnum hnum' hnx hny hxl hyl t1 t2
              go_wp2_with fail
              go_loopw [7] (fun j wi => ∃ q d2 : Nat, q ≤ n ∧ j = .int .i64 q ∧ wi = wr.drewN d2 ∧ ∀ r, r < q → subAt (xs.map setN) (ys.map setN) r = true) (fun j _ => n - (intOf j).toNat)
              case atStart => exact ⟨0, 0, Nat.zero_le _, rfl, rfl, fun j hj => absurd hj (Nat.not_lt_zero _)⟩
              case round =>
                obtain ⟨q, d2, hq, rfl, hwi, hin⟩ := hrel
                have HI := Lib.hid hin
                have HWI := Lib.hid hwi
                have g1 : World.cell? ‹World› ⟨w.heap.size, 1, none⟩ = some (.slice (some ⟨b, off, none⟩) m cap) := by rw [hwi]; exact u1
                have g2 : World.cell? ‹World› ⟨w.heap.size + 1, 1, none⟩ = some (.slice (some ⟨b', off', none⟩) m cap') := by rw [hwi]; exact u2
                have g3 : World.cell? ‹World› ⟨b, off + k, none⟩ = some (.slice A1 n c1) := by rw [hwi]; exact HC.out
                have g4 : World.cell? ‹World› ⟨b', off' + k, none⟩ = some (.slice A1' n c1') := by rw [hwi]; exact HC'.out
                have g5 : RowsAt ‹World› A1 n xs := by rw [hwi]; exact HN.out.drewN d2
                have g6 : RowsAt ‹World› A1' n ys := by rw [hwi]; exact HN'.out.drewN d2
                clear hin hwi
                by_cases hqn : q < n
                · obtain ⟨x, b3, off3, A3, c3, hx, rfl, hcx, hnx⟩ := g5.at_ hqn
                  obtain ⟨y, b4, off4, A4, c4, hy, rfl, hcy, hny⟩ := g6.at_ hqn
                  obtain ⟨hxl, hx10⟩ := OX.out q x hx
                  obtain ⟨hyl, hy10⟩ := OY.out q y hy
                  have HX1 := Lib.hid hnx
                  have HY1 := Lib.hid hny
                  have HX10 := Lib.hid hx10
                  have HY10 := Lib.hid hy10
                  have hsx : setN x < 1024 := setN_lt _ x rfl hx10
                  have hsy : setN y < 1024 := setN_lt _ y rfl hy10
                  have hpart := part_is hsx hsy
                  have hsub : subAt (xs.map setN) (ys.map setN) q = (setN y &&& setN x == setN x) := by
                    unfold subAt
                    rw [List.getD_eq_getElem?_getD, List.getD_eq_getElem?_getD, List.getElem?_map, List.getElem?_map, hx, hy]
                    rfl
                  rw [← hsub] at hpart
                  have HSUB := Lib.hid hsub
                  obtain ⟨dx, hdx⟩ : ∃ dx : Int, dx = ((setN x : Nat) : Int) := ⟨_, rfl⟩
                  obtain ⟨dy, hdy⟩ : ∃ dy : Int, dy = ((setN y : Nat) : Int) := ⟨_, rfl⟩
                  rw [← hdx, ← hdy] at hpart
                  have HDX := Lib.hid hdx
                  have HDY := Lib.hid hdy
                  obtain ⟨z, hz⟩ : ∃ z : Int, z = bits .andNot .i64 dx dy := ⟨_, rfl⟩
                  rw [← hz] at hpart
                  have hz' := hz.symm
                  have hq0 : (0 : Int) ≤ (q : Int) := by omega
                  have hqn' : (q : Int) < (n : Int) := by omega
                  have qx := fun (j : Nat) => quiet_eq (n := j) (w := ‹World›) (by have := l02Bits_any A3 x.length c3 x (World.drewN ‹World› j) (HX1.out.drewN _) HX10.out hxl; rw [← HDX.out] at this; exact this)
                  have qy := fun (j : Nat) => quiet_eq (n := j) (w := ‹World›) (by have := l02Bits_any A4 y.length c4 y (World.drewN ‹World› j) (HY1.out.drewN _) HY10.out hyl; rw [← HDY.out] at this; exact this)
                  have QX := Lib.hid qx
                  have QY := Lib.hid qy
                  clear hx hy hnx hny hx10 hy10 hsx hsy hsub hdx hdy hz qx qy g5 g6
                  rcases hv : subAt (xs.map setN) (ys.map setN) q with _ | _
                  · have HV := Lib.hid hv
                    rw [hv] at hpart
                    have hp2 : (z != 0) = true := hpart
                    clear hv hpart
                    go_wp2_with fail
                    go_quiet (first | (go_at_call_of 74 (Value.slice A3 x.length c3); exact QX.out _) | (go_at_call_of 74 (Value.slice A4 y.length c4); exact QY.out _))
                    go_wp2_with fail
                    go_ret2
                    refine ⟨two_mkt (by rw [HF.out, subT_no HM.out hlt]; rw [HNX.out, HNY.out]; exact subL_no (by rw [List.length_map, HXL.out]) hqn HV.out), ?_⟩
                    rw [HWI.out, HW.out]
                    exact below_drewN' (below_drewN' (below_drewN' B2.out _) _) _
                  · have HV := Lib.hid hv
                    rw [hv] at hpart
                    have hp2 : (z != 0) = false := hpart
                    clear hv hpart
                    go_wp2_with fail
                    go_quiet (first | (go_at_call_of 74 (Value.slice A3 x.length c3); exact QX.out _) | (go_at_call_of 74 (Value.slice A4 y.length c4); exact QY.out _))
                    go_wp2_with fail
                    go_roundw
                    case rel => exact ⟨q + 1, _, by omega, by go_num, by rw [HWI.out, World.drewN_drewN], fun r hr => by
                      rcases Nat.lt_or_ge r q with a | a
                      · exact HI.out r a
                      · obtain rfl : r = q := by omega
                        exact HV.out⟩
                    case measure => simp [intOf]; omega
                · have hqe : q = n := by omega
                  have HQ := Lib.hid hqe
                  clear g5 g6 hqe
                  go_wp2_with fail
                  go_roundw
                  case rel => exact ⟨k + 1, _, by omega, by go_num, by rw [HWI.out, HW.out, World.drewN_drewN], fun j hj => by
                    rcases Nat.lt_or_ge j k with a | a
                    · exact HA.out j a
                    · obtain rfl : j = k := by omega
                      rw [HNX.out, HNY.out]
                      exact subL_all (by rw [List.length_map, HXL.out]) (fun r hr => HI.out r (by rw [HQ.out]; exact hr))⟩
                  case measure => simp [intOf]; omega
            · have hkm : k = m := by omega
              have HE := Lib.hid (show refineChoice (n : Int) xss (n : Int) yss = (true, 0) by
                rw [HF.out, subT_all HM.out (fun j hj => HA.out j (by rw [hkm]; exact hj))])
              clear hkm t1 t2
              go_wp2_with fail
              go_ret2
              refine ⟨two_mkt HE.out, ?_⟩
              rw [HW.out]
              exact below_drewN' B2.out _
        · have HF := Lib.hid (refineChoice_2 ⟨hok, hok'⟩ (fun hh => hmm (by rw [← HM.out, ← HM'.out]; exact hh.2)))
          subst hss
          have hne : (s != s) = false := by simp
          have hne2 : (((m : Nat) : Int) != (m' : Int)) = true := by rw [bne_iff_ne]; omega
          clear hmm
          go_wp2_with fail
          go_ret2
          exact ⟨two_mkt HF.out, B2.out⟩
      · have HF := Lib.hid (refineChoice_2 ⟨hok, hok'⟩ (fun hh => hss hh.1))
        have hne : (s != s') = true := by rw [bne_iff_ne]; exact hss
        clear hss
        go_wp2_with fail
        go_ret2
        exact ⟨two_mkt HF.out, B2.out⟩

set_option maxRecDepth 100000 in
set_option maxHeartbeats 4000000 in
theorem implRefineChoice_any (s s' : Int) (A A' : Option Addr) (m m' cap cap' : Nat) (xss yss : List (List (List Int))) (w : World) (h : TabsAt w A m xss) (h' : TabsAt w A' m' yss) (hm : m ≤ 4611686018427387904) (hm' : m' ≤ 4611686018427387904)
    (hrows : Wide3 4611686018427387904 xss) (hrows' : Wide3 4611686018427387904 yss) :
    Calls Try.prog 16 #[.agg #[.int .i64 s, .slice A m cap], .agg #[.int .i64 s', .slice A' m' cap']] w fun e w' => e = .returned (.tuple #[.bool (refineChoice s xss s' yss).1, .int .i64 (refineChoice s xss s' yss).2]) ∧ Below w.heap.size w w' := by
  have HR := Lib.hid hrows
  have HR' := Lib.hid hrows'
  have HM := Lib.hid h.1
  have HM' := Lib.hid h'.1
  obtain ⟨w0, hw0⟩ : ∃ w0, w0 = (w.alloc (.cells #[.int .i64 s, .slice A m cap] 28)).alloc (.cells #[.int .i64 s', .slice A' m' cap'] 28) := ⟨_, rfl⟩
  have b0 : Below w.heap.size w w0 := by rw [hw0]; go_grown
  have x0 : w0.cell? ⟨w.heap.size, 0, none⟩ = some (.int .i64 s) := by rw [hw0]; go_cell
  have x1 : w0.cell? ⟨w.heap.size, 1, none⟩ = some (.slice A m cap) := by rw [hw0]; go_cell
  have y0 : w0.cell? ⟨w.heap.size + 1, 0, none⟩ = some (.int .i64 s') := by rw [hw0]; go_cell
  have y1 : w0.cell? ⟨w.heap.size + 1, 1, none⟩ = some (.slice A' m' cap') := by rw [hw0]; go_cell
  have H0 := Lib.hid (h.below b0)
  have H0' := Lib.hid (h'.below b0)
  have B0 := Lib.hid b0
  have HW0 := Lib.hid hw0
  clear hrows hrows' b0 hw0 h h'
  go_enter Try.func16, Try.ntmps16
  go_wp2_with fail
  rw [← HW0.out]
  refine (implValidChoice_any s A m cap xss _ H0.out hm HR.out).mono ?_
  rcases hok : okC s xss with _ | _
  · have HF := Lib.hid (refineChoice_1 (s' := s') (yss := yss) (fun hh => by rw [hok] at hh; cases hh.1))
    rintro e w1 ⟨rfl, b1⟩
    have B1 := Lib.hid (below_then B0.out b1)
    clear b1
    go_wp2_with fail
    go_ret2
    exact ⟨two_mkt HF.out, B1.out⟩
  · rintro e w1 ⟨rfl, b1⟩
    have x0' : w1.cell? ⟨w.heap.size, 0, none⟩ = some (.int .i64 s) := (b1.cell (cell_lt x0)).trans x0
    have x1' : w1.cell? ⟨w.heap.size, 1, none⟩ = some (.slice A m cap) := (b1.cell (cell_lt x1)).trans x1
    have y0' : w1.cell? ⟨w.heap.size + 1, 0, none⟩ = some (.int .i64 s') := (b1.cell (cell_lt y0)).trans y0
    have y1' : w1.cell? ⟨w.heap.size + 1, 1, none⟩ = some (.slice A' m' cap') := (b1.cell (cell_lt y1)).trans y1
    have H1 := Lib.hid (H0.out.below b1)
    have H1' := Lib.hid (H0'.out.below b1)
    have B1 := Lib.hid (below_then B0.out b1)
    clear b1 x0 x1 y0 y1
    go_wp2_with fail
    refine (implValidChoice_any s' A' m' cap' yss _ H1'.out hm' HR'.out).mono ?_
    rcases hok' : okC s' yss with _ | _
    · have HF := Lib.hid (refineChoice_1 (s := s) (xss := xss) (s' := s') (yss := yss) (fun hh => by rw [hok'] at hh; cases hh.2))
      rintro e w2 ⟨rfl, b2⟩
      have B2 := Lib.hid (below_then B1.out b2)
      clear b2
      go_wp2_with fail
      go_ret2
      exact ⟨two_mkt HF.out, B2.out⟩
    · rintro e w2 ⟨rfl, b2⟩
      have x0 : w2.cell? ⟨w.heap.size, 0, none⟩ = some (.int .i64 s) := (b2.cell (cell_lt x0')).trans x0'
      have x1 : w2.cell? ⟨w.heap.size, 1, none⟩ = some (.slice A m cap) := (b2.cell (cell_lt x1')).trans x1'
      have y0 : w2.cell? ⟨w.heap.size + 1, 0, none⟩ = some (.int .i64 s') := (b2.cell (cell_lt y0')).trans y0'
      have y1 : w2.cell? ⟨w.heap.size + 1, 1, none⟩ = some (.slice A' m' cap') := (b2.cell (cell_lt y1')).trans y1'
      have H2 := Lib.hid (H1.out.below b2)
      have H2' := Lib.hid (H1'.out.below b2)
      have B2 := Lib.hid (below_then B1.out b2)
      clear b2 x0' x1' y0' y1'
      by_cases hss : s = s'
      · by_cases hmm : m = m'
        · have HF := Lib.hid (refineChoice_0 ⟨hok, hok'⟩ ⟨hss, by rw [HM.out, HM'.out, hmm]⟩)
          subst hss
          subst hmm
          obtain ⟨n, hsn, hg⟩ := goodC_of hok HM.out
          obtain ⟨n', hsn', hg'⟩ := goodC_of hok' HM'.out
          subst hsn
          obtain rfl : n = n' := by omega
          have HG := Lib.hid hg
          have HG' := Lib.hid hg'
          have hne : (((n : Nat) : Int) != (n : Int)) = false := by simp
          have hne2 : (((m : Nat) : Int) != (m : Int)) = false := by simp
          have hn10 : n ≤ 10 := hg.n10
          have hm3 : m ≤ 3 := hg.m3
          have OX := Lib.hid (hg.opts HR.out)
          have OY := Lib.hid (hg'.opts HR'.out)
          have r0 : ∀ W', Below w2.heap.size w2 W' → W'.cell? ⟨w.heap.size, 0, none⟩ = some (.int .i64 (n : Int)) := fun W' hb => (hb.cell (cell_lt x0)).trans x0
          have r1 : ∀ W', Below w2.heap.size w2 W' → W'.cell? ⟨w.heap.size, 1, none⟩ = some (.slice A m cap) := fun W' hb => (hb.cell (cell_lt x1)).trans x1
          have r2 : ∀ W', Below w2.heap.size w2 W' → W'.cell? ⟨w.heap.size + 1, 0, none⟩ = some (.int .i64 (n : Int)) := fun W' hb => (hb.cell (cell_lt y0)).trans y0
          have r3 : ∀ W', Below w2.heap.size w2 W' → W'.cell? ⟨w.heap.size + 1, 1, none⟩ = some (.slice A' m cap') := fun W' hb => (hb.cell (cell_lt y1)).trans y1
          have h9 : Below w2.heap.size w2 w2 := Below.refl _ _
          clear hg hg' hok hok' hsn'
          go_upto_region 5 with fail
          go_cut [6, 7] (fun s6 s7 wx => ∃ (X1 X2 : Option Addr), s6 = .slice X1 m m ∧ s7 = .slice X2 m m ∧ OptsAt wx X1 m (optsOf xss) ∧ OptsAt wx X2 m (optsOf yss) ∧ Below w2.heap.size w2 wx)
          case first =>
            go_region_held3 (fun w' => Below w2.heap.size w2 w') (first | assumption | exact below_drewN' (by assumption) _)
              (first
                | (go_at_call_of 77 (Value.agg #[Value.int IntKind.i64 (n : Int), Value.slice A m cap]); refine (optionsOf_any (n : Int) A m cap xss _ (H2.out.below (by first | assumption | exact below_drewN' (by assumption) _)) hm3 OX.out).mono ?_; rintro e wA ⟨X1, rfl, ho1, bA⟩; have HA := Lib.hid ho1; have KA := Lib.hid bA; have hA : Below w2.heap.size w2 wA := below_then (by first | assumption | exact below_drewN' (by assumption) _) bA; clear bA ho1)
                | (go_at_call_of 77 (Value.agg #[Value.int IntKind.i64 (n : Int), Value.slice A' m cap']); refine (optionsOf_any (n : Int) A' m cap' yss _ (H2'.out.below (by first | assumption | exact below_drewN' (by assumption) _)) hm3 OY.out).mono ?_; rintro e wB ⟨X2, rfl, ho2, bB⟩; have HB := Lib.hid ho2; have KB := Lib.hid bB; have hB : Below w2.heap.size w2 wB := below_then (by first | assumption | exact below_drewN' (by assumption) _) bB; clear bB ho2))
            all_goals (go_wp2_with fail; go_meet; first | exact ⟨X1, X2, rfl, rfl, HA.out.below KB.out, HB.out, hB⟩ | exact ⟨X1, X2, rfl, rfl, HA.out, HB.out.below KA.out, hA⟩)
          case rest =>
            obtain ⟨X1, X2, rfl, rfl, o1, o2, hb3⟩ := hcut
            have O1 := Lib.hid o1
            have O2 := Lib.hid o2
            have B3 := Lib.hid (below_then B2.out hb3)
            clear o1 o2 hb3 r0 r1 r2 r3 h9 x0 x1 y0 y1 hne hne2
            go_wp2_with fail
            go_loop [40] (fun i => ∃ k : Nat, k ≤ m ∧ i = .int .i64 k ∧ ∀ j, j < k → subL (nextB xss j) (nextB yss j) = true) (fun i => m - (intOf i).toNat)
            case atStart => exact ⟨0, Nat.zero_le _, rfl, fun j hj => absurd hj (Nat.not_lt_zero _)⟩
            case round =>
              obtain ⟨k, hk, rfl, hall⟩ := hrel
              have HA := Lib.hid hall
              clear hall
              by_cases hlt : k < m
              · obtain ⟨bs, b, off, A1, c1, hx, rfl, hc, hnum⟩ := O1.out.at_ hlt
                obtain ⟨cs, b', off', A1', c1', hy, rfl, hc', hnum'⟩ := O2.out.at_ hlt
                have hbs : nextB xss k = bs := nextB_at (by rw [HM.out]; exact hlt) hx
                have hcs : nextB yss k = cs := nextB_at (by rw [HM'.out]; exact hlt) hy
                obtain ⟨hbl, hbm⟩ := HG.out.bits hlt
                obtain ⟨hcl, hcm⟩ := HG'.out.bits hlt
                rw [hbs] at hbl hbm
                rw [hcs] at hcl hcm
                have HNX := Lib.hid hbs
                have HNY := Lib.hid hcs
                have HBL := Lib.hid hbl
                have HBM := Lib.hid (show ∀ y ∈ bs, y < 1024 from fun y hy => Nat.lt_of_lt_of_le (hbm y hy) (pow_le hn10))
                have HCM := Lib.hid (show ∀ y ∈ cs, y < 1024 from fun y hy => Nat.lt_of_lt_of_le (hcm y hy) (pow_le hn10))
                rw [hbl] at hc hnum
                rw [hcl] at hc' hnum'
                have HN := Lib.hid hnum
                have HN' := Lib.hid hnum'
                have hk0 : (0 : Int) ≤ (k : Int) := by omega
                have hkn : (k : Int) < (m : Int) := by omega
                clear hx hy hbs hcs hbl hbm hcl hcm hnum hnum'
                go_wp2_with fail
                go_loop [47] (fun j => ∃ q : Nat, q ≤ n ∧ j = .int .i64 q ∧ ∀ r, r < q → subAt bs cs r = true) (fun j => n - (intOf j).toNat)
                case atStart => exact ⟨0, Nat.zero_le _, rfl, fun j hj => absurd hj (Nat.not_lt_zero _)⟩
                case round =>
                  obtain ⟨q, hq, rfl, hin⟩ := hrel
                  have HI := Lib.hid hin
                  clear hin
                  by_cases hqn : q < n
                  · obtain ⟨x, b3, off3, hx, rfl, hcx⟩ := HN.out.at_ hqn
                    obtain ⟨y, b4, off4, hy, rfl, hcy⟩ := HN'.out.at_ hqn
                    have hx10 := HBM.out x (List.mem_of_getElem? hx)
                    have hy10 := HCM.out y (List.mem_of_getElem? hy)
                    have hsub : subAt bs cs q = (y &&& x == x) := by
                      unfold subAt
                      rw [List.getD_eq_getElem?_getD, List.getD_eq_getElem?_getD, hx, hy]
                      rfl
                    have HSUB := Lib.hid hsub
                    have hq0 : (0 : Int) ≤ (q : Int) := by omega
                    have hqn' : (q : Int) < (n : Int) := by omega
                    clear hx hy hsub
                    go_wp2_with fail
                    refine (contains_any y x _ hy10 hx10).mono ?_
                    rw [← HSUB.out]
                    rcases hv : subAt bs cs q with _ | _
                    · have HV := Lib.hid hv
                      rintro e w5 ⟨rfl, rfl⟩
                      clear hv
                      go_wp2_with fail
                      go_ret2
                      exact ⟨two_mkt (by rw [HF.out, subT_no HM.out hlt]; rw [HNX.out, HNY.out]; exact subL_no HBL.out hqn HV.out), B3.out⟩
                    · have HV := Lib.hid hv
                      rintro e w5 ⟨rfl, rfl⟩
                      clear hv
                      go_wp2_with fail
                      go_round
                      case rel => exact ⟨q + 1, by omega, by go_num, fun r hr => by
                        rcases Nat.lt_or_ge r q with a | a
                        · exact HI.out r a
                        · obtain rfl : r = q := by omega
                          exact HV.out⟩
                      case measure => simp [intOf]; omega
                  · have hqe : q = n := by omega
                    have HQ := Lib.hid hqe
                    clear hqe
                    go_wp2_with fail
                    go_round
                    case rel => exact ⟨k + 1, by omega, by go_num, fun j hj => by
                      rcases Nat.lt_or_ge j k with a | a
                      · exact HA.out j a
                      · obtain rfl : j = k := by omega
                        rw [HNX.out, HNY.out]
                        exact subL_all HBL.out (fun r hr => HI.out r (by rw [HQ.out]; exact hr))⟩
                    case measure => simp [intOf]; omega
              · have hkm : k = m := by omega
                have HE := Lib.hid (show refineChoice (n : Int) xss (n : Int) yss = (true, 0) by
                  rw [HF.out, subT_all HM.out (fun j hj => HA.out j (by rw [hkm]; exact hj))])
                clear hkm
                go_wp2_with fail
                go_ret2
                exact ⟨two_mkt HE.out, B3.out⟩
        · have HF := Lib.hid (refineChoice_2 ⟨hok, hok'⟩ (fun hh => hmm (by rw [← HM.out, ← HM'.out]; exact hh.2)))
          subst hss
          have hne : (s != s) = false := by simp
          have hne2 : (((m : Nat) : Int) != (m' : Int)) = true := by rw [bne_iff_ne]; omega
          clear hmm
          go_wp2_with fail
          go_ret2
          exact ⟨two_mkt HF.out, B2.out⟩
      · have HF := Lib.hid (refineChoice_2 ⟨hok, hok'⟩ (fun hh => hss hh.1))
        have hne : (s != s') = true := by rw [bne_iff_ne]; exact hss
        clear hss
        go_wp2_with fail
        go_ret2
        exact ⟨two_mkt HF.out, B2.out⟩

end Go.Proofs.Ytikimfncpemmkab
