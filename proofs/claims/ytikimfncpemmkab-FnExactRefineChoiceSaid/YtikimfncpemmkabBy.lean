/-
  Where words can lead when there are choices: the contracts of afterChoice, l04Go, l04By and of both ReachBy.
-/
import Derived.Test.YtikimfncpemmkabTotal
import Derived.Test.YtikimfncpemmkabCimg
namespace Go.Proofs.Ytikimfncpemmkab
open Go.RowKit Go.Deep Go.ChangeShapes Go.WideShapes
open Hunt Moved

/-- The states to which a letter can lead from the states below k of a set. -/
def goN (bs : List Nat) (b : Nat) : Nat → Nat
  | 0 => 0
  | k + 1 => if b.testBit k = true then goN bs b k ||| bs.getD k 0 else goN bs b k
def nextB (xsss : List (List (List Int))) (x : Nat) : List Nat := (xsss.getD x []).map setN
def byW (n : Nat) (xsss : List (List (List Int))) (ws : List Int) (b : Nat) : Nat := ws.foldl (fun b x => goN (nextB xsss x.toNat) b n) b
theorem goN_lt {n : Nat} {bs : List Nat} {b : Nat} (h : ∀ y ∈ bs, y < 2 ^ n) : ∀ k, goN bs b k < 2 ^ n
  | 0 => Nat.pow_pos (by decide)
  | k + 1 => by
    unfold goN
    split
    · refine Nat.or_lt_two_pow (goN_lt h k) ?_
      rw [List.getD_eq_getElem?_getD]
      rcases Nat.lt_or_ge k bs.length with a | a
      · rw [List.getElem?_eq_getElem a]; exact h _ (List.getElem_mem a)
      · rw [List.getElem?_eq_none a]; exact Nat.pow_pos (by decide)
    · exact goN_lt h k
theorem GoodC.bits {n m : Nat} {xsss : List (List (List Int))} (h : GoodC n m xsss) {x : Nat} (hx : x < m) : (nextB xsss x).length = n ∧ ∀ y ∈ nextB xsss x, y < 2 ^ n := by
  obtain ⟨xss, h1, h2, h3⟩ := h.row x hx
  unfold nextB
  rw [List.getD_eq_getElem?_getD, h1]
  refine ⟨by simpa using h2, fun y hy => ?_⟩
  obtain ⟨xs, hxs, rfl⟩ := List.mem_map.1 hy
  exact setN_in _ xs rfl (setB_mem (h3 xs hxs))
theorem nextB_at {xsss : List (List (List Int))} {t : Nat} {bs : List Nat} (ht : t < xsss.length) (h : (optsOf xsss)[t]? = some bs) : nextB xsss t = bs := by
  rw [optsOf_at (List.getElem?_eq_getElem ht)] at h
  unfold nextB
  rw [List.getD_eq_getElem?_getD, List.getElem?_eq_getElem ht]
  exact Option.some.inj h
theorem byW_snoc {n k : Nat} {xsss : List (List (List Int))} {ws : List Int} {b : Nat} {x : Int} (hx : ws[k]? = some x) : byW n xsss (ws.take (k + 1)) b = goN (nextB xsss x.toNat) (byW n xsss (ws.take k) b) n := by
  unfold byW; rw [take_snoc hx, List.foldl_append]; rfl

set_option maxRecDepth 100000 in
set_option maxHeartbeats 2000000 in
theorem afterChoice_any (A : Option Addr) (n cap b : Nat) (bs : List Nat) (w : World) (h : BitsAt w A n bs) (hn : n ≤ 10) (hb : b < 1024) (hx : ∀ y ∈ bs, y < 1024) :
    Calls Try.prog 133 #[.int .u16 (b : Int), .slice A n cap] w fun e w' => e = .returned (.int .u16 ((goN bs b n : Nat) : Int)) ∧ Below w.heap.size w w' := by
  have HX := Lib.hid hx
  clear hx
  go_enter Try.func133, Try.ntmps133
  go_wp2_with fail
  go_loopw [5, 10] (fun u i wr => ∃ (k c : Nat), k ≤ n ∧ i = .int .i64 k ∧ u = .int .u16 (c : Int) ∧ c = goN bs b k ∧ Below w.heap.size w wr) (fun _ i _ => n - (intOf i).toNat)
  case atStart => exact ⟨0, 0, Nat.zero_le _, rfl, rfl, rfl, Below.refl _ _⟩
  case round =>
    obtain ⟨k, c, hk, rfl, rfl, hc, hbel⟩ := hrel
    have HC := Lib.hid hc
    have HB := Lib.hid hbel
    have hcl : c < 1024 := by rw [hc]; exact goN_lt (n := 10) HX.out k
    have h1 := h.below hbel
    clear hc hbel
    by_cases hlt : k < n
    · obtain ⟨y, b3, off3, hy, rfl, hcy⟩ := h1.at_ hlt
      have hy10 : y < 1024 := HX.out y (List.mem_of_getElem? hy)
      have hgd : bs.getD k 0 = y := by rw [List.getD_eq_getElem?_getD, hy]; rfl
      have HQ := Lib.hid (show ∀ z ∈ [(k : Int)], 0 ≤ z ∧ z < 10 from by simp; omega)
      have i1 : (0 : Int) ≤ (k : Int) := by omega
      have i2 : (k : Int) < (n : Int) := by omega
      have HGD := Lib.hid hgd
      clear hy h1 hgd
      go_wp2_with fail
      refine (setOf_any _ 1 1 [(k : Int)] _ (nums_one _ _ _) HQ.out (by omega)).mono ?_
      rw [setN_one]
      rintro e w' ⟨rfl, hw'⟩
      have HB1 := Lib.hid (below_then HB.out (show Below _ _ w' by rw [← hw']; exact (Below.refl _ _).alloc (Nat.le_refl _) _))
      have hc10 : 1 <<< k < 1024 := by rw [Nat.one_shiftLeft]; have h9 : 2 ^ k ≤ 2 ^ 9 := Nat.pow_le_pow_right (by decide) (by omega); omega
      have HAND := Lib.hid (and_one b k)
      obtain ⟨d, hd⟩ : ∃ d, d = 1 <<< k := ⟨_, rfl⟩
      rw [← hd] at HAND hc10 ⊢
      clear hw' hd
      go_wp2_with fail
      refine (contains_any b d w' hb hc10).mono ?_
      rw [HAND.out]
      rintro e w2 ⟨rfl, rfl⟩
      rcases htb : b.testBit k with _ | _
      · have HST := Lib.hid (show goN bs b (k + 1) = c by rw [goN, if_neg (by rw [htb]; simp), HC.out])
        clear htb
        go_wp2_with fail
        go_roundw
        case rel => exact ⟨k + 1, c, by omega, by go_num, rfl, HST.out.symm, HB1.out⟩
        case measure => simp [intOf]; omega
      · have HST := Lib.hid (show goN bs b (k + 1) = c ||| y by rw [goN, if_pos htb, HC.out, HGD.out])
        have HOR := Lib.hid (u16_or_nat c y (by omega) (by omega))
        clear htb
        go_wp2_with fail
        go_roundw
        case rel => exact ⟨k + 1, c ||| y, by omega, by go_num, by rw [HOR.out], HST.out.symm, HB1.out⟩
        case measure => simp [intOf]; omega
    · have hkn : k = n := by omega
      have HK := Lib.hid hkn
      clear hkn h1
      go_wp2_with fail
      go_ret
      exact ⟨ret_int (by rw [HC.out, HK.out]), HB.out⟩

set_option maxRecDepth 100000 in
set_option maxHeartbeats 2000000 in
theorem l04Go_any (p : Nat) (A : Option Addr) (n m cap b x : Nat) (xsss : List (List (List Int))) (w : World) (hg : GoodC n m xsss) (hw : Wide3 4611686018427387904 xsss) (c0 : w.cell? ⟨p, 0, none⟩ = some (.int .i64 (n : Int))) (c1 : w.cell? ⟨p, 1, none⟩ = some (.slice A m cap)) (h : TabsAt w A m xsss) (hx : x < m) (hb : b < 1024) :
    Calls Try.prog 123 #[.pointer (some ⟨p, 0, none⟩), .int .i64 (b : Int), .int .i64 (x : Int)] w fun e w' => e = .returned (.int .i64 ((goN (nextB xsss x) b n : Nat) : Int)) ∧ w = w' := by
  have hn10 : n ≤ 10 := hg.n10
  obtain ⟨xss, b4, off4, A5, c5, hr, hA, hcr, hrow⟩ := h.at_ hx
  subst hA
  have hlen : xss.length = n := by
    obtain ⟨xss', h1, h2, _⟩ := hg.row x hx
    rw [hr] at h1
    obtain rfl := Option.some.inj h1
    exact h2
  have hnb : nextB xsss x = xss.map setN := by unfold nextB; rw [List.getD_eq_getElem?_getD, hr]; rfl
  have HWD := Lib.hid (hg.opts hw x xss hr).2
  have HLT := Lib.hid (show ∀ y ∈ nextB xsss x, y < 2 ^ 10 from fun y hy => Nat.lt_of_lt_of_le ((hg.bits hx).2 y hy) (pow_le hn10))
  rw [hnb] at HLT ⊢
  rw [hlen] at hcr hrow
  have HROW := Lib.hid hrow
  have i3 : (0 : Int) ≤ (x : Int) := by omega
  have i4 : (x : Int) < (m : Int) := by omega
  clear hr hnb hrow hw hg h
  go_enter Try.func123, Try.ntmps123
  go_wp2_with fail
  go_loop [7, 8] (fun u i => ∃ (k c : Nat), k ≤ n ∧ i = .int .i64 k ∧ u = .int .i64 (c : Int) ∧ c = goN (xss.map setN) b k) (fun _ i => n - (intOf i).toNat)
  case atStart => exact ⟨0, 0, Nat.zero_le _, rfl, rfl, rfl⟩
  case round =>
    obtain ⟨k, c, hk, rfl, rfl, hc⟩ := hrel
    have HC := Lib.hid hc
    have hcl : c < 1024 := by rw [hc]; exact goN_lt HLT.out k
    clear hc
    by_cases hlt : k < n
    · obtain ⟨xs, b3, off3, A3, c3, hy, rfl, hcy, hnum⟩ := HROW.out.at_ hlt
      have HNX := Lib.hid hnum
      obtain ⟨hxl, hx10⟩ := HWD.out k xs hy
      have HX10 := Lib.hid hx10
      have hs10 : setN xs < 1024 := setN_lt _ xs rfl hx10
      have hgd : (xss.map setN).getD k 0 = setN xs := by rw [List.getD_eq_getElem?_getD, List.getElem?_map, hy]; rfl
      have i1 : (0 : Int) ≤ (k : Int) := by omega
      have i2 : (k : Int) < (n : Int) := by omega
      have i5 : (k : Int) < 10 := by omega
      have e1 : (b : Int) / 2 ^ k = ((b / 2 ^ k : Nat) : Int) := by push_cast; rfl
      have hdl : b / 2 ^ k ≤ b := Nat.div_le_self _ _
      have hand : bits .and .i64 ((b : Int) / 2 ^ k) 1 = ((b / 2 ^ k % 2 : Nat) : Int) := by
        rw [e1]
        have e2 := i64_and_nat (b / 2 ^ k) 1 (by omega) (by decide)
        rw [show ((1 : Nat) : Int) = 1 from rfl, Nat.and_one_is_mod] at e2
        exact e2
      have htb : b.testBit k = decide (b / 2 ^ k % 2 = 1) := Nat.testBit_eq_decide_div_mod_eq
      rcases Nat.mod_two_eq_zero_or_one (b / 2 ^ k) with hz | hz
      · rw [hz] at hand
        have HE := Lib.hid (show goN (xss.map setN) b (k + 1) = c by rw [goN, if_neg (by rw [htb, hz]; simp), HC.out])
        clear hy hnum hx10 e1 hdl hz htb hgd
        go_wp2_with fail
        go_round
        case rel => exact ⟨k + 1, c, by omega, by go_num, rfl, HE.out.symm⟩
        case measure => simp [intOf]; omega
      · rw [hz] at hand
        obtain ⟨d, hd⟩ : ∃ d, d = setN xs := ⟨_, rfl⟩
        rw [← hd] at hs10 hgd
        have HD := Lib.hid hd
        have HE := Lib.hid (show goN (xss.map setN) b (k + 1) = c ||| d by rw [goN, if_pos (by rw [htb, hz]; simp), HC.out, hgd])
        have HOR := Lib.hid (i64_or_nat c d (by omega) (by omega))
        clear hy hnum hx10 e1 hdl hz htb hgd hd
        go_wp2_with fail
        refine (l02Bits_any A3 xs.length c3 xs _ HNX.out HX10.out hxl).mono ?_
        rw [← HD.out]
        rintro e w' ⟨rfl, rfl⟩
        go_wp2_with fail
        go_round
        case rel => exact ⟨k + 1, c ||| d, by omega, by go_num, by rw [HOR.out], HE.out.symm⟩
        case measure => simp [intOf]; omega
    · have hkn : k = n := by omega
      have HK := Lib.hid hkn
      clear hkn
      go_wp2_with fail
      go_ret
      exact ⟨ret_int (by rw [HC.out, HK.out]), rfl⟩

set_option maxRecDepth 100000 in
set_option maxHeartbeats 2000000 in
theorem l04By_any (p : Nat) (A A' : Option Addr) (n m cap l cap' b : Nat) (xsss : List (List (List Int))) (ws : List Int) (w : World) (hg : GoodC n m xsss) (hw : Wide3 4611686018427387904 xsss) (c0 : w.cell? ⟨p, 0, none⟩ = some (.int .i64 (n : Int))) (c1 : w.cell? ⟨p, 1, none⟩ = some (.slice A m cap)) (h : TabsAt w A m xsss) (h' : NumsAt w A' l ws) (hws : ∀ x ∈ ws, 0 ≤ x ∧ x < (m : Int)) (hl : l ≤ 4611686018427387904) (hb : b < 1024) :
    Calls Try.prog 83 #[.pointer (some ⟨p, 0, none⟩), .int .i64 (b : Int), .slice A' l cap'] w fun e w' => e = .returned (.int .i64 ((byW n xsss ws b : Nat) : Int)) ∧ w = w' := by
  have HG := Lib.hid hg
  have HWD := Lib.hid hw
  have HW := Lib.hid hws
  have HBN := Lib.hid hb
  have H0 := Lib.hid h
  have N0 := Lib.hid h'
  have HLW := Lib.hid h'.1
  clear hg hw hws hb
  go_enter Try.func83, Try.ntmps83
  go_wp2_with fail
  go_loop [1, 7] (fun u i => ∃ (k c : Nat), k ≤ l ∧ i = .int .i64 k ∧ u = .int .i64 (c : Int) ∧ c < 1024 ∧ c = byW n xsss (ws.take k) b) (fun _ i => l - (intOf i).toNat)
  case atStart => exact ⟨0, b, Nat.zero_le _, rfl, rfl, HBN.out, rfl⟩
  case round =>
    obtain ⟨k, c, hk, rfl, rfl, hcl, hc⟩ := hrel
    have HC := Lib.hid hc
    clear hc
    by_cases hlt : k < l
    · obtain ⟨y, b3, off3, hy, rfl, hcy⟩ := N0.out.at_ hlt
      have hy1 := HW.out y (List.mem_of_getElem? hy)
      obtain ⟨t, rfl⟩ : ∃ t : Nat, y = (t : Int) := ⟨y.toNat, by omega⟩
      have htm : t < m := by omega
      have HST := Lib.hid (show byW n xsss (ws.take (k + 1)) b = goN (nextB xsss t) c n by rw [byW_snoc hy, Int.toNat_natCast, ← HC.out])
      have HLT := Lib.hid (show goN (nextB xsss t) c n < 1024 from Nat.lt_of_lt_of_le (goN_lt (HG.out.bits htm).2 n) (pow_le HG.out.n10))
      have HTM := Lib.hid htm
      have i1 : (0 : Int) ≤ (k : Int) := by omega
      have i2 : (k : Int) < (l : Int) := by omega
      clear hy hy1 htm
      go_wp2_with fail
      refine (l04Go_any p A n m cap c t xsss _ HG.out HWD.out c0 c1 H0.out HTM.out hcl).mono ?_
      rintro e w2 ⟨rfl, rfl⟩
      go_wp2_with fail
      go_round
      case rel => exact ⟨k + 1, _, by omega, by go_num, rfl, HLT.out, HST.out.symm⟩
      case measure => simp [intOf]; omega
    · have hkl : k = l := by omega
      have HE := Lib.hid (show c = byW n xsss ws b by rw [HC.out, List.take_of_length_le (by rw [HLW.out]; omega)])
      clear hkl
      go_wp2_with fail
      go_ret
      exact ⟨ret_int (by rw [HE.out]), rfl⟩

/-- What ReachBy answers. -/
def reachBy (s : Int) (xsss : List (List (List Int))) (set ws : List Int) : List Int × Int :=
  if okC s xsss = true then (if setB s set = true then (if isWordB (xsss.length : Int) ws = true then (listK (byW s.toNat xsss ws (setN set)) 10, 0) else ([], 2)) else ([], 2)) else ([], 1)
theorem reachBy_len (s : Int) (xsss : List (List (List Int))) (set ws : List Int) : (reachBy s xsss set ws).1.length ≤ 10 := by
  unfold reachBy
  split
  · split
    · split
      · unfold listK
        rw [List.length_map]
        exact Nat.le_trans (List.length_filter_le _ _) (by rw [List.length_range]; exact Nat.le_refl _)
      · exact Nat.zero_le _
    · exact Nat.zero_le _
  · exact Nat.zero_le _
theorem reachBy_1 {s : Int} {xsss : List (List (List Int))} {set ws : List Int} (h : okC s xsss = false) : reachBy s xsss set ws = ([], 1) := by unfold reachBy; rw [if_neg (by simp [h])]
theorem reachBy_2 {s : Int} {xsss : List (List (List Int))} {set ws : List Int} (h : okC s xsss = true) (h' : setB s set = false) : reachBy s xsss set ws = ([], 2) := by unfold reachBy; rw [if_pos h, if_neg (by simp [h'])]
theorem reachBy_3 {s : Int} {m : Nat} {xsss : List (List (List Int))} {set ws : List Int} (h : okC s xsss = true) (hm : xsss.length = m) (h' : setB s set = true) (h2 : isWordB (m : Int) ws = false) : reachBy s xsss set ws = ([], 2) := by unfold reachBy; rw [if_pos h, if_pos h', hm, if_neg (by simp [h2])]
theorem reachBy_0 {n m : Nat} {xsss : List (List (List Int))} {set ws : List Int} (h : okC (n : Int) xsss = true) (hm : xsss.length = m) (h' : setB (n : Int) set = true) (h2 : isWordB (m : Int) ws = true) : reachBy (n : Int) xsss set ws = (listK (byW n xsss ws (setN set)) 10, 0) := by
  unfold reachBy; rw [if_pos h, if_pos h', hm, if_pos h2, Int.toNat_natCast]

theorem byW_lt {n m : Nat} {xsss : List (List (List Int))} (hg : GoodC n m xsss) : ∀ (ws : List Int) (b : Nat), (∀ x ∈ ws, 0 ≤ x ∧ x < (m : Int)) → b < 1024 → byW n xsss ws b < 1024
  | [], b, _, hb => hb
  | x :: ws, b, hw, hb => by
    have hx := hw x (by simp)
    exact byW_lt hg ws _ (fun y hy => hw y (by simp [hy])) (Nat.lt_of_lt_of_le (goN_lt (hg.bits (x := x.toNat) (by omega)).2 n) (pow_le hg.n10))

set_option maxRecDepth 100000 in
set_option maxHeartbeats 4000000 in
theorem specReachBy_any (s : Int) (A : Option Addr) (m cap : Nat) (xss : List (List (List Int))) (A2 : Option Addr) (l2 cap2 : Nat) (set : List Int) (A' : Option Addr) (l cap' : Nat) (ws : List Int) (w : World) (h : TabsAt w A m xss) (hm : m ≤ 4611686018427387904)
    (hrows : Wide3 4611686018427387904 xss) (hs : NumsAt w A2 l2 set) (hl2 : l2 ≤ 4611686018427387904) (h' : NumsAt w A' l ws) (hl : l ≤ 4611686018427387904) :
    Calls Try.prog 65 #[.agg #[.int .i64 s, .slice A m cap], .slice A2 l2 cap2, .slice A' l cap'] w (ListsTo (reachBy s xss set ws) w) := by
  have HR := Lib.hid hrows
  have HM := Lib.hid h.1
  have b0 : Below w.heap.size w (w.alloc (.cells #[.int .i64 s, .slice A m cap] 28)) := (Below.refl _ _).alloc (Nat.le_refl _) _
  have H0 := Lib.hid (h.below b0)
  have N0 := Lib.hid (h'.below b0)
  have S0 := Lib.hid (hs.below b0)
  have B0 := Lib.hid b0
  clear hrows b0
  rcases hok : okC s xss with _ | _
  · have HF := Lib.hid (reachBy_1 (set := set) (ws := ws) hok)
    go_enter Try.func65, Try.ntmps65
    go_wp2_with fail
    refine (l04Choices_any w.heap.size s A m cap xss _ (by go_cell) (by go_cell) H0.out hm HR.out).mono ?_
    rw [hok]
    rintro e w' ⟨rfl, d, rfl⟩
    go_wp2_with fail
    go_ret2
    exact listsTo_mk HF.out (own_none' (by simp) (by simp)) ((below_drewN' B0.out _).alloc (by simp) _)
  · obtain ⟨n, hsn, hg⟩ := goodC_of hok HM.out
    subst hsn
    have HG := Lib.hid hg
    have hm1 : 1 ≤ m := hg.m1
    have hm3 : m ≤ 3 := hg.m3
    have hn10 : n ≤ 10 := hg.n10
    have hn1 : (1 : Int) ≤ (n : Int) := by have := hg.n1; omega
    have hn10' : (n : Int) ≤ 10 := by have := hg.n10; omega
    clear hg
    go_enter Try.func65, Try.ntmps65
    go_wp2_with fail
    refine (l04Choices_any w.heap.size (n : Int) A m cap xss _ (by go_cell) (by go_cell) H0.out hm HR.out).mono ?_
    rw [hok]
    rintro e w1 ⟨rfl, d, hw1⟩
    have b1 : Below (w.alloc (.cells #[.int .i64 (n : Int), .slice A m cap] 28)).heap.size (w.alloc (.cells #[.int .i64 (n : Int), .slice A m cap] 28)) w1 := by rw [hw1]; exact below_drewN' (Below.refl _ _) d
    have x0 : w1.cell? ⟨w.heap.size, 0, none⟩ = some (.int .i64 (n : Int)) := (b1.cell (by simp)).trans (by go_cell)
    have x1 : w1.cell? ⟨w.heap.size, 1, none⟩ = some (.slice A m cap) := (b1.cell (by simp)).trans (by go_cell)
    have H1 := Lib.hid (H0.out.below b1)
    have N1 := Lib.hid (N0.out.below b1)
    have S1 := Lib.hid (S0.out.below b1)
    have B1 := Lib.hid (below_then B0.out b1)
    clear b1 hw1
    go_wp2_with fail
    refine (l04Shape_any (n : Int) m _ (by omega)).mono ?_
    rintro e w2 ⟨X, rfl, b2⟩
    have y0 : w2.cell? ⟨w.heap.size, 0, none⟩ = some (.int .i64 (n : Int)) := (b2.cell (cell_lt x0)).trans x0
    have y1 : w2.cell? ⟨w.heap.size, 1, none⟩ = some (.slice A m cap) := (b2.cell (cell_lt x1)).trans x1
    have H2 := Lib.hid (H1.out.below b2)
    have N2 := Lib.hid (N1.out.below b2)
    have S2 := Lib.hid (S1.out.below b2)
    have B2 := Lib.hid (below_then B1.out b2)
    clear b2 x0 x1
    go_wp2_with fail
    obtain ⟨w3, hw3⟩ : ∃ w3, w3 = w2.alloc (.cells #[.int .i64 (n : Int), .slice X m m] 43) := ⟨_, rfl⟩
    rw [← hw3]
    have b3 : Below w2.heap.size w2 w3 := by rw [hw3]; exact (Below.refl _ _).alloc (Nat.le_refl _) _
    have z0 : w3.cell? ⟨w2.heap.size, 0, none⟩ = some (.int .i64 (n : Int)) := by rw [hw3]; go_cell
    have z1 : w3.cell? ⟨w2.heap.size, 1, none⟩ = some (.slice X m m) := by rw [hw3]; go_cell
    have x0 : w3.cell? ⟨w.heap.size, 0, none⟩ = some (.int .i64 (n : Int)) := (b3.cell (cell_lt y0)).trans y0
    have x1 : w3.cell? ⟨w.heap.size, 1, none⟩ = some (.slice A m cap) := (b3.cell (cell_lt y1)).trans y1
    have H3 := Lib.hid (H2.out.below b3)
    have N3 := Lib.hid (N2.out.below b3)
    have S3 := Lib.hid (S2.out.below b3)
    have B3 := Lib.hid (below_then B2.out b3)
    clear b3 hw3 y0 y1
    refine (l01Set_any w2.heap.size (n : Int) A2 l2 cap2 set _ z0 S3.out hn1 hn10' hl2).mono ?_
    rcases hse : setB (n : Int) set with _ | _
    · have HF := Lib.hid (reachBy_2 (ws := ws) hok hse)
      rintro e w4 ⟨rfl, d4, rfl⟩
      go_wp2_with fail
      go_ret2
      exact listsTo_mk HF.out (own_none' (by simp) (by have := B3.out.size; simp; omega)) ((below_drewN' B3.out _).alloc (by have := B3.out.size; simp; omega) _)
    · rintro e w4 ⟨rfl, d4, hw4⟩
      have b4 : Below w3.heap.size w3 w4 := by rw [hw4]; exact below_drewN' (Below.refl _ _) d4
      have y0 : w4.cell? ⟨w.heap.size, 0, none⟩ = some (.int .i64 (n : Int)) := (b4.cell (cell_lt x0)).trans x0
      have y1 : w4.cell? ⟨w.heap.size, 1, none⟩ = some (.slice A m cap) := (b4.cell (cell_lt x1)).trans x1
      have z2 : w4.cell? ⟨w2.heap.size, 1, none⟩ = some (.slice X m m) := (b4.cell (cell_lt z1)).trans z1
      have H4 := Lib.hid (H3.out.below b4)
      have N4 := Lib.hid (N3.out.below b4)
      have S4 := Lib.hid (S3.out.below b4)
      have B4 := Lib.hid (below_then B3.out b4)
      clear b4 hw4 x0 x1 z0 z1
      go_wp2_with fail
      refine (l01Word_any w2.heap.size X A' m m l cap' ws _ z2 N4.out hm1 hm3 hl).mono ?_
      rcases hwd : isWordB (m : Int) ws with _ | _
      · have HF := Lib.hid (reachBy_3 hok HM.out hse hwd)
        rintro e w5 ⟨rfl, d5, rfl⟩
        go_wp2_with fail
        go_ret2
        exact listsTo_mk HF.out (own_none' (by simp) (by have := B4.out.size; simp; omega)) ((below_drewN' B4.out _).alloc (by have := B4.out.size; simp; omega) _)
      · have HWL := Lib.hid (letters_of hwd)
        have HSM := Lib.hid (setB_mem hse)
        have HSM10 := Lib.hid (show ∀ x ∈ set, 0 ≤ x ∧ x < 10 from fun x hx => by have := HSM.out x hx; omega)
        rintro e w5 ⟨rfl, d5, hw5⟩
        have b5 : Below w4.heap.size w4 w5 := by rw [hw5]; exact below_drewN' (Below.refl _ _) d5
        have x0 : w5.cell? ⟨w.heap.size, 0, none⟩ = some (.int .i64 (n : Int)) := (b5.cell (cell_lt y0)).trans y0
        have x1 : w5.cell? ⟨w.heap.size, 1, none⟩ = some (.slice A m cap) := (b5.cell (cell_lt y1)).trans y1
        have H5 := Lib.hid (H4.out.below b5)
        have N5 := Lib.hid (N4.out.below b5)
        have S5 := Lib.hid (S4.out.below b5)
        have B5 := Lib.hid (below_then B4.out b5)
        obtain ⟨b, hb⟩ : ∃ b, b = setN set := ⟨_, rfl⟩
        have HBB := Lib.hid hb
        have HBN := Lib.hid (show b < 2 ^ n by rw [hb]; exact setN_in _ set rfl HSM.out)
        obtain ⟨R, hR⟩ : ∃ R, R = byW n xss ws b := ⟨_, rfl⟩
        have HRR := Lib.hid hR
        have HR10 := Lib.hid (show R < 1024 by rw [hR]; exact byW_lt HG.out ws b HWL.out (Nat.lt_of_lt_of_le HBN.out (pow_le hn10)))
        have hb10 : b < 1024 := Nat.lt_of_lt_of_le HBN.out (pow_le hn10)
        have HF0 := Lib.hid (show reachBy (n : Int) xss set ws = (listK R 10, 0) by rw [reachBy_0 hok HM.out hse hwd, ← hb, hR])
        clear b5 hw5 y0 y1 z2 hb hR
        go_wp2_with fail
        refine (l02Bits_any A2 l2 cap2 set _ S5.out HSM10.out hl2).mono ?_
        rw [← HBB.out]
        rintro e w6 ⟨rfl, rfl⟩
        go_wp2_with fail
        refine (l04By_any w.heap.size A A' n m cap l cap' b xss ws _ HG.out HR.out x0 x1 H5.out N5.out HWL.out hl hb10).mono ?_
        rw [← HRR.out]
        rintro e w6 ⟨rfl, rfl⟩
        go_wp2_with fail
        refine (l02Set_any R _ HR10.out).mono ?_
        rintro e w7 ⟨u, rfl, o7, b7⟩
        have O7 := Lib.hid o7
        have B7 := Lib.hid b7
        clear o7 b7
        go_wp2_with fail
        go_ret2
        exact listsTo_mk HF0.out (own_base O7.out B5.out.size) (below_then B5.out B7.out)

set_option maxRecDepth 100000 in
set_option maxHeartbeats 4000000 in
theorem implReachBy_any (s : Int) (A : Option Addr) (m cap : Nat) (xss : List (List (List Int))) (A2 : Option Addr) (l2 cap2 : Nat) (set : List Int) (A' : Option Addr) (l cap' : Nat) (ws : List Int) (w : World) (h : TabsAt w A m xss) (hm : m ≤ 4611686018427387904)
    (hrows : Wide3 4611686018427387904 xss) (hs : NumsAt w A2 l2 set) (hl2 : l2 ≤ 4611686018427387904) (h' : NumsAt w A' l ws) (hl : l ≤ 4611686018427387904) :
    Calls Try.prog 62 #[.agg #[.int .i64 s, .slice A m cap], .slice A2 l2 cap2, .slice A' l cap'] w (ListsTo (reachBy s xss set ws) w) := by
  have HR := Lib.hid hrows
  have HM := Lib.hid h.1
  have b0 : Below w.heap.size w (w.alloc (.cells #[.int .i64 s, .slice A m cap] 28)) := (Below.refl _ _).alloc (Nat.le_refl _) _
  have H0 := Lib.hid (h.below b0)
  have N0 := Lib.hid (h'.below b0)
  have S0 := Lib.hid (hs.below b0)
  have B0 := Lib.hid b0
  clear hrows b0
  rcases hok : okC s xss with _ | _
  · have HF := Lib.hid (reachBy_1 (set := set) (ws := ws) hok)
    go_enter Try.func62, Try.ntmps62
    go_wp2_with fail
    refine (implValidChoice_any s A m cap xss _ H0.out hm HR.out).mono ?_
    rw [hok]
    rintro e w1 ⟨rfl, b1⟩
    have B1 := Lib.hid (below_then B0.out b1)
    clear b1
    go_wp2_with fail
    go_ret2
    exact listsTo_mk HF.out (World.ownsRow_nil _ _ _ _) B1.out
  · obtain ⟨n, hsn, hg⟩ := goodC_of hok HM.out
    subst hsn
    have HG := Lib.hid hg
    have hn10 : n ≤ 10 := hg.n10
    clear hg
    go_enter Try.func62, Try.ntmps62
    go_wp2_with fail
    refine (implValidChoice_any (n : Int) A m cap xss _ H0.out hm HR.out).mono ?_
    rw [hok]
    rintro e w1 ⟨rfl, b1⟩
    have d0 : w1.cell? ⟨w.heap.size, 0, none⟩ = some (.int .i64 (n : Int)) := (b1.cell (by simp)).trans (by go_cell)
    have d1 : w1.cell? ⟨w.heap.size, 1, none⟩ = some (.slice A m cap) := (b1.cell (by simp)).trans (by go_cell)
    have H1 := Lib.hid (H0.out.below b1)
    have N1 := Lib.hid (N0.out.below b1)
    have S1 := Lib.hid (S0.out.below b1)
    have B1 := Lib.hid (below_then B0.out b1)
    clear b1
    go_wp2_with fail
    refine (isSet_any (n : Int) A2 l2 cap2 set _ S1.out hl2).mono ?_
    rcases hse : setB (n : Int) set with _ | _
    · have HF := Lib.hid (reachBy_2 (ws := ws) hok hse)
      rintro e w2 ⟨rfl, rfl⟩
      go_wp2_with fail
      go_ret2
      exact listsTo_mk HF.out (World.ownsRow_nil _ _ _ _) B1.out
    · rintro e w2 ⟨rfl, rfl⟩
      go_wp2_with fail
      refine (isLetterList_any (n : Int) A A' m cap l cap' ws _ N1.out hm hl).mono ?_
      rcases hwd : isWordB (m : Int) ws with _ | _
      · have HF := Lib.hid (reachBy_3 hok HM.out hse hwd)
        rintro e w2 ⟨rfl, b2⟩
        have B2 := Lib.hid (below_then B1.out b2)
        clear b2
        go_wp2_with fail
        go_ret2
        exact listsTo_mk HF.out (World.ownsRow_nil _ _ _ _) B2.out
      · have HWL := Lib.hid (letters_of hwd)
        have HSM := Lib.hid (setB_mem hse)
        have HSM10 := Lib.hid (show ∀ x ∈ set, 0 ≤ x ∧ x < 10 from fun x hx => by have := HSM.out x hx; omega)
        rintro e w2 ⟨rfl, b2⟩
        have d0 : w2.cell? ⟨w.heap.size, 0, none⟩ = some (.int .i64 (n : Int)) := (b2.cell (cell_lt d0)).trans d0
        have d1 : w2.cell? ⟨w.heap.size, 1, none⟩ = some (.slice A m cap) := (b2.cell (cell_lt d1)).trans d1
        have r0 : ∀ W', Below w2.heap.size w2 W' → W'.cell? ⟨w.heap.size, 0, none⟩ = some (.int .i64 (n : Int)) := fun W' hb => (hb.cell (cell_lt d0)).trans d0
        have r1 : ∀ W', Below w2.heap.size w2 W' → W'.cell? ⟨w.heap.size, 1, none⟩ = some (.slice A m cap) := fun W' hb => (hb.cell (cell_lt d1)).trans d1
        have H2 := Lib.hid (H1.out.below b2)
        have N2 := Lib.hid (N1.out.below b2)
        have S2 := Lib.hid (S1.out.below b2)
        have B2 := Lib.hid (below_then B1.out b2)
        have h9 : Below w2.heap.size w2 w2 := Below.refl _ _
        obtain ⟨b, hb⟩ : ∃ b, b = setN set := ⟨_, rfl⟩
        have HBB := Lib.hid hb
        have HBN := Lib.hid (show b < 2 ^ n by rw [hb]; exact setN_in _ set rfl HSM.out)
        obtain ⟨R, hR⟩ : ∃ R, R = byW n xss ws b := ⟨_, rfl⟩
        have HRR := Lib.hid hR
        have HR10 := Lib.hid (show R < 1024 by rw [hR]; exact byW_lt HG.out ws b HWL.out (Nat.lt_of_lt_of_le HBN.out (pow_le hn10)))
        have hb10 : b < 1024 := Nat.lt_of_lt_of_le HBN.out (pow_le hn10)
        have HF0 := Lib.hid (show reachBy (n : Int) xss set ws = (listK R 10, 0) by rw [reachBy_0 hok HM.out hse hwd, ← hb, hR])
        have hm3 : m ≤ 3 := HG.out.m3
        clear b2 hb hR hwd hse hok
        go_wp2_with fail
        go_region_held3 (fun w' => Below w2.heap.size w2 w') (first | assumption | exact below_drewN' (by assumption) _)
          (first
            | (go_at_call 132; refine (setOf_any A2 l2 cap2 set _ (S2.out.below (by first | assumption | exact below_drewN' (by assumption) _)) HSM10.out hl2).mono ?_; rw [← HBB.out]; rintro e w3 ⟨rfl, h3e⟩; have h3 : Below w2.heap.size w2 w3 := (by rw [← h3e]; first | assumption | exact below_drewN' (by assumption) _); clear h3e)
            | (go_at_call 77; refine (optionsOf_any (n : Int) A m cap xss _ (H2.out.below (by first | assumption | exact below_drewN' (by assumption) _)) hm3 (HG.out.opts HR.out)).mono ?_; rintro e w4 ⟨X, rfl, ho, b4⟩; have HO := Lib.hid ho; have h4 : Below w2.heap.size w2 w4 := below_then (by first | assumption | exact below_drewN' (by assumption) _) b4; clear b4 ho))
        have HB4 := Lib.hid (show Below w.heap.size w w4 from below_then B2.out (by assumption))
        have N4 := Lib.hid (N2.out.below (show Below w2.heap.size w2 w4 by assumption))
        have HLW := Lib.hid N4.out.1
        clear d0 d1 r0 r1
        go_wp2_with fail
        go_loopw [8, 34] (fun u i wr => ∃ (k c : Nat), k ≤ l ∧ i = .int .i64 k ∧ u = .int .u16 (c : Int) ∧ c < 1024 ∧ c = byW n xss (ws.take k) b ∧ Below w4.heap.size w4 wr) (fun _ i _ => l - (intOf i).toNat)
        case atStart => exact ⟨0, b, Nat.zero_le _, rfl, rfl, hb10, rfl, Below.refl _ _⟩
        case round =>
          obtain ⟨k, c, hk, rfl, rfl, hcl, hc, hbel⟩ := hrel
          have HC := Lib.hid hc
          have HBL := Lib.hid hbel
          have nw := N4.out.below hbel
          have opt := HO.out.below hbel
          clear hc hbel
          by_cases hlt : k < l
          · obtain ⟨y, b3, off3, hy, rfl, hcy⟩ := nw.at_ hlt
            have hy1 := HWL.out y (List.mem_of_getElem? hy)
            obtain ⟨t, rfl⟩ : ∃ t : Nat, y = (t : Int) := ⟨y.toNat, by omega⟩
            have htm : t < m := by omega
            obtain ⟨bs, b4, off4, A5, c5, hr, hA, hcr, hnum⟩ := opt.at_ htm
            subst hA
            have hbs : nextB xss t = bs := nextB_at (by rw [HG.out.len]; exact htm) hr
            subst hbs
            obtain ⟨hbl, hbm⟩ := HG.out.bits htm
            rw [hbl] at hcr hnum
            have HNM := Lib.hid hnum
            have HBM := Lib.hid (show ∀ y ∈ nextB xss t, y < 1024 from fun y hy => Nat.lt_of_lt_of_le (hbm y hy) (pow_le hn10))
            have HST := Lib.hid (show byW n xss (ws.take (k + 1)) b = goN (nextB xss t) c n by rw [byW_snoc hy, Int.toNat_natCast, ← HC.out])
            have HLT := Lib.hid (show goN (nextB xss t) c n < 1024 from Nat.lt_of_lt_of_le (goN_lt hbm n) (pow_le hn10))
            have i1 : (0 : Int) ≤ (k : Int) := by omega
            have i2 : (k : Int) < (l : Int) := by omega
            have i3 : (0 : Int) ≤ (t : Int) := by omega
            have i4 : (t : Int) < (m : Int) := by omega
            clear hy hy1 hr hnum hbl hbm nw opt
            go_wp2_with fail
            refine (afterChoice_any A5 n c5 c (nextB xss t) _ HNM.out hn10 hcl HBM.out).mono ?_
            rintro e w5 ⟨rfl, b5⟩
            have HB5 := Lib.hid (below_then HBL.out b5)
            clear b5
            go_wp2_with fail
            go_roundw
            case rel => exact ⟨k + 1, _, by omega, by go_num, rfl, HLT.out, HST.out.symm, HB5.out⟩
            case measure => simp [intOf]; omega
          · have hkl : k = l := by omega
            have hE : c = R := by rw [HC.out, HRR.out, List.take_of_length_le (by rw [HLW.out]; omega)]
            subst hE
            have HB6 := Lib.hid (below_then HB4.out HBL.out)
            clear hkl nw opt
            go_wp2_with fail
            refine (setList_any c _ hcl).mono ?_
            rintro e w7 ⟨u, rfl, o7, b7⟩
            have O7 := Lib.hid o7
            have B7 := Lib.hid b7
            clear o7 b7
            go_wp2_with fail
            go_ret2
            exact listsTo_mk HF0.out (own_base O7.out HB6.out.size) (below_then HB6.out B7.out)

end Go.Proofs.Ytikimfncpemmkab
