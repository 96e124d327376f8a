/-
  What is believed behind a letter and a lamp: the contracts of both Believed.
-/
import Derived.Test.YtkfajimhooidcaaWith
import Derived.Test.YtkfajimhooidcaaLst
namespace Go.Proofs.Ytkfajimhooidcaa
open Go.RowKit Go.Deep Go.ChangeShapes Go.WideShapes

theorem setB_geB {s : Int} {xs : List Int} (h : setB s xs = true) : ∀ k, k < xs.length → (k : Int) ≤ xs.getD k 0 ∧ xs.getD k 0 < s
  | 0, hk => by
    have h1 := List.all_eq_true.1 h 0 (List.mem_range.2 hk)
    simp only [setAt, belowB, Bool.and_eq_true, decide_eq_true_eq] at h1
    omega
  | k + 1, hk => by
    have h0 := setB_geB h k (by omega)
    have h1 := List.all_eq_true.1 h (k + 1) (List.mem_range.2 hk)
    simp only [setAt, belowB, Bool.and_eq_true, Bool.or_eq_true, decide_eq_true_eq, Nat.add_sub_cancel] at h1
    omega
theorem setB_len10 {n : Nat} {xs : List Int} (h : setB (n : Int) xs = true) : xs.length ≤ n := by
  rcases Nat.eq_zero_or_pos xs.length with h0 | h0
  · omega
  · have := setB_geB h (xs.length - 1) (by omega)
    omega
/-- The bits of the set that is believed for the letter x and the lamp v. -/
def belB (n : Nat) (xss : List (List Int)) (ls : List Int) (b x v : Nat) : Nat := lampB (aftB b (xss.getD x []) n) ls v n

theorem withL_setL (ls : List Int) (v : Int) (f : Nat → Bool) (k : Nat) : withL ls v (setL f k) = setL (fun q => f q && decide (ls.getD q 0 = v)) k := by
  induction k with
  | zero => rfl
  | succ k ih =>
    rcases hf : f k with _ | _
    · rw [setL_f hf, ih, setL_f (f := fun q => f q && decide (ls.getD q 0 = v)) (by simp [hf])]
    · rw [setL_t hf, withL_snoc, ih, Int.toNat_natCast]
      by_cases hv : ls.getD k 0 = v
      · rw [if_pos hv, setL_t (f := fun q => f q && decide (ls.getD q 0 = v)) (by rw [hf, decide_eq_true hv]; rfl)]
      · rw [if_neg hv, setL_f (f := fun q => f q && decide (ls.getD q 0 = v)) (by rw [hf, decide_eq_false hv]; rfl)]
theorem setL_congr {f g : Nat → Bool} : ∀ k, (∀ q, q < k → f q = g q) → setL f k = setL g k
  | 0, _ => rfl
  | k + 1, h => by
    have ih := setL_congr k (fun q hq => h q (by omega))
    have hk := h k (by omega)
    rcases hf : f k with _ | _
    · rw [setL_f hf, setL_f (by rw [← hk]; exact hf), ih]
    · rw [setL_t hf, setL_t (by rw [← hk]; exact hf), ih]
theorem belB_list {n m : Nat} {xss : List (List Int)} {ls set : List Int} {x v : Nat} (hg : GoodL n m xss ls) (hs : setB (n : Int) set = true) (hx : x < m) : withL ls (v : Int) (imageL xss set [(x : Int)]) = listK (belB n xss ls (setN set) x v) 10 := by
  unfold imageL
  rw [withL_setL]
  show _ = setL (bitF _) 10
  refine setL_congr 10 (fun q _ => ?_)
  show (imM xss set [(x : Int)] set.length q && decide (ls.getD q 0 = (v : Int))) = (belB n xss ls (setN set) x v).testBit q
  unfold belB
  rw [lampB_bit, aftB_bit]
  have hmem := setB_mem hs
  have e1 : imM xss set [(x : Int)] set.length q = (decide (q < n) && (List.range n).any fun j => (setN set).testBit j && decide (((xss.getD x []).getD j 0).toNat = q)) := by
    rw [Bool.eq_iff_iff, Bool.and_eq_true, decide_eq_true_eq, List.any_eq_true]
    unfold imM
    rw [List.take_length, List.any_eq_true]
    constructor
    · rintro ⟨y, hy, he⟩
      have hy' := hmem y hy
      have he' := of_decide_eq_true he
      have hq : toS xss [(x : Int)] y.toNat < n := hg.good.to _ _ (fun z hz => by rw [List.mem_singleton.1 hz]; omega) (by omega)
      refine ⟨by omega, y.toNat, List.mem_range.2 (by omega), ?_⟩
      rw [Bool.and_eq_true, decide_eq_true_eq]
      refine ⟨(setN_bit _ _ rfl (fun z hz => (hmem z hz).1) _).2 (by rw [show ((y.toNat : Nat) : Int) = y from by omega]; exact hy), ?_⟩
      rw [← he']
      simp [toS, nx]
    · rintro ⟨_, j, hj, he⟩
      rw [Bool.and_eq_true, decide_eq_true_eq] at he
      refine ⟨(j : Int), (setN_bit _ _ rfl (fun z hz => (hmem z hz).1) _).1 he.1, ?_⟩
      rw [decide_eq_true_eq, Int.toNat_natCast, ← he.2]
      simp [toS, nx]
  rw [e1]
  rw [Bool.and_assoc]

/-- What Believed answers. -/
def believed (s : Int) (xss : List (List Int)) (ls set : List Int) (x v : Int) : List Int × Int :=
  if okL s xss ls = true then (if (setB s set && (belowB (xss.length : Int) x && belowB 4 v)) = true then (listK (belB s.toNat xss ls (setN set) x.toNat v.toNat) 10, 0) else ([], 2)) else ([], 1)
theorem believed_1 {s : Int} {xss : List (List Int)} {ls set : List Int} {x v : Int} (h : okL s xss ls = false) : believed s xss ls set x v = ([], 1) := by unfold believed; rw [if_neg (by simp [h])]
theorem believed_2 {s : Int} {xss : List (List Int)} {ls set : List Int} {x v : Int} (h : okL s xss ls = true) (h' : setB s set = false) : believed s xss ls set x v = ([], 2) := by unfold believed; rw [if_pos h, if_neg (by simp [h'])]
theorem believed_3 {s : Int} {m : Nat} {xss : List (List Int)} {ls set : List Int} {x v : Int} (h : okL s xss ls = true) (hm : xss.length = m) (h' : belowB (m : Int) x = false) : believed s xss ls set x v = ([], 2) := by unfold believed; rw [if_pos h, hm, if_neg (by simp [h'])]
theorem believed_4 {s : Int} {xss : List (List Int)} {ls set : List Int} {x v : Int} (h : okL s xss ls = true) (h' : belowB 4 v = false) : believed s xss ls set x v = ([], 2) := by unfold believed; rw [if_pos h, if_neg (by simp [h'])]
theorem believed_0 {n m x v : Nat} {xss : List (List Int)} {ls set : List Int} (h : okL (n : Int) xss ls = true) (hm : xss.length = m) (hs : setB (n : Int) set = true) (hx : belowB (m : Int) (x : Int) = true) (hv : belowB 4 (v : Int) = true) : believed (n : Int) xss ls set (x : Int) (v : Int) = (listK (belB n xss ls (setN set) x v) 10, 0) := by
  unfold believed; rw [if_pos h, hm, if_pos (by simp [hs, hx, hv]), Int.toNat_natCast, Int.toNat_natCast, Int.toNat_natCast]
theorem believed_len (s : Int) (xss : List (List Int)) (ls set : List Int) (x v : Int) : (believed s xss ls set x v).1.length ≤ 10 := by
  unfold believed
  split
  · split
    · exact setL_len _ _
    · simp
  · simp


theorem run_index_lamp (M : Array Value) (k P : Nat) (w : World) (hk : k < 4) (hM : M[k]? = some (.int .u16 (P : Int))) :
    Sem.run Try.prog (Instr.index 64 (.agg M) (.int .i64 (k : Int))) w = .ok (.int .u16 (P : Int)) w := by
  have hu : Try.prog.underlying 64 = some (.array 4 63) := Try.underlying64
  have h1 : (0 : Int) ≤ (k : Int) := by omega
  simp [Instr.index, run_underlying hu, asIntOf, h1, hk, hM, go_sem]

set_option maxRecDepth 100000 in
set_option maxHeartbeats 2000000 in
theorem specBelieved_any (s : Int) (A : Option Addr) (n c : Nat) (xss : List (List Int)) (B : Option Addr) (m d : Nat) (ls : List Int) (A2 : Option Addr) (l cap : Nat) (set : List Int) (x v : Int) (w : World) (h : RowsAt w A n xss) (hn : n ≤ 4611686018427387904)
    (hrows : ∀ (r : Nat) (xs : List Int), xss[r]? = some xs → xs.length ≤ 4611686018427387904) (g : NumsAt w B m ls) (hm : m ≤ 4611686018427387904) (hs : NumsAt w A2 l set) (hl : l ≤ 4611686018427387904) :
    Calls Try.prog 20 #[.agg #[.int .i64 s, .slice A n c, .slice B m d], .slice A2 l cap, .int .i64 x, .int .i64 v] w (ListsTo (believed s xss ls set x v) w) := by
  have HR := Lib.hid hrows
  have HL := Lib.hid h.1
  have HSL := Lib.hid hs.1
  clear hrows
  obtain ⟨w1, hw1⟩ : ∃ w1, w1 = w.alloc (.cells #[.int .i64 s, .slice A n c, .slice B m d] 32) := ⟨_, rfl⟩
  have b1 : Below w.heap.size w w1 := by rw [hw1]; exact (Below.refl _ _).alloc (Nat.le_refl _) _
  have HB1 := Lib.hid (show LBox w1 w.heap.size s A n c B m d by rw [hw1]; exact Box.new _ _ _)
  have HX1 := Lib.hid (h.below b1)
  have HY1 := Lib.hid (g.below b1)
  have HS1 := Lib.hid (hs.below b1)
  have W1 := Lib.hid b1
  have HW := Lib.hid hw1
  clear h g hs b1 hw1
  go_enter Try.func20, Try.ntmps20
  go_wp2_with fail
  rw [← HW.out]
  refine (l08Ok_any w.heap.size s A n c xss B m d ls w1 HB1.out HX1.out hn HR.out HY1.out hm).mono ?_
  rintro e w2 ⟨rfl, k2, hk2⟩
  have b2 : Below w1.heap.size w1 w2 := by rw [hk2]; exact below_drewN' (Below.refl _ _) _
  have HB2 := Lib.hid (show LBox w2 w.heap.size s A n c B m d from Box.below HB1.out b2)
  have HX2 := Lib.hid (HX1.out.below b2)
  have HY2 := Lib.hid (HY1.out.below b2)
  have HS2 := Lib.hid (HS1.out.below b2)
  have W2 := Lib.hid (below_then W1.out b2)
  have m0 := HB2.out 0 _ rfl
  have m1 := HB2.out 1 _ rfl
  have m2 := HB2.out 2 _ rfl
  clear b2 hk2 HB1 HX1 HY1 HS1 W1 HW
  rcases hok : okL s xss ls with _ | _
  · go_wp2_with fail
    go_ret2
    exact listsTo_mk (believed_1 hok) (own_none _ _ W2.out.size) (W2.out.alloc W2.out.size _)
  · obtain ⟨N, hsN, hg⟩ := goodL_of hok HL.out
    subst hsN
    have HG := Lib.hid hg
    have hn1 : 1 ≤ n := hg.good.m1
    have hn3 : n ≤ 3 := hg.good.m3
    have hN1 : (1 : Int) ≤ (N : Int) := by have := hg.good.n1; omega
    have hN10 : (N : Int) ≤ 10 := by have := hg.good.n10; omega
    have hsub : IntKind.i64.wrap ((n : Int) - 1) = (n : Int) - 1 := IntWalk.i64_in _ (by omega)
    clear hg
    go_wp2_with fail
    refine (l01Set_any w.heap.size (N : Int) A2 l cap set _ m0 HS2.out hN1 hN10 hl).mono ?_
    rintro e w3 ⟨rfl, k3, hk3⟩
    have b3 : Below w2.heap.size w2 w3 := by rw [hk3]; exact below_drewN' (Below.refl _ _) _
    have HB3 := Lib.hid (show LBox w3 w.heap.size (N : Int) A n c B m d from Box.below HB2.out b3)
    have HX3 := Lib.hid (HX2.out.below b3)
    have HY3 := Lib.hid (HY2.out.below b3)
    have HS3 := Lib.hid (HS2.out.below b3)
    have W3 := Lib.hid (below_then W2.out b3)
    clear m0 m1 m2 b3 hk3 HB2 HX2 HY2 HS2 W2
    have m0 := HB3.out 0 _ rfl
    have m1 := HB3.out 1 _ rfl
    have m2 := HB3.out 2 _ rfl
    rcases hse : setB (N : Int) set with _ | _
    · go_wp2_with fail
      go_ret2
      exact listsTo_mk (believed_2 hok hse) (own_none _ _ W3.out.size) (W3.out.alloc W3.out.size _)
    · rcases hx : inB 0 ((n : Int) - 1) x with _ | _
      · go_wp2_with fail
        refine (l00In_any _ _ _ _).mono ?_
        rw [hx]
        rintro e w' ⟨rfl, rfl⟩
        go_wp2_with fail
        go_ret2
        exact listsTo_mk (believed_3 hok HL.out (by rw [belowB_inB]; exact hx)) (own_none _ _ W3.out.size) (W3.out.alloc W3.out.size _)
      · rcases hv : inB 0 3 v with _ | _
        · go_wp2_with fail
          refine (l00In_any _ _ _ _).mono ?_
          rw [hx]
          rintro e w' ⟨rfl, rfl⟩
          go_wp2_with fail
          refine (l00In_any _ _ _ _).mono ?_
          rw [hv]
          rintro e w' ⟨rfl, rfl⟩
          go_wp2_with fail
          go_ret2
          exact listsTo_mk (believed_4 hok (by rw [belowB_inB]; exact hv)) (own_none _ _ W3.out.size) (W3.out.alloc W3.out.size _)
        · have hx' : 0 ≤ x ∧ x ≤ (n : Int) - 1 := by simpa [inB] using hx
          have hv' : 0 ≤ v ∧ v ≤ 3 := by simpa [inB] using hv
          obtain ⟨x, rfl⟩ : ∃ y : Nat, x = (y : Int) := ⟨x.toNat, by omega⟩
          obtain ⟨v, rfl⟩ : ∃ y : Nat, v = (y : Int) := ⟨v.toNat, by omega⟩
          have HXN := Lib.hid (show (0 : Int) ≤ (x : Int) ∧ (x : Int) < (n : Int) by omega)
          have HXM := Lib.hid (show x < n by omega)
          have HF := Lib.hid (believed_0 hok HL.out hse (by rw [belowB_inB]; exact hx) (by rw [belowB_inB]; exact hv))
          have HSE := Lib.hid hse
          have hlen : l ≤ 10 := by have := setB_len10 hse; rw [HSL.out] at this; omega
          clear hx' hv' hok
          go_wp2_with fail
          refine (l00In_any _ _ _ _).mono ?_
          rw [hx]
          rintro e w' ⟨rfl, rfl⟩
          go_wp2_with fail
          refine (l00In_any _ _ _ _).mono ?_
          rw [hv]
          rintro e w' ⟨rfl, rfl⟩
          go_wp2_with fail
          refine (l08Believed_any w.heap.size A N n c xss B m d ls A2 l cap set (x : Int) (v : Int) w3 HG.out HB3.out HX3.out HY3.out HS3.out hlen (setB_mem HSE.out) HXN.out).mono ?_
          rintro e w4 ⟨u, rfl, o4, b4⟩
          rw [belB_list HG.out HSE.out HXM.out] at o4
          have O4 := Lib.hid (own_base o4 W3.out.size)
          have W4 := Lib.hid (below_then W3.out b4)
          clear o4 b4
          go_wp2_with fail
          go_ret2
          exact listsTo_mk HF.out O4.out W4.out

set_option maxRecDepth 100000 in
set_option maxHeartbeats 4000000 in
theorem implBelieved_any (s : Int) (A : Option Addr) (n c : Nat) (xss : List (List Int)) (B : Option Addr) (m d : Nat) (ls : List Int) (A2 : Option Addr) (l cap : Nat) (set : List Int) (x v : Int) (w : World) (h : RowsAt w A n xss) (hn : n ≤ 4611686018427387904)
    (hrows : ∀ (r : Nat) (xs : List Int), xss[r]? = some xs → xs.length ≤ 4611686018427387904) (g : NumsAt w B m ls) (hm : m ≤ 4611686018427387904) (hs : NumsAt w A2 l set) (hl : l ≤ 4611686018427387904) :
    Calls Try.prog 22 #[.agg #[.int .i64 s, .slice A n c, .slice B m d], .slice A2 l cap, .int .i64 x, .int .i64 v] w (ListsTo (believed s xss ls set x v) w) := by
  have HR := Lib.hid hrows
  have HL := Lib.hid h.1
  have HSL := Lib.hid hs.1
  clear hrows
  obtain ⟨w1, hw1⟩ : ∃ w1, w1 = w.alloc (.cells #[.int .i64 s, .slice A n c, .slice B m d] 32) := ⟨_, rfl⟩
  have b1 : Below w.heap.size w w1 := by rw [hw1]; exact (Below.refl _ _).alloc (Nat.le_refl _) _
  have HB1 := Lib.hid (show LBox w1 w.heap.size s A n c B m d by rw [hw1]; exact Box.new _ _ _)
  have HX1 := Lib.hid (h.below b1)
  have HY1 := Lib.hid (g.below b1)
  have HS1 := Lib.hid (hs.below b1)
  have W1 := Lib.hid b1
  have HW := Lib.hid hw1
  have n0 := HB1.out 0 _ rfl
  have n1 := HB1.out 1 _ rfl
  have n2 := HB1.out 2 _ rfl
  rw [hw1] at n0 n1 n2
  clear h g hs b1 hw1
  go_enter Try.func22, Try.ntmps22
  go_wp2_with fail
  rw [← HW.out]
  clear n0 n1 n2
  refine (implValidLit_any s A n c xss B m d ls w1 HX1.out hn HR.out HY1.out hm).mono ?_
  rintro e w2 ⟨rfl, b2⟩
  have HB2 := Lib.hid (show LBox w2 w.heap.size s A n c B m d from Box.below HB1.out b2)
  have HX2 := Lib.hid (HX1.out.below b2)
  have HY2 := Lib.hid (HY1.out.below b2)
  have HS2 := Lib.hid (HS1.out.below b2)
  have W2 := Lib.hid (below_then W1.out b2)
  have m0 := HB2.out 0 _ rfl
  have m1 := HB2.out 1 _ rfl
  have m2 := HB2.out 2 _ rfl
  clear b2 HB1 HX1 HY1 HS1 W1 HW
  rcases hok : okL s xss ls with _ | _
  · go_wp2_with fail
    go_ret2
    exact listsTo_mk (believed_1 hok) (World.ownsRow_nil _ _ _ _) W2.out
  · obtain ⟨N, hsN, hg⟩ := goodL_of hok HL.out
    subst hsN
    have HG := Lib.hid hg
    have hn3 : n ≤ 3 := hg.good.m3
    have hN10 : N ≤ 10 := hg.good.n10
    clear hg
    rcases hse : setB (N : Int) set with _ | _
    · go_wp2_with fail
      refine (isSet_any _ _ _ _ _ _ HS2.out hl).mono ?_
      rw [hse]
      rintro e w' ⟨rfl, rfl⟩
      go_wp2_with fail
      go_ret2
      exact listsTo_mk (believed_2 hok hse) (World.ownsRow_nil _ _ _ _) W2.out
    · rcases hx : belowB (n : Int) x with _ | _
      · go_wp2_with fail
        refine (isSet_any _ _ _ _ _ _ HS2.out hl).mono ?_
        rw [hse]
        rintro e w' ⟨rfl, rfl⟩
        go_wp2_with fail
        refine (isBelow_any _ _ _).mono ?_
        rw [hx]
        rintro e w' ⟨rfl, rfl⟩
        go_wp2_with fail
        go_ret2
        exact listsTo_mk (believed_3 hok HL.out hx) (World.ownsRow_nil _ _ _ _) W2.out
      · rcases hv : belowB 4 v with _ | _
        · go_wp2_with fail
          refine (isSet_any _ _ _ _ _ _ HS2.out hl).mono ?_
          rw [hse]
          rintro e w' ⟨rfl, rfl⟩
          go_wp2_with fail
          refine (isBelow_any _ _ _).mono ?_
          rw [hx]
          rintro e w' ⟨rfl, rfl⟩
          go_wp2_with fail
          refine (isBelow_any _ _ _).mono ?_
          rw [hv]
          rintro e w' ⟨rfl, rfl⟩
          go_wp2_with fail
          go_ret2
          exact listsTo_mk (believed_4 hok hv) (World.ownsRow_nil _ _ _ _) W2.out
        · have hx' : 0 ≤ x ∧ x < (n : Int) := by simpa [belowB] using hx
          have hv' : 0 ≤ v ∧ v < 4 := by simpa [belowB] using hv
          obtain ⟨x, rfl⟩ : ∃ y : Nat, x = (y : Int) := ⟨x.toNat, by omega⟩
          obtain ⟨v, rfl⟩ : ∃ y : Nat, v = (y : Int) := ⟨v.toNat, by omega⟩
          have hxm : x < n := by omega
          have hv4 : v < 4 := by omega
          have HF := Lib.hid (believed_0 hok HL.out hse hx hv)
          have hmem : ∀ y ∈ set, 0 ≤ y ∧ y < 10 := fun y hy => by have := setB_mem hse y hy; omega
          have HMEM := Lib.hid hmem
          have hS : setN set < 1024 := setN_lt _ _ rfl hmem
          obtain ⟨S, hSe⟩ : ∃ S, S = setN set := ⟨_, rfl⟩
          rw [← hSe] at hS
          have HSE := Lib.hid hSe
          obtain ⟨row, Bx, ox, Ar, cr, hr1, hA, hcr, hnr⟩ := HX2.out.at_ hxm
          subst hA
          have hgr := HG.out.good.rows x row hr1
          have hrl : row.length = N := hgr.1
          have hr10 : ∀ y ∈ row, 0 ≤ y ∧ y < 10 := fun y hy => by have := hgr.2 y hy; omega
          have HR10 := Lib.hid hr10
          rw [hrl] at hcr hnr
          have HNR := Lib.hid hnr
          obtain ⟨T, hT⟩ : ∃ T, T = aftB S row N := ⟨_, rfl⟩
          have hTl : T < 1024 := by
            rw [hT]
            refine aftB_lt N (fun j _ => ?_)
            rcases Nat.lt_or_ge j row.length with a | a
            · have := hr10 row[j] (List.getElem_mem a)
              rw [List.getD_eq_getElem?_getD, List.getElem?_eq_getElem a]
              show (row[j]).toNat < 10
              omega
            · rw [List.getD_eq_getElem?_getD, List.getElem?_eq_none a]; simp
          have hmN : m = N := by rw [← HY2.out.1]; exact HG.out.len
          subst hmN
          obtain ⟨P, hP⟩ : ∃ P, P = lampB T ls v m := ⟨_, rfl⟩
          have hPl : P < 1024 := by rw [hP]; exact lampB_lt hTl _ _ _
          have hPe : P = belB m xss ls (setN set) x v := by
            rw [hP, hT, hSe]; unfold belB
            rw [List.getD_eq_getElem?_getD, hr1]; rfl
          have hidx : (lampV T ls m)[v]? = some (.int .u16 (P : Int)) := by
            rw [hP]
            rcases v with _ | _ | _ | _ | v <;> first | rfl | omega
          have HTT := Lib.hid hT
          have HPE := Lib.hid hPe
          have HIDX := Lib.hid hidx
          have HLA := Lib.hid HG.out.lamp
          have hix := fun (w : World) => run_index_lamp (lampV T ls m) v P w hv4 hidx
          clear hx' hok hSe hgr hr10 hT hP hPe hidx hmem hr1 hnr
          go_wp2_with fail
          refine (isSet_any _ _ _ _ _ _ HS2.out hl).mono ?_
          rw [hse]
          rintro e w' ⟨rfl, rfl⟩
          go_wp2_with fail
          refine (isBelow_any _ _ _).mono ?_
          rw [hx]
          rintro e w' ⟨rfl, rfl⟩
          go_wp2_with fail
          refine (isBelow_any _ _ _).mono ?_
          rw [hv]
          rintro e w' ⟨rfl, rfl⟩
          go_wp2_with fail
          clear hse hx hv hv'
          go_region_law
            (first
              | (go_simp; go_at_call 52; refine (setOf_any A2 l cap set _ (by first | exact HS2.out | exact HS2.out.drew | exact HS2.out.drewN _) HMEM.out hl).mono ?_; rw [← HSE.out]; rintro e' w' ⟨rfl, rfl⟩)
              | (go_simp; go_at_call 53; refine (after_any Ar m cr S row _ hS (by first | exact HNR.out | exact HNR.out.drew | exact HNR.out.drewN _) hN10 HR10.out).mono ?_; rw [← HTT.out]; rintro e' w' ⟨rfl, rfl⟩)
              | (go_simp; go_at_call 42; refine (byLamp_any T (m : Int) _ n c B m d ls _ hTl (by first | exact HY2.out | exact HY2.out.drew | exact HY2.out.drewN _) hN10 HLA.out).mono ?_; rintro e' w3 ⟨rfl, b3⟩; have B3 : Hid (Below w2.heap.size w2 w3) := Lib.hid (by first | exact b3 | exact below_then (below_drewN' (Below.refl _ _) 1) b3); clear b3)
              | (go_simp; go_at_call 54; refine (setList_any P _ hPl).mono ?_; rintro e' w4 ⟨u, rfl, o4, b4⟩; have O4 := Lib.hid o4; have B4 : Hid (Below w2.heap.size w2 w4) := Lib.hid (by first | exact below_then B3.out b4 | exact below_then B3.out (below_then (below_drewN' (Below.refl _ _) 1) b4)); clear o4 b4)
              | fail)
          all_goals
            go_wp2_with fail
            go_ret2
            exact listsTo_mk (xs := listK P 10) (by rw [HF.out, HPE.out]) (own_base (by first | exact O4.out | exact own_below O4.out (below_drewN' (Below.refl _ _) 1)) (by first | exact Nat.le_trans W2.out.size B3.out.size | (have h1 := W2.out.size; have h2 := B3.out.size; omega))) (by first | exact below_then W2.out B4.out | exact below_drewN' (below_then W2.out B4.out) 1)

end Go.Proofs.Ytkfajimhooidcaa
