/-
  The states to which reset words lead: the contracts of both TargetsOf.
-/
import Derived.Test.YtcdchnddmeofgaaList
import Derived.Test.YtcdchnddmeofgaaFullC
namespace Go.Proofs.Ytcdchnddmeofgaa
open Go.RowKit Go.Deep Go.ChangeShapes Go.WideShapes
open Hunt Srch From Moved Room

/-- The states of the sets that have at most one. -/
def targB (T : List Fnd) : Nat := T.foldl (fun a f => if mergedB f.set = true then a ||| f.set else a) 0
theorem targB_snoc (T : List Fnd) (f : Fnd) : targB (T ++ [f]) = if mergedB f.set = true then targB T ||| f.set else targB T := by simp [targB]
theorem targB_bit (q : Nat) : ∀ (k : Nat) (T : List Fnd), T.length = k → ((targB T).testBit q = true ↔ ∃ f ∈ T, mergedB f.set = true ∧ f.set.testBit q = true)
  | 0, T, hl => by rw [List.eq_nil_of_length_eq_zero hl]; simp [targB]
  | k + 1, T, hl => by
    obtain ⟨S, a, rfl⟩ : ∃ S a, T = S ++ [a] := by
      rcases List.eq_nil_or_concat T with h | ⟨S, a, h⟩
      · subst h; simp at hl
      · exact ⟨S, a, by simpa using h⟩
    have ih := targB_bit q k S (by rw [List.length_append] at hl; simp at hl; exact hl)
    rw [targB_snoc]
    by_cases h : mergedB a.set = true
    · rw [if_pos h, Nat.testBit_or, Bool.or_eq_true, ih]
      constructor
      · rintro (⟨f, h1, h2⟩ | h1)
        · exact ⟨f, by simp [h1], h2⟩
        · exact ⟨a, by simp, h, h1⟩
      · rintro ⟨f, h1, h2, h3⟩
        rcases List.mem_append.1 h1 with h4 | h4
        · exact .inl ⟨f, h4, h2, h3⟩
        · obtain rfl : f = a := by simpa using h4
          exact .inr h3
    · rw [if_neg h, ih]
      constructor
      · rintro ⟨f, h1, h2⟩; exact ⟨f, by simp [h1], h2⟩
      · rintro ⟨f, h1, h2, h3⟩
        rcases List.mem_append.1 h1 with h4 | h4
        · exact ⟨f, h4, h2, h3⟩
        · obtain rfl : f = a := by simpa using h4
          exact absurd h2 h
theorem targB_lt : ∀ (k : Nat) (T : List Fnd), T.length = k → (∀ f ∈ T, f.set < 1024) → targB T < 1024
  | 0, T, hl, _ => by rw [List.eq_nil_of_length_eq_zero hl]; decide
  | k + 1, T, hl, hx => by
    obtain ⟨S, a, rfl⟩ : ∃ S a, T = S ++ [a] := by
      rcases List.eq_nil_or_concat T with h | ⟨S, a, h⟩
      · subst h; simp at hl
      · exact ⟨S, a, by simpa using h⟩
    have ih := targB_lt k S (by rw [List.length_append] at hl; simp at hl; exact hl) (fun f hf => hx f (by simp [hf]))
    have h2 := hx a (by simp)
    rw [targB_snoc]
    split
    · exact Nat.or_lt_two_pow (n := 10) ih h2
    · exact ih
theorem targ_cut {n m : Nat} {xss : List (List Int)} (hg : Good n m xss) : targB (fnd n m xss 400 (2 ^ n - 1)) = targB (fnd n m xss 1024 (2 ^ n - 1)) := by
  have ha := acts hg
  have hb := full_lt hg.n10
  refine Nat.eq_of_testBit_eq fun q => Bool.eq_iff_iff.2 ?_
  rw [targB_bit q _ _ rfl, targB_bit q _ _ rfl]
  constructor
  · rintro ⟨f, h1, h2⟩
    obtain ⟨N, hN, _⟩ := cap_pre (aft := aftF n xss) (m := m) (b0 := 2 ^ n - 1) (show 400 ≤ 1024 by decide) 1024
    refine ⟨f, ?_, h2⟩
    unfold fnd at h1 ⊢
    rw [all_eq] at h1 ⊢
    rw [hN]
    exact List.mem_append_left _ h1
  · rintro ⟨f, h1, h2, h3⟩
    obtain ⟨k1, k2⟩ := found_word h1
    have hc : cnt (goW (aftF n xss) (2 ^ n - 1) f.word) ≤ 1 := by
      rw [← k1]; exact (merged_iff (fnd_lt hg hb h1)).1 h2
    obtain ⟨us, h4, h5, h6⟩ := single_bound ha (aftF_lt hg) f.word k2 hc
    obtain ⟨j, f', h7, h8, _⟩ := all_found (cap := 400) (small hg hb) us.length us rfl (by omega) h4
    have h9 : f'.set = f.set := by rw [h8, h6, ← k1]
    exact ⟨f', List.mem_of_getElem? h7, by rw [h9]; exact h2, by rw [h9]; exact h3⟩
noncomputable def targN (n m : Nat) (xss : List (List Int)) : Nat := targB (fnd n m xss 1024 (2 ^ n - 1))
noncomputable def targW (n m : Nat) (xss : List (List Int)) : List Int × Int := if targN n m xss = 0 then ([], 6) else (listK (targN n m xss) 10, 0)
/-- What TargetsOf answers. -/
noncomputable def targetsOf (s : Int) (xss : List (List Int)) : List Int × Int :=
  if okA s xss = true then targW s.toNat xss.length xss else ([], 1)
theorem targetsOf_1 {s : Int} {xss : List (List Int)} (h : okA s xss = false) : targetsOf s xss = ([], 1) := by unfold targetsOf; rw [if_neg (by simp [h])]
theorem targetsOf_0 {n m : Nat} {xss : List (List Int)} (h : okA (n : Int) xss = true) (hm : xss.length = m) : targetsOf (n : Int) xss = targW n m xss := by unfold targetsOf; rw [if_pos h, hm, Int.toNat_natCast]
theorem listK_le (b : Nat) : (listK b 10).length ≤ 10 := by
  unfold listK
  rw [List.length_map]
  exact Nat.le_trans (List.length_filter_le _ _) (by rw [List.length_range]; exact Nat.le_refl _)
theorem targetsOf_len (s : Int) (xss : List (List Int)) : (targetsOf s xss).1.length ≤ 1024 := by
  rcases hok : okA s xss with _ | _
  · rw [targetsOf_1 hok]; simp
  · obtain ⟨n, hsn, hg⟩ := good_of hok rfl
    subst hsn
    rw [targetsOf_0 hok rfl]
    unfold targW
    split
    · simp
    · exact Nat.le_trans (listK_le _) (by decide)
theorem searchFrom_b (A : Option Addr) (n m cap b0 : Nat) (xss : List (List Int)) (w : World) (hb0 : b0 < 1024) :
    Calls Try.prog 33 #[.agg #[.int .i64 (n : Int), .slice A m cap], .int .u16 (b0 : Int)] w fun e w' => ∃ base pq pe pk pa g, base = w.heap.size ∧ e = .returned (.func (.func 61) #[] #[.pointer (some ⟨pq, 0, none⟩), .pointer (some ⟨pe, 0, none⟩)]) ∧ Going base pq pe pk pa g n m cap b0 0 A xss w' ∧ Below w.heap.size w w' :=
  (searchFrom_any A n m cap b0 xss w hb0).mono fun _ _ ⟨pq, pe, pk, pa, g, h1, _, h2, h3⟩ => ⟨_, pq, pe, pk, pa, g, rfl, h1, h2, h3⟩

theorem listK_mem {b q : Nat} (hq : q < 10) : (q : Int) ∈ listK b 10 ↔ b.testBit q = true := by
  unfold listK
  simp only [List.mem_map, List.mem_filter, List.mem_range, bitF]
  constructor
  · rintro ⟨r, ⟨_, h⟩, e⟩
    obtain rfl : r = q := by omega
    exact h
  · intro h; exact ⟨q, ⟨hq, h⟩, rfl⟩
theorem listK_zero {a : Nat} (ha : a < 1024) : (0 < (listK a 10).length) ↔ a ≠ 0 := by
  constructor
  · rintro h rfl
    have : listK 0 10 = [] := by decide
    rw [this] at h
    simp at h
  · intro h
    obtain ⟨i, hi⟩ := Nat.exists_testBit_of_ne_zero h
    have h10 : i < 10 := by
      rcases Nat.lt_or_ge i 10 with c | c
      · exact c
      · rw [Nat.testBit_lt_two_pow (Nat.lt_of_lt_of_le ha (Nat.pow_le_pow_right (n := 2) (by decide) c))] at hi; cases hi
    exact List.length_pos_of_mem ((listK_mem h10).2 hi)
/-- A set of at most one state that is found has just one. -/
theorem one_state {n m : Nat} {xss : List (List Int)} {f : Fnd} (hg : Good n m xss) (hf : f ∈ fnd n m xss 1024 (2 ^ n - 1)) (hm : mergedB f.set = true) : ∃ t : Nat, t < 10 ∧ listK f.set 10 = [(t : Int)] ∧ f.set = 1 <<< t := by
  have ha := acts hg
  have hb := full_lt hg.n10
  have hn := hg.n10
  have hn1 := hg.n1
  obtain ⟨k1, k2⟩ := found_word hf
  have hlt := fnd_lt hg hb hf
  have hbit : f.set.testBit (goS (nx xss) f.word 0) = true := by
    rw [k1]
    exact ((goW_in ha f.word _ k2 (full_in n)).2 _).2 ⟨0, full_bit (by omega), rfl⟩
  have ht : goS (nx xss) f.word 0 < n := goS_lt ha f.word 0 k2 (by omega)
  obtain ⟨t, htt⟩ : ∃ t, t = goS (nx xss) f.word 0 := ⟨_, rfl⟩
  rw [← htt] at hbit ht
  have hmem : (t : Int) ∈ listK f.set 10 := (listK_mem (by omega)).2 hbit
  have hlen : (listK f.set 10).length ≤ 1 := by
    rw [listK_len hlt]
    simpa [mergedB] using hm
  have hl1 : listK f.set 10 = [(t : Int)] := by
    rcases h : listK f.set 10 with _ | ⟨x, _ | ⟨y, l⟩⟩
    · rw [h] at hmem; simp at hmem
    · rw [h] at hmem; simp at hmem; rw [hmem]
    · rw [h] at hlen; simp at hlen
  refine ⟨t, by omega, hl1, Nat.eq_of_testBit_eq fun i => ?_⟩
  rw [testBit_one_shift]
  by_cases e : t = i
  · subst e; simp [hbit]
  · rcases Nat.lt_or_ge i 10 with c | c
    · have h1 := listK_mem (b := f.set) c
      rw [hl1] at h1
      rcases h2 : f.set.testBit i with _ | _
      · simp [e]
      · have h3 := h1.2 h2
        simp at h3
        omega
    · rw [Nat.testBit_lt_two_pow (Nat.lt_of_lt_of_le hlt (Nat.pow_le_pow_right (n := 2) (by decide) c))]
      simp [e]
theorem put_bit {a t : Nat} (ht : t < 10) : putL (t : Int) (listK a 10) = listK (a ||| 1 <<< t) 10 := by
  rw [listK_setL, put_setL ht, listK_setL]
  congr 1
  funext j
  unfold upd bitF
  rw [Nat.testBit_or, testBit_one_shift]
  by_cases e : j = t
  · subst e; simp
  · rw [if_neg e]; simp; omega
set_option maxRecDepth 100000 in
set_option maxHeartbeats 1000000 in
theorem told_t (u : Value) (w : World) : Calls Try.prog 30 #[u, .bool true] w fun e w' => e = .returned (.tuple #[u, .int .i64 0]) ∧ w' = w := by
  go_enter Try.func30, Try.ntmps30
  go_wp2_with fail
  go_ret2
  exact ⟨rfl, rfl⟩
set_option maxRecDepth 100000 in
set_option maxHeartbeats 1000000 in
theorem told_f (u : Value) (w : World) : Calls Try.prog 30 #[u, .bool false] w fun e w' => e = .returned (.tuple #[.slice (some ⟨w.heap.size, 0, none⟩) 0 0, .int .i64 6]) ∧ w' = w.alloc (.cells #[] 2) := by
  go_enter Try.func30, Try.ntmps30
  go_wp2_with fail
  go_ret2
  exact ⟨rfl, rfl⟩

set_option maxRecDepth 100000 in
set_option maxHeartbeats 2000000 in
theorem implTargetsOf_any (s : Int) (A : Option Addr) (m cap : Nat) (xss : List (List Int)) (w : World) (h : RowsAt w A m xss) (hm : m ≤ 4611686018427387904)
    (hrows : ∀ (r : Nat) (xs : List Int), xss[r]? = some xs → xs.length ≤ 4611686018427387904) :
    Calls Try.prog 10 #[.agg #[.int .i64 s, .slice A m cap]] w fun e w' => ∃ v, e = .returned (.tuple #[v, .int .i64 (targetsOf s xss).2]) ∧ w'.ownsRow w.heap.size 2 1 v (targetsOf s xss).1.length ((targetsOf s xss).1.map (Value.int .i64)) ∧ Below w.heap.size w w' := by
  have HR := Lib.hid hrows
  have HM := Lib.hid h.1
  have b0 : Below w.heap.size w (w.alloc (.cells #[.int .i64 s, .slice A m cap] 29)) := (Below.refl _ _).alloc (Nat.le_refl _) _
  have H0 := Lib.hid (h.below b0)
  have B0 := Lib.hid b0
  clear hrows b0
  rcases hok : okA s xss with _ | _
  · have HF := Lib.hid (targetsOf_1 hok)
    go_enter Try.func10, Try.ntmps10
    go_wp2_with fail
    refine (implValid_any s A m cap xss _ H0.out hm HR.out).mono ?_
    rw [hok]
    rintro e w1 ⟨rfl, b1⟩
    have B1 := Lib.hid (below_then B0.out b1)
    clear b1
    go_wp2_with fail
    go_ret2
    rw [HF.out]
    exact ⟨_, rfl, World.ownsRow_nil _ _ _ _, B1.out⟩
  · obtain ⟨n, hsn, hg⟩ := good_of hok HM.out
    subst hsn
    have HG := Lib.hid hg
    have hn10 : n ≤ 10 := hg.n10
    have HF := Lib.hid (targetsOf_0 hok HM.out)
    clear hg
    go_enter Try.func10, Try.ntmps10
    go_wp2_with fail
    refine (implValid_any (n : Int) A m cap xss _ H0.out hm HR.out).mono ?_
    rw [hok]
    rintro e w1 ⟨rfl, b1⟩
    have d0 : w1.cell? ⟨w.heap.size, 0, none⟩ = some (.int .i64 (n : Int)) := (b1.cell (by simp)).trans (by go_cell)
    have d1 : w1.cell? ⟨w.heap.size, 1, none⟩ = some (.slice A m cap) := (b1.cell (by simp)).trans (by go_cell)
    have r0 : ∀ W', Below w1.heap.size w1 W' → W'.cell? ⟨w.heap.size, 0, none⟩ = some (.int .i64 (n : Int)) := fun W' hb => (hb.cell (cell_lt d0)).trans d0
    have r1 : ∀ W', Below w1.heap.size w1 W' → W'.cell? ⟨w.heap.size, 1, none⟩ = some (.slice A m cap) := fun W' hb => (hb.cell (cell_lt d1)).trans d1
    have H1 := Lib.hid (H0.out.below b1)
    have B1 := Lib.hid (below_then B0.out b1)
    have h9 : Below w1.heap.size w1 w1 := Below.refl _ _
    obtain ⟨b, hb⟩ : ∃ b, b = 2 ^ n - 1 := ⟨_, rfl⟩
    have hb10 : b < 1024 := by rw [hb]; exact full_lt hn10
    have HTC := Lib.hid (show targB (fnd n m xss 400 b) = targN n m xss by rw [hb]; exact targ_cut HG.out)
    have HBB := Lib.hid hb
    clear b1 hb
    go_upto_region 5 with fail
    go_region_held3 (fun w' => Below w1.heap.size w1 w') (first | assumption | exact below_drewN' (by assumption) _)
      (first
        | (go_at_call 34; refine (allStates_any A n m cap _ hn10).mono ?_; rw [← HBB.out]; rintro e w3 ⟨rfl, b3⟩; have h3 : Below w1.heap.size w1 w3 := below_then (by first | assumption | exact below_drewN' (by assumption) _) b3; clear b3)
        | (go_at_call 33; refine (searchFrom_b A n m cap b xss _ hb10).mono ?_; rintro e w4 ⟨base, pq, pe, pk, pa, g0, hbs, rfl, hgo, b4⟩; have hb1 : w1.heap.size ≤ base := (by rw [hbs]; exact (show Below w1.heap.size w1 _ from (by first | assumption | exact below_drewN' (by assumption) _)).size); have hb4 : base ≤ w4.heap.size := (by rw [hbs]; exact b4.size); have h4 : Below w1.heap.size w1 w4 := below_then (by first | assumption | exact below_drewN' (by assumption) _) b4; clear b4 hbs)
        | fail)
    go_wp2_with fail
    refine (search_one base pq pe pk pa g0 n m cap b 0 A xss w4 HG.out (fun W' hb => H1.out.below (h4.trans (hb.mono hb1))) hgo hb4 hb10).mono ?_
    rintro e w5 ⟨g1, ok, s, Au, lu, cu, rfl, ht, htold, hl1, hl2, hl3⟩
    go_wp2_with fail
    have T1 := Lib.hid htold
    have HB5 := Lib.hid (show Below w1.heap.size w1 w5 from h4.trans (ht.below.mono hb1))
    have HB15 := Lib.hid (show base ≤ w5.heap.size from Nat.le_trans hb4 ht.below.size)
    have HP := Lib.hid (show pq < w5.heap.size ∧ pk < w5.heap.size ∧ g1 < w5.heap.size from ⟨Nat.lt_of_lt_of_le hl1 ht.below.size, Nat.lt_of_lt_of_le hl2 ht.below.size, hl3⟩)
    have HB1 := Lib.hid hb1
    have h10 : ∀ f ∈ fnd n m xss 400 b, f.set < 1024 := fun f hf => fnd_lt HG.out hb10 hf
    have HT10 := Lib.hid (show ∀ i, ∀ f ∈ told n m xss b i, f.set < 1024 from fun i f hf => toldL_set HG.out hb10 hf)
    clear htold ht hgo hl1 hl2 hl3 hb1 hb4 h10 h3 h9 h4 r0 r1 d0 d1
    go_loopg [4, 6, 7] 1026 (fun k ov tb tk wr => ∃ (i B gx a : Nat) (ok : Bool) (s : Nat) (Au : Option Addr) (lu cu : Nat), ov = .int .u16 (a : Int) ∧ tb = .pointer (some ⟨B, 0, none⟩) ∧ tk = .bool ok ∧ k + i = 1026 ∧ wr.heap[B]? = some (.cells #[.int .u16 (s : Int), .slice Au lu cu] 62 (0, 0)) ∧
        Srch.Told base pq pe pk pa gx n m cap b i A xss ok s (.slice Au lu cu) wr ∧ (B ≠ pq ∧ B ≠ pk ∧ B ≠ gx) ∧ base ≤ B ∧ i ≤ (told n m xss b i).length ∧ a = targB ((told n m xss b i).take i) ∧ Below w1.heap.size w1 wr)
    case atStart =>
      have hnew : Below w5.heap.size w5 (w5.alloc (.cells #[.int .u16 (s : Int), .slice Au lu cu] 62)) := (Below.refl _ _).alloc (Nat.le_refl _) _
      obtain ⟨l1, l2, l3⟩ := HP.out
      exact ⟨0, w5.heap.size, g1, 0, ok, s, Au, lu, cu, rfl, rfl, rfl, rfl, heap_alloc_new _ _, T1.out.below hnew, ⟨by omega, by omega, by omega⟩, HB15.out, Nat.zero_le _, rfl, below_then HB5.out hnew⟩
    case round =>
      obtain ⟨i, B, gx, a, ok, s, Au, lu, cu, rfl, rfl, rfl, hki, hb, ht, hn, hle, hil, hacc, hbel⟩ := hrel
      have ha10 : a < 1024 := by rw [hacc]; exact targB_lt _ _ rfl (fun f hf => HT10.out i f (List.mem_of_mem_take hf))
      have HKI := Lib.hid hki
      have HB := Lib.hid hb
      have HT := Lib.hid ht
      have HN := Lib.hid hn
      have HLE := Lib.hid hle
      have HIL := Lib.hid hil
      have HA := Lib.hid hacc
      have HBW := Lib.hid hbel
      have c0 : wr.cell? ⟨B, 0, none⟩ = some (.int .u16 (s : Int)) := cell_of_row _ B 0 _ _ _ hb
      have c1 : wr.cell? ⟨B, 1, none⟩ = some (.slice Au lu cu) := cell_of_row _ B 1 _ _ _ hb
      clear hki hb ht hn hle hil hacc hbel
      rcases ok with _ | _
      · have hall : a = targN n m xss := by
          rcases HT.out with ⟨_, _, _, h4⟩ | ⟨h4, _⟩
          · have hl := List.getElem?_eq_none_iff.1 h4
            have he : told n m xss b i = fnd n m xss 400 b := Hunt.all_stop (small HG.out hb10) hl
            rw [HA.out, List.take_of_length_le hl, he, HTC.out]
          · cases h4
        have HALL := Lib.hid hall
        clear hall c0 c1
        have HBO := Lib.hid (below_then B1.out HBW.out)
        by_cases ha0 : a = 0
        · have HA0 := Lib.hid (show targW n m xss = ([], 6) by unfold targW; rw [if_pos (by rw [← HALL.out]; exact ha0)])
          have hz : ((a : Int) == 0) = true := by rw [ha0]; rfl
          clear ha0
          go_wp2_with fail
          go_ret2
          rw [HF.out, HA0.out]
          exact ⟨_, rfl, World.ownsRow_nil _ _ _ _, HBO.out⟩
        · have HA0 := Lib.hid (show targW n m xss = (listK a 10, 0) by unfold targW; rw [if_neg (by rw [← HALL.out]; exact ha0), ← HALL.out])
          have hz : ((a : Int) == 0) = false := by rw [beq_eq_false_iff_ne]; omega
          clear ha0
          go_wp2_with fail
          refine (setList_any a wr ha10).mono ?_
          rintro e w6 ⟨u, rfl, ow, b6⟩
          have HO6 := Lib.hid (own_base ow HBO.out.size)
          have HB6 := Lib.hid (below_then HBO.out b6)
          clear ow b6
          go_wp2_with fail
          go_ret2
          rw [HF.out, HA0.out]
          exact ⟨u, rfl, HO6.out, HB6.out⟩
      · obtain ⟨f, hf, hs, hu, hgo⟩ : ∃ f, (told n m xss b i)[i]? = some f ∧ s = f.set ∧ wr.ownsRow base 2 1 (.slice Au lu cu) f.word.length (f.word.map (Value.int .i64)) ∧ Going base pq pe pk pa gx n m cap b (i + 1) A xss wr := by
          rcases HT.out with ⟨h4, _⟩ | ⟨_, h⟩
          · cases h4
          · exact h
        have HFF := Lib.hid hf
        have HS := Lib.hid hs
        have HGG := Lib.hid hgo
        have hs10 : s < 1024 := by rw [hs]; exact HT10.out i f (List.mem_of_getElem? hf)
        clear hf hs hu hgo
        go_wp2_with fail
        refine (isMerged_any s wr hs10).mono ?_
        rintro e w5 ⟨rfl, k5, hw5⟩
        have b5 : Below wr.heap.size wr w5 := by rw [hw5]; exact below_drewN' (Below.refl _ _) k5
        have hb5 := (b5.block _ (block_lt HB.out)).trans HB.out
        have HB5' := Lib.hid hb5
        have HBW5 := Lib.hid (below_then HBW.out b5)
        have c0' : w5.cell? ⟨B, 0, none⟩ = some (.int .u16 (s : Int)) := cell_of_row _ B 0 _ _ _ hb5
        have c1' : w5.cell? ⟨B, 1, none⟩ = some (.slice Au lu cu) := cell_of_row _ B 1 _ _ _ hb5
        have HBB5 := Lib.hid b5
        obtain ⟨a', ha'⟩ : ∃ a' : Nat, a' = if mergedB s = true then a ||| s else a := ⟨_, rfl⟩
        have HA' := Lib.hid ha'
        have hor := u16_or_nat a s (by omega) (by omega)
        clear c0 c1 b5 hb5 hw5 ha'
        have KEY : ∀ (Q : Prop), Q → Q := fun _ h => h
        rcases hmm : decide (Lib.onesCount s ≤ 1) with _ | _
        all_goals
          have HMM := Lib.hid (show mergedB s = _ from hmm)
          clear hmm
          go_wp2_with fail
          obtain ⟨w6, hw6⟩ : ∃ w6, w6 = w5.alloc (.cells #[.int .u16 (s : Int), .slice Au lu cu] 62) := ⟨_, rfl⟩
          rw [← hw6]
          have b6 : Below w5.heap.size w5 w6 := by rw [hw6]; exact (Below.refl _ _).alloc (Nat.le_refl _) _
          have x6 : w6.heap[w5.heap.size]? = some (.cells #[.int .u16 (s : Int), .slice Au lu cu] 62 (0, 0)) := by rw [hw6]; exact heap_alloc_new _ _
          have hgo6 : Going base pq pe pk pa gx n m cap b (i + 1) A xss w6 := by
            obtain ⟨g1, g2, g3⟩ := HGG.out
            have bb := below_then HBB5.out b6
            exact ⟨g1.below bb, (bb.block _ (block_lt g2)).trans g2, (bb.block _ (block_lt g3)).trans g3⟩
          have hsz := HB1.out
          have hle := HLE.out
          have hblt : B < w5.heap.size := block_lt HB5'.out
          have hs56 := b6.size
          refine (search_one base pq pe pk pa gx n m cap b (i + 1) A xss w6 HG.out (fun W' hb => H1.out.below ((below_then HBW5.out b6).trans (hb.mono (by omega)))) hgo6 (by omega) hb10).mono ?_
          rintro e w7 ⟨g7, ok7, s7, A7, l7, c7, rfl, t7, told7, m1, m2, m3⟩
          have hq6 : pq < w5.heap.size ∧ pk < w5.heap.size ∧ gx < w5.heap.size := by
            obtain ⟨v, us, p1, _, p3, _⟩ := HGG.out.1.queue
            obtain ⟨K, k1, _⟩ := HGG.out.1.known
            have h1 := block_lt p1
            have h2 := block_lt k1
            have h3 := q_lt p3
            have h4 := HBB5.out.size
            omega
          obtain ⟨n1, n2, n3⟩ := hq6
          have hx7 : w5.heap.size < w6.heap.size := block_lt x6
          have x7 : w7.heap[w5.heap.size]? = some (.cells #[.int .u16 (s : Int), .slice Au lu cu] 62 (0, 0)) := (t7.same _ hx7 (by omega) (by omega) (by omega)).trans x6
          have d0 : w7.cell? ⟨w5.heap.size, 0, none⟩ = some (.int .u16 (s : Int)) := cell_of_row _ _ 0 _ _ _ x7
          have d1 : w7.cell? ⟨w5.heap.size, 1, none⟩ = some (.slice Au lu cu) := cell_of_row _ _ 1 _ _ _ x7
          have f0 : w7.frozen? ⟨w5.heap.size, 0, none⟩ = false := frozen_of_row _ _ 0 _ _ x7
          have f1 : w7.frozen? ⟨w5.heap.size, 1, none⟩ = false := frozen_of_row _ _ 1 _ _ x7
          have hne7 : w5.heap.size ≠ pq ∧ w5.heap.size ≠ pk ∧ w5.heap.size ≠ g7 := ⟨by omega, by omega, by rcases t7.new with e | e <;> omega⟩
          have x8 : (w7.setCell ⟨w5.heap.size, 0, none⟩ (.int .u16 (s7 : Int))).heap[w5.heap.size]? = some (.cells #[.int .u16 (s7 : Int), .slice Au lu cu] 62 (0, 0)) := heap_setCell_same w7 _ 0 _ _ _ x7
          have X9 := Lib.hid (show ((w7.setCell ⟨w5.heap.size, 0, none⟩ (.int .u16 (s7 : Int))).setCell ⟨w5.heap.size, 1, none⟩ (.slice A7 l7 c7)).heap[w5.heap.size]? = some (.cells #[.int .u16 (s7 : Int), .slice A7 l7 c7] 62 (0, 0)) from heap_setCell_same _ _ 1 _ _ _ x8)
          have T9 := Lib.hid ((told7.aside (o := 0) (x := .int .u16 (s7 : Int)) x7 hne7).aside (o := 1) (x := .slice A7 l7 c7) x8 hne7)
          have HH : w1.heap.size ≤ w5.heap.size := HBW5.out.size
          have B9 := Lib.hid (show Below w1.heap.size w1 ((w7.setCell ⟨w5.heap.size, 0, none⟩ (.int .u16 (s7 : Int))).setCell ⟨w5.heap.size, 1, none⟩ (.slice A7 l7 c7)) from (((below_then HBW5.out b6).trans (t7.below.mono (by omega))).setCell (by exact HH) _).setCell (by exact HH) _)
          have HNE7 := Lib.hid hne7
          have HLE9 := Lib.hid (show base ≤ w5.heap.size by omega)
          have hik : i < 1024 := by have h1 := lt_of_at HFF.out; have h2 := toldL_len (i := i) HG.out hb10; omega
          clear HH b6 x6 hgo6 hsz hle hblt hs56 t7 told7 m1 m2 m3 n1 n2 n3 hx7 x7 hne7 x8 hw6 c0' c1'
          go_wp2_with fail
          go_roundg (gk - 1)
          case measure => have := HKI.out; omega
          case rel =>
            have hlt := lt_of_at HFF.out
            obtain ⟨N, hN⟩ := run_succ (aftF n xss) m 400 b i
            have hN' : told n m xss b (i + 1) = told n m xss b i ++ N := hN
            have ha2 : a' = targB ((told n m xss b (i + 1)).take (i + 1)) := by
              rw [hN', List.take_append_of_le_length (by omega), take_snoc HFF.out, targB_snoc, ← HA.out, ← HS.out]
              exact HA'.out
            refine ⟨i + 1, w5.heap.size, g7, a', ok7, s7, A7, l7, c7, ?_, rfl, rfl, by have := HKI.out; omega, X9.out, T9.out, HNE7.out, HLE9.out, by rw [hN', List.length_append]; omega, ha2, B9.out⟩
            rw [HA'.out, HMM.out]
            first | rfl | (simp [hor]; done) | simp

set_option maxRecDepth 100000 in
set_option maxHeartbeats 2000000 in
theorem specTargetsOf_any (s : Int) (A : Option Addr) (m cap : Nat) (xss : List (List Int)) (w : World) (h : RowsAt w A m xss) (hm : m ≤ 4611686018427387904)
    (hrows : ∀ (r : Nat) (xs : List Int), xss[r]? = some xs → xs.length ≤ 4611686018427387904) :
    Calls Try.prog 8 #[.agg #[.int .i64 s, .slice A m cap]] w fun e w' => ∃ v, e = .returned (.tuple #[v, .int .i64 (targetsOf s xss).2]) ∧ w'.ownsRow w.heap.size 2 1 v (targetsOf s xss).1.length ((targetsOf s xss).1.map (Value.int .i64)) ∧ Below w.heap.size w w' := by
  have HR := Lib.hid hrows
  have HM := Lib.hid h.1
  have b0 : Below w.heap.size w (w.alloc (.cells #[.int .i64 s, .slice A m cap] 29)) := (Below.refl _ _).alloc (Nat.le_refl _) _
  have H0 := Lib.hid (h.below b0)
  have B0 := Lib.hid b0
  clear hrows b0
  rcases hok : okA s xss with _ | _
  · have HF := Lib.hid (targetsOf_1 hok)
    go_enter Try.func8, Try.ntmps8
    go_wp2_with fail
    refine (l01Ok_any w.heap.size s A m cap xss _ (by go_cell) (by go_cell) H0.out hm HR.out).mono ?_
    rw [hok]
    rintro e w' ⟨rfl, d, rfl⟩
    go_wp2_with fail
    go_ret2
    rw [HF.out]
    exact ⟨_, rfl, own_none' (w := (w.alloc (.cells #[.int .i64 s, .slice A m cap] 29)).drewN d) (World.size_alloc _ _).symm (below_drewN' B0.out d).size, (below_drewN' B0.out _).alloc (below_drewN' B0.out _).size _⟩
  · obtain ⟨n, hsn, hg⟩ := good_of hok HM.out
    subst hsn
    have HG := Lib.hid hg
    have hn10 : n ≤ 10 := hg.n10
    have HF := Lib.hid (targetsOf_0 hok HM.out)
    clear hg
    go_enter Try.func8, Try.ntmps8
    go_wp2_with fail
    refine (l01Ok_any w.heap.size (n : Int) A m cap xss _ (by go_cell) (by go_cell) H0.out hm HR.out).mono ?_
    rw [hok]
    rintro e w' ⟨rfl, d, rfl⟩
    go_wp2_with fail
    obtain ⟨w1, hw1⟩ : ∃ w1, w1 = (w.alloc (.cells #[.int .i64 (n : Int), .slice A m cap] 29)).drewN d := ⟨_, rfl⟩
    have c0 : w1.cell? ⟨w.heap.size, 0, none⟩ = some (.int .i64 (n : Int)) := by rw [hw1]; exact cell_of_row _ _ 0 _ _ _ (heap_alloc_new _ _)
    have c1 : w1.cell? ⟨w.heap.size, 1, none⟩ = some (.slice A m cap) := by rw [hw1]; exact cell_of_row _ _ 1 _ _ _ (heap_alloc_new _ _)
    have H1 := Lib.hid (show RowsAt w1 A m xss by rw [hw1]; exact H0.out.below (below_drewN' (Below.refl _ _) d))
    have B1 := Lib.hid (show Below w.heap.size w w1 by rw [hw1]; exact below_drewN' B0.out d)
    rw [← hw1]
    clear hw1
    refine (l02Full_any w.heap.size n w1 hn10 c0).mono ?_
    rintro e w2 ⟨rfl, k2, rfl⟩
    go_wp2_with fail
    have b2 : Below w1.heap.size w1 (w1.drewN k2) := below_drewN' (Below.refl _ _) k2
    obtain ⟨w2, hw2⟩ : ∃ w2, w2 = w1.drewN k2 := ⟨_, rfl⟩
    rw [← hw2] at b2 ⊢
    have hb10 := full_lt hn10
    refine (l02From_any w.heap.size n m cap (2 ^ n - 1) A xss w2 HG.out (H1.out.below b2) ((b2.cell (cell_lt c0)).trans c0) ((b2.cell (cell_lt c1)).trans c1) (full_in n)).mono ?_
    rintro e w3 ⟨q, sb, g1, g2, g3, d1, d2, d3, rfl, hW, hB⟩
    obtain ⟨T, hT⟩ : ∃ T, T = fnd n m xss 1024 (2 ^ n - 1) := ⟨_, rfl⟩
    have HT := Lib.hid hT
    rw [← hT] at hW
    have hl : T.length ≤ 1024 := by rw [hT]; exact fnd_len HG.out hb10
    have HTL := Lib.hid (show ∀ f ∈ T, f.set < 1024 from fun f hf => by rw [hT] at hf; exact fnd_lt HG.out hb10 hf)
    have HW := Lib.hid hW
    have B3 := Lib.hid (below_then (below_then B1.out b2) hB)
    have HTT := Lib.hid (show targB T = targN n m xss by rw [hT]; rfl)
    have HS2 := Lib.hid (show w.heap.size ≤ w2.heap.size from Nat.le_trans B1.out.size b2.size)
    clear hT hW hB b2 hw2 c0 c1
    go_wp2_with fail
    go_loopw [5, 6] (fun ov iv wr => ∃ k a : Nat, k ≤ T.length ∧ iv = .int .i64 k ∧ a = targB (T.take k) ∧ wr.ownsRow w3.heap.size 2 1 ov (listK a 10).length ((listK a 10).map (Value.int .i64)) ∧ Below w3.heap.size w3 wr) (fun _ iv _ => T.length - (intOf iv).toNat)
    case atStart => exact ⟨0, 0, Nat.zero_le _, rfl, rfl, own_none w3 _ (Nat.le_refl _), (Below.refl _ _).alloc (Nat.le_refl _) _⟩
    case round =>
      obtain ⟨k, a, hk, rfl, hacc, hown, hbel⟩ := hrel
      obtain ⟨A3, C3, rfl⟩ := own_form hown
      have ha10 : a < 1024 := by rw [hacc]; exact targB_lt _ _ rfl (fun f hf => HTL.out f (List.mem_of_mem_take hf))
      have hws := HW.out.below hbel
      have q0 : wr.cell? ⟨q, 0, none⟩ = some (.slice (some ⟨g1, 0, none⟩) T.length d1) := by
        have := cell_of_row _ q 0 _ _ _ hws.blk
        rw [setsL_len] at this
        exact this
      have HWS := Lib.hid hws
      have HA := Lib.hid hacc
      have HO := Lib.hid hown
      have HB1 := Lib.hid hbel
      have HBR := Lib.hid (below_then B3.out hbel)
      clear hacc hown hbel hws
      obtain ⟨LK, hLK⟩ : ∃ LK, LK = (listK a 10).length := ⟨_, rfl⟩
      have hLK10 : LK ≤ 10 := by rw [hLK]; exact listK_le a
      rw [← hLK] at HO ⊢
      have HLK := Lib.hid hLK
      clear hLK
      by_cases hlt : k < T.length
      · obtain ⟨f, hf⟩ : ∃ f, T[k]? = some f := ⟨_, List.getElem?_eq_getElem hlt⟩
        have r0 : wr.cell? ⟨g1, k, none⟩ = some (.int .i64 (f.set : Int)) := by
          have h1 := HWS.out.s.cellAt k (by rw [setsL_len]; omega)
          rw [List.getElem?_map, setsL_at hf] at h1
          exact h1
        have j1 : (0 : Int) ≤ (k : Int) := by omega
        have j2 : (k : Int) < (T.length : Int) := by omega
        have hs10 : f.set < 1024 := HTL.out f (List.mem_of_getElem? hf)
        have HNX := Lib.hid (show targB (T.take (k + 1)) = if mergedB f.set = true then a ||| f.set else a by rw [take_snoc hf, targB_snoc, ← HA.out])
        have HFF := Lib.hid hf
        clear hf
        go_wp2_with fail
        refine (l02Single_any f.set wr hs10).mono ?_
        rintro e w4 ⟨rfl, rfl⟩
        rcases hm : decide (Lib.onesCount f.set ≤ 1) with _ | _
        · have HN2 := Lib.hid (show targB (T.take (k + 1)) = a by rw [HNX.out, if_neg (by rw [show mergedB f.set = false from hm]; simp)])
          clear hm
          go_wp2_with fail
          go_roundw
          case rel => exact ⟨k + 1, a, by omega, by go_num, HN2.out.symm, by rw [← HLK.out]; exact HO.out, HB1.out⟩
          case measure => simp [intOf]; omega
        · have hone := one_state HG.out (f := f) (by rw [← HT.out]; exact List.mem_of_getElem? HFF.out) hm
          obtain ⟨t, ht10, hl1, hse⟩ := hone
          have HN2 := Lib.hid (show targB (T.take (k + 1)) = a ||| 1 <<< t by rw [HNX.out, if_pos (show mergedB f.set = true from hm), hse])
          have HL1 := Lib.hid hl1
          clear hm hse hl1
          go_wp2_with fail
          refine (l02Set_any f.set wr hs10).mono ?_
          rw [HL1.out]
          rintro e w4 ⟨u, rfl, ow, b4⟩
          obtain ⟨Av, cv, rfl⟩ := own_form ow
          obtain ⟨g9, rfl⟩ := own_addr ow (by simp)
          have rt : w4.cell? ⟨g9, 0, none⟩ = some (.int .i64 (t : Int)) := ow.cellAt 0 (by simp)
          have HO4 := Lib.hid (own_below HO.out b4)
          have HB4 := Lib.hid (below_then HB1.out b4)
          have hl9 : ([(t : Int)] : List Int).length = 1 := rfl
          clear ow b4 q0 r0 j1 j2
          rw [hl9]
          go_wp2_with fail
          refine (l00Put_any A3 LK C3 (listK a 10) (t : Int) w4 (NumsAt.own (by rw [HLK.out]; exact (by have h := HO4.out; rw [HLK.out] at h; exact h)) rfl HLK.out) (by omega)).mono ?_
          rw [put_bit ht10]
          rintro e w5 ⟨v, rfl, ow, b5⟩
          have HO5 := Lib.hid (own_base ow (show w3.heap.size ≤ w4.heap.size from HB4.out.size))
          have HB5 := Lib.hid (below_then HB4.out b5)
          clear ow b5 rt
          go_wp2_with fail
          go_roundw
          case rel => exact ⟨k + 1, a ||| 1 <<< t, by omega, by go_num, HN2.out.symm, HO5.out, HB5.out⟩
          case measure => simp [intOf]; omega
      · have hall : a = targN n m xss := by rw [HA.out, List.take_of_length_le (by omega), HTT.out]
        have HALL := Lib.hid hall
        have HZ := Lib.hid (listK_zero ha10)
        clear hall
        by_cases ha0 : a = 0
        · have hc : ¬ (0 : Int) < (LK : Int) := by
            rw [HLK.out]
            intro h
            exact (HZ.out.1 (by omega)) ha0
          have HA0 := Lib.hid (show targW n m xss = ([], 6) by unfold targW; rw [if_pos (by rw [← HALL.out]; exact ha0)])
          have hcb : decide (0 < LK) = false := decide_eq_false (by omega)
          clear ha0
          go_wp2_with fail
          refine (told_f _ wr).mono ?_
          rintro e w6 ⟨rfl, hw6⟩
          · have HOW := Lib.hid (show w6.ownsRow w.heap.size 2 1 (.slice (some ⟨wr.heap.size, 0, none⟩) 0 0) 0 [] by rw [hw6]; exact own_none wr _ HBR.out.size)
            have HB6 := Lib.hid (show Below w.heap.size w w6 by rw [hw6]; exact HBR.out.alloc HBR.out.size _)
            clear hw6
            go_wp2_with fail
            go_ret2
            rw [HF.out, HA0.out]
            exact ⟨_, rfl, HOW.out, HB6.out⟩
        · have hc : (0 : Int) < (LK : Int) := by
            have h := HZ.out.2 ha0
            rw [← HLK.out] at h
            omega
          have HA0 := Lib.hid (show targW n m xss = (listK a 10, 0) by unfold targW; rw [if_neg (by rw [← HALL.out]; exact ha0), ← HALL.out])
          have hcb : decide (0 < LK) = true := decide_eq_true (by omega)
          clear ha0
          go_wp2_with fail
          refine (told_t _ wr).mono ?_
          rintro e w6 ⟨rfl, hw6⟩
          · have HOW := Lib.hid (show w6.ownsRow w.heap.size 2 1 (.slice A3 LK C3) (listK a 10).length ((listK a 10).map (Value.int .i64)) by rw [hw6, ← HLK.out]; exact own_base HO.out B3.out.size)
            have HB6 := Lib.hid (show Below w.heap.size w w6 by rw [hw6]; exact HBR.out)
            clear hw6
            go_wp2_with fail
            go_ret2
            rw [HF.out, HA0.out]
            exact ⟨_, rfl, HOW.out, HB6.out⟩

end Go.Proofs.Ytcdchnddmeofgaa
