/-
  Stable pairs: words that lead a pair to a pair are no longer than there are pairs; lists alone.
  Stable pairs: the contracts of pairsApart and stablePairs.
  Stable pairs: the model's l02Steady and l02Stable.
  Stable pairs: the model's l02Stable, and the contracts of both StablePairs.
-/
import Derived.Test.YtcglncepmieaaaaPtT
import Derived.BigQuiet
namespace Go.Proofs.Ytcglncepmieaaaa
open Go.RowKit Go.Deep Go.ChangeShapes Go.WideShapes
open Hunt Srch From Moved

theorem set_apart {T : List Fnd} (hn : (T.map Fnd.set).Nodup) {i j : Nat} {e f : Fnd} (hi : T[i]? = some e) (hj : T[j]? = some f) (hs : e.set = f.set) : i = j := by
  have h1 : (T.map Fnd.set)[i]? = some e.set := by rw [List.getElem?_map, hi]; rfl
  have h2 : (T.map Fnd.set)[j]? = some e.set := by rw [List.getElem?_map, hj, hs]; rfl
  have hli : i < (T.map Fnd.set).length := by
    rcases Nat.lt_or_ge i (T.map Fnd.set).length with a | a
    · exact a
    · rw [List.getElem?_eq_none a] at h1; cases h1
  exact (List.getElem?_inj hli hn).1 (h1.trans h2.symm)
/-- The sets ahead of a pair, on the way to it, are pairs. -/
theorem way_pairs {aft δ : Nat → Nat → Nat} {n m c b : Nat} {T : List Fnd} (ha : Acts aft δ n m) (hi : Inv aft m c b T 1024) (hb : In n b) (h2 : ∀ us, okW m us → cnt (goW aft b us) ≤ 2) :
    ∀ (N j : Nat) (e : Fnd), j < N → T[j]? = some e → cnt e.set = 2 → ∃ S : List Nat, S.Nodup ∧ S.length = e.word.length + 1 ∧ (∀ x ∈ S, x ∈ onesOfN 2) ∧ ∀ x ∈ S, ∃ (i : Nat) (f : Fnd), i ≤ j ∧ T[i]? = some f ∧ f.set = x
  | 0, j, e, hj, _, _ => absurd hj (Nat.not_lt_zero _)
  | N + 1, j, e, hj, he, hc => by
    obtain ⟨w1, w2⟩ := hi.word e (List.mem_of_getElem? he)
    have hin : In n e.set := by rw [w1]; exact (goW_in ha _ _ w2 hb).1
    rcases hi.par j e he with ⟨rfl, _, hw⟩ | ⟨p, f, hp, _, hf, _, hw, hl0, hlm⟩
    · exact ⟨[e.set], by simp, by rw [hw]; rfl, fun x hx => by rw [List.mem_singleton.1 hx]; exact mem_ones (hin.lt ha.n10) hc, fun x hx => ⟨0, e, Nat.le_refl _, he, (List.mem_singleton.1 hx).symm⟩⟩
    · obtain ⟨v1, v2⟩ := hi.word f (List.mem_of_getElem? hf)
      have hfin : In n f.set := by rw [v1]; exact (goW_in ha _ _ v2 hb).1
      have hes : e.set = goW aft f.set [e.ltr] := by rw [w1, hw, goW_append, v1]
      have hok : okW m [e.ltr] := fun x hx => by rw [List.mem_singleton.1 hx]; exact ⟨hl0, hlm⟩
      have h3 := cnt_le ha hok hfin
      rw [← hes] at h3
      have h4 := h2 f.word v2
      rw [← v1] at h4
      obtain ⟨S, s1, s2, s3, s4⟩ := way_pairs ha hi hb h2 N p f (by omega) hf (by omega)
      refine ⟨S ++ [e.set], ?_, by rw [List.length_append, s2, hw, List.length_append]; rfl, fun x hx => ?_, fun x hx => ?_⟩
      · rw [List.nodup_append]
        refine ⟨s1, by simp, fun x hx y hy hxy => ?_⟩
        rw [List.mem_singleton.1 hy] at hxy
        obtain ⟨i, f', hi', hf', hfs⟩ := s4 x hx
        have := set_apart hi.nodup hf' he (by rw [hfs, hxy])
        omega
      · rcases List.mem_append.1 hx with h | h
        · exact s3 x h
        · rw [List.mem_singleton.1 h]; exact mem_ones (hin.lt ha.n10) hc
      · rcases List.mem_append.1 hx with h | h
        · obtain ⟨i, f', hi', hf', hfs⟩ := s4 x h
          exact ⟨i, f', by omega, hf', hfs⟩
        · exact ⟨j, e, Nat.le_refl _, he, (List.mem_singleton.1 h).symm⟩
/-- A pair to which a word leads another pair is led to by a word of less than 45 letters. -/
theorem pair_near {n m s t : Nat} {xss : List (List Int)} (hg : Good n m xss) (hs : s < n) (ht : t < n) (ws : List Int) (hw : okW m ws) (hc : cnt (goW (aftF n xss) (pairB s t) ws) = 2) :
    ∃ us, okW m us ∧ us.length ≤ 45 ∧ goW (aftF n xss) (pairB s t) us = goW (aftF n xss) (pairB s t) ws := by
  have ha := acts hg
  have hin := pair_in hs ht
  obtain ⟨j, f, h1, h2, _⟩ := all_found (small hg (hin.lt hg.n10)) ws.length ws rfl (Nat.le_refl _) hw
  have hi : Inv (aftF n xss) m ws.length (pairB s t) (allF (aftF n xss) m ws.length (pairB s t)) 1024 := all_inv
  obtain ⟨w1, w2⟩ := hi.word f (List.mem_of_getElem? h1)
  obtain ⟨S, s1, s2, s3, _⟩ := way_pairs ha hi hin (fun us hu => pair_two ha hs ht hu) (j + 1) j f (Nat.lt_succ_self _) h1 (by rw [h2]; exact hc)
  have h3 := nodup_sub s1 s3
  rw [pairs_len, s2] at h3
  exact ⟨f.word, w2, by omega, by rw [← w1, h2]⟩
/-- A goal that only pairs reach is found within the limit. -/
theorem goal_same {n m s t : Nat} {xss : List (List Int)} {g : Nat → Bool} (hg : Good n m xss) (hs : s < n) (ht : t < n) (h2 : ∀ b, b < 1024 → g b = true → cnt b = 2) :
    firstF g (fnd n m xss 400 (pairB s t)) = firstF g (fnd n m xss 1024 (pairB s t)) := by
  have ha := acts hg
  have hin := pair_in hs ht
  refine first_same hg (hin.lt hg.n10) fun ws hw hm => ?_
  obtain ⟨us, h3, h4, h5⟩ := pair_near hg hs ht ws hw (h2 _ ((goW_in ha ws _ hw hin).1.lt hg.n10) hm)
  exact ⟨us, h3, by omega, by rw [h5]; exact hm⟩

/-- The pairs that have no merging word. -/
noncomputable def apL (n m : Nat) (xss : List (List Int)) : List Nat := ((pwL n m xss).filter fun p => !p.ok).map PW.pair
noncomputable def apB (n m : Nat) (xss : List (List Int)) (b : Nat) : Bool := decide (b ∈ apL n m xss)
theorem apL_mem {n m : Nat} {xss : List (List Int)} (hg : Good n m xss) (b : Nat) : b ∈ apL n m xss ↔ ∃ s t, s < t ∧ t < n ∧ b = pairB s t ∧ lenP n m xss s t < 0 := by
  unfold apL
  rw [pwL_full hg.n10]
  simp only [List.mem_map, List.mem_filter]
  constructor
  · rintro ⟨p, ⟨⟨⟨s, t⟩, hst, rfl⟩, hok⟩, rfl⟩
    have hl := prL_mem hst
    refine ⟨s, t, hl.2.1, hl.2.2, rfl, ?_⟩
    rw [← pwO_len hg (by omega) hl.2.2, if_neg (by simpa using hok)]
    decide
  · rintro ⟨s, t, h1, h2, rfl, h3⟩
    refine ⟨pwO n m xss (pairB s t), ⟨⟨(s, t), prL_has h1 h2, rfl⟩, ?_⟩, rfl⟩
    rw [← pwO_len hg (by omega) h2] at h3
    rcases ho : (pwO n m xss (pairB s t)).ok with _ | _
    · rfl
    · rw [ho, if_pos rfl] at h3; omega
theorem two_of : ∀ b < 1024, (listK b 10).length = 2 → ((List.range 10).any fun p => (List.range 10).any fun q => decide (p < q) && b == pairB p q) = true := by decide +kernel
theorem two_pair {n b : Nat} (hb : b < 1024) (hin : In n b) (h : (listK b 10).length = 2) : ∃ p q, p < q ∧ q < n ∧ b = pairB p q := by
  have h1 := two_of b hb h
  simp only [List.any_eq_true, List.mem_range, Bool.and_eq_true, decide_eq_true_eq, beq_iff_eq] at h1
  obtain ⟨p, _, q, _, hpq, rfl⟩ := h1
  exact ⟨p, q, hpq, hin q (pair_bit.2 (.inr rfl)), rfl⟩
theorem cnt_list (b : Nat) : cnt b = (listK b 10).length := by unfold cnt listK; rw [List.length_map]; rfl
theorem apB_two {n m : Nat} {xss : List (List Int)} (hg : Good n m xss) (b : Nat) (hb : apB n m xss b = true) : cnt b = 2 := by
  have h10 := hg.n10
  unfold apB at hb
  rw [decide_eq_true_eq, apL_mem hg] at hb
  obtain ⟨s, t, h1, h2, rfl, _⟩ := hb
  rw [cnt_list, list_pair s (by omega) t (by omega) h1]
  rfl
/-- What the model asks of a set: it is a pair whose entry is negative. -/
noncomputable def apM (n m : Nat) (xss : List (List Int)) (b : Nat) : Bool := decide ((listK b 10).length = 2) && decide (((tabK n m xss n).getD ((listK b 10).getD 0 0).toNat []).getD ((listK b 10).getD 1 0).toNat 0 < 0)
theorem tabK_at {n m s t : Nat} {xss : List (List Int)} (hs : s < n) (ht : t < n) : ((tabK n m xss n).getD s []).getD t 0 = lenP n m xss s t := by
  unfold tabK rowK
  rw [List.getD_eq_getElem?_getD, List.getD_eq_getElem?_getD, List.getElem?_map, List.getElem?_range hs]
  simp [ht]
theorem apM_eq {n m b : Nat} {xss : List (List Int)} (hg : Good n m xss) (hb : b < 1024) (hin : In n b) : apM n m xss b = apB n m xss b := by
  have h10 := hg.n10
  rw [Bool.eq_iff_iff]
  unfold apM apB
  rw [Bool.and_eq_true, decide_eq_true_eq, decide_eq_true_eq, decide_eq_true_eq, apL_mem hg]
  constructor
  · rintro ⟨h1, h2⟩
    obtain ⟨p, q, hpq, hq, rfl⟩ := two_pair hb hin h1
    rw [list_pair p (by omega) q (by omega) hpq] at h2
    refine ⟨p, q, hpq, hq, rfl, ?_⟩
    rw [← tabK_at (by omega) hq]
    simpa using h2
  · rintro ⟨s, t, h1, h2, rfl, h3⟩
    rw [list_pair s (by omega) t (by omega) h1]
    refine ⟨rfl, ?_⟩
    rw [← tabK_at (by omega) h2] at h3
    simpa using h3

/-- A pair is stable. -/
noncomputable def stB (n m : Nat) (xss : List (List Int)) (s t : Nat) : Bool := !hitB (firstF (apB n m xss) (fnd n m xss 1024 (pairB s t)))
noncomputable def stU (n m : Nat) (xss : List (List Int)) (gs : List (Nat × Nat)) : List (List Int) := (gs.filter fun g => stB n m xss g.1 g.2).map fun g => [((g.1 : Nat) : Int), ((g.2 : Nat) : Int)]
theorem stU_snoc (n m : Nat) (xss : List (List Int)) (gs : List (Nat × Nat)) (s t : Nat) : stU n m xss (gs ++ [(s, t)]) = if stB n m xss s t = true then stU n m xss gs ++ [[(s : Int), (t : Int)]] else stU n m xss gs := by
  unfold stU
  rw [List.filter_append, List.map_append]
  by_cases h : stB n m xss s t = true
  · rw [if_pos h, List.filter_cons_of_pos (by simpa using h)]; rfl
  · rw [if_neg h, List.filter_cons_of_neg (by simpa using h)]; simp
noncomputable def stL (n m : Nat) (xss : List (List Int)) : List (List Int) := stU n m xss (prL n n)
theorem prL_leS (n : Nat) (hn : n ≤ 10) : (prL n n).length ≤ 100 := by
  have h8 := prL_len n n
  have h9 : n * n ≤ 10 * 10 := Nat.mul_le_mul hn hn
  omega
theorem stU_len (n m : Nat) (xss : List (List Int)) (gs : List (Nat × Nat)) : (stU n m xss gs).length ≤ gs.length := by
  unfold stU; rw [List.length_map]; exact List.length_filter_le _ _
theorem stU_row (n m : Nat) (xss : List (List Int)) (gs : List (Nat × Nat)) : ∀ l ∈ stU n m xss gs, l.length = 2 := by
  intro l hl
  unfold stU at hl
  obtain ⟨g, _, rfl⟩ := List.mem_map.1 hl
  rfl

end Go.Proofs.Ytcglncepmieaaaa

namespace Go.Proofs.Ytcglncepmieaaaa
open Go.RowKit Go.Deep Go.ChangeShapes Go.WideShapes
open Hunt Srch From Moved

set_option maxRecDepth 100000 in
theorem slIndexU_any (A : Option Addr) (n cap v : Nat) (bs : List Nat) (w : World) (h : SetsAt w A n bs) (hn : n ≤ 4611686018427387904) :
    Calls Try.prog 128 #[.slice A n cap, .int .u16 (v : Int)] w fun e w' => ∃ i : Int, e = .returned (.int .i64 i) ∧ decide (0 ≤ i) = bs.any (fun b => decide (b = v)) ∧ w = w' := by
  have HL := Lib.hid h.1
  go_enter Try.func128, Try.ntmps128
  go_wp2_with fail
  go_loop [8] (fun i => ∃ k : Nat, k ≤ n ∧ i = .int .i64 k ∧ (bs.take k).any (fun b => decide (b = v)) = false) (fun i => n - (intOf i).toNat)
  case atStart => exact ⟨0, Nat.zero_le _, rfl, by simp⟩
  case round =>
    obtain ⟨k, hk, rfl, hall⟩ := hrel
    have HA := Lib.hid hall
    clear hall
    by_cases hlt : k < n
    · obtain ⟨x, b, off, hx, rfl, hc⟩ := h.at_ hlt
      have HX := Lib.hid hx
      have hk0 : (0 : Int) ≤ (k : Int) := by omega
      have hkn : (k : Int) < (n : Int) := by omega
      clear hx
      by_cases hxv : x = v
      · have HXV := Lib.hid hxv
        have hbq : ((v : Int) == (x : Int)) = true := by rw [beq_iff_eq]; omega
        clear hxv
        go_wp2_with fail
        go_ret
        refine ⟨_, rfl, ?_, rfl⟩
        rw [List.any_eq_true.2 ⟨x, List.mem_of_getElem? HX.out, by simpa using HXV.out⟩]
        simp
      · have HXV := Lib.hid hxv
        have hbq : ((v : Int) == (x : Int)) = false := by rw [beq_eq_false_iff_ne]; omega
        clear hxv
        go_wp2_with fail
        go_round
        case rel => exact ⟨k + 1, by omega, by go_num, by rw [take_snoc HX.out, List.any_append, HA.out]; simp [HXV.out]⟩
        case measure => simp [intOf]; omega
    · go_wp2_with fail
      go_ret
      refine ⟨_, rfl, ?_, rfl⟩
      have ha := HA.out
      rw [List.take_of_length_le (by rw [HL.out]; omega)] at ha
      rw [ha]
      rfl

set_option maxRecDepth 100000 in
theorem slContainsU_any (A : Option Addr) (n cap v : Nat) (bs : List Nat) (w : World) (h : SetsAt w A n bs) (hn : n ≤ 4611686018427387904) :
    Calls Try.prog 113 #[.slice A n cap, .int .u16 (v : Int)] w fun e w' => e = .returned (.bool (bs.any (fun b => decide (b = v)))) ∧ w = w' := by
  obtain ⟨r, hr⟩ : ∃ r, r = bs.any (fun b => decide (b = v)) := ⟨_, rfl⟩
  have HR := Lib.hid hr
  rw [← hr]
  clear hr
  go_enter Try.func113, Try.ntmps113
  go_wp2_with fail
  refine (slIndexU_any A n cap v bs _ h hn).mono ?_
  rw [← HR.out]
  rintro e w' ⟨i, rfl, hi, rfl⟩
  have HI := Lib.hid hi
  clear hi
  go_wp2_with fail
  go_ret
  exact ⟨ret_bool HI.out, rfl⟩

theorem filt_snoc {p : PW} {ps : List PW} {k : Nat} (h : ps[k]? = some p) : ((ps.take (k + 1)).filter fun p => !p.ok).map PW.pair = ((ps.take k).filter fun p => !p.ok).map PW.pair ++ if p.ok = true then [] else [p.pair] := by
  rw [take_snoc h, List.filter_append, List.map_append]
  congr 1
  rcases ho : p.ok with _ | _
  · rw [List.filter_cons_of_pos (by rw [ho]; rfl)]; rfl
  · rw [List.filter_cons_of_neg (by rw [ho]; simp)]; rfl

set_option maxRecDepth 100000 in
set_option maxHeartbeats 4000000 in
theorem pairsApart_any (lo hi : Nat) (A : Option Addr) (N c : Nat) (vs : List Value) (ps : List PW) (w : World) (h : PwV lo hi w (.slice A N c) vs ps) (hN : ps.length = N) (hN1 : N ≤ 100) :
    Calls Try.prog 59 #[.slice A N c] w fun e w' => ∃ u, e = .returned u ∧ w'.ownsRow w.heap.size 74 1 u ((ps.filter fun p => !p.ok).map PW.pair).length (((ps.filter fun p => !p.ok).map PW.pair).map bitU) ∧ Below w.heap.size w w' := by
  obtain ⟨iS0, iS1, iS2, iS3, iS4⟩ := info_parts info_set
  have HP := Lib.hid h
  have HN := Lib.hid hN
  obtain ⟨Q, hQ⟩ : ∃ Q, Q = (ps.filter fun p => !p.ok).map PW.pair := ⟨_, rfl⟩
  rw [← hQ]
  have HQ := Lib.hid hQ
  clear h hN hQ
  go_enter Try.func59, Try.ntmps59
  go_wp2_with fail
  go_loopw [3, 8] (fun ov iv wr => ∃ (k : Nat) (Y : List Nat), k ≤ N ∧ iv = .int .i64 k ∧ Y = ((ps.take k).filter fun p => !p.ok).map PW.pair ∧ Y.length ≤ k ∧ wr.ownsRow w.heap.size 74 1 ov Y.length (Y.map bitU) ∧ Below w.heap.size w wr) (fun _ iv _ => N - (intOf iv).toNat)
  case atStart => exact ⟨0, [], Nat.zero_le _, rfl, rfl, Nat.le_refl _, own2_nil _ _ _ _, Below.refl _ _⟩
  case round =>
    obtain ⟨k, Y, hk, rfl, hY, hYl, hown, hbel⟩ := hrel
    obtain ⟨A3, C3, rfl⟩ := own2_form hown
    have HO := Lib.hid hown
    have HB := Lib.hid hbel
    have HY := Lib.hid hY
    have HYL := Lib.hid hYl
    have hk0 : (0 : Int) ≤ (k : Int) := by omega
    clear hown hbel hY
    by_cases hlt : k < N
    · have hkn : (k : Int) < (N : Int) := by omega
      have hYm : Y.length ≤ 100 := by omega
      obtain ⟨p, hp⟩ : ∃ p, ps[k]? = some p := ⟨_, List.getElem?_eq_getElem (by rw [HN.out]; exact hlt)⟩
      have h1 := HP.out
      rw [← HN.out] at h1
      obtain ⟨g, A', c', rfl, e1, e2, e3, _⟩ := PwV.cells h1 hp
      have e1 := (HB.out.cell (cell_lt e1)).trans e1
      have e2 := (HB.out.cell (cell_lt e2)).trans e2
      have e3 := (HB.out.cell (cell_lt e3)).trans e3
      have HST := Lib.hid (filt_snoc hp)
      obtain ⟨b, hb⟩ : ∃ b, b = p.pair := ⟨_, rfl⟩
      obtain ⟨l, hl⟩ : ∃ l, l = p.word.length := ⟨_, rfl⟩
      obtain ⟨ok, hok⟩ : ∃ ok, ok = p.ok := ⟨_, rfl⟩
      rw [← hb, ← hok] at HST
      rw [← hb] at e1
      rw [← hl] at e2
      rw [← hok] at e3
      clear hb hl hok hp h1 hYl
      rcases ok with _ | _
      · have HN1 := Lib.hid (show ((ps.take (k + 1)).filter fun p => !p.ok).map PW.pair = Y ++ [b] by rw [HST.out, HY.out]; rfl)
        obtain ⟨wb, hwb⟩ : ∃ wb, wb = wr.alloc (.cells #[.int .u16 (b : Int), .slice A' l c', .bool false] 76) := ⟨_, rfl⟩
        have bb : Below wr.heap.size wr wb := by rw [hwb]; exact (Below.refl _ _).alloc (Nat.le_refl _) _
        have HBB := Lib.hid (below_then HB.out bb)
        have HOB := Lib.hid (own2_below HO.out bb)
        have HWB := Lib.hid hwb
        go_upto_region 6 with fail
        rw [← HWB.out]
        have d1 : wb.cell? ⟨wr.heap.size, 0, none⟩ = some (.int .u16 (b : Int)) := by rw [hwb]; exact cell_of_row _ _ 0 _ _ _ (heap_alloc_new _ _)
        clear hwb bb e1 e2 e3
        go_wp2_with (at_builtin; refine wpList_append_own _ rfl _ _ 81 rfl (w.heap.size) 74 iS0 (.int .u16 0) 1 2 Try.underlying81 iS1 iS2 iS3 iS4 rfl (by decide) _ _ _ rfl (World.ownsRow.alloc (HOB.out) _) ⟨(wb).heap.size, 0, none⟩ 1 1 [.int .u16 (b : Int)] rfl rfl (cell_one_new _ _ _) (ones_bitU [b]) (by unfold maxLen; omega) (by omega) (by rw [World.size_alloc]; exact Nat.le_succ_of_le (HBB.out.size)) ?_)
        intro v' w5 hown' hgrow _
        have ba : Below wb.heap.size wb (wb.alloc (.cells #[.int .u16 (b : Int)] 74)) := (Below.refl _ _).alloc (Nat.le_refl _) _
        have HB5 := Lib.hid (below_grown (below_then HBB.out ba) hgrow (fun g hg => (HOB.out.lt g hg).1))
        have HO5 := Lib.hid hown'
        clear hown' hgrow ba d1
        go_wp2_with fail
        go_roundw
        case rel =>
          refine ⟨k + 1, Y ++ [b], by omega, by go_num, HN1.out.symm, by rw [List.length_append]; have := HYL.out; simp; omega, ?_, HB5.out⟩
          rw [List.length_append, List.map_append]; exact HO5.out
        case measure => simp [intOf]; omega
      · have HN1 := Lib.hid (show ((ps.take (k + 1)).filter fun p => !p.ok).map PW.pair = Y by rw [HST.out, HY.out, if_pos rfl, List.append_nil])
        have bb : Below wr.heap.size wr (wr.alloc (.cells #[.int .u16 (b : Int), .slice A' l c', .bool true] 76)) := (Below.refl _ _).alloc (Nat.le_refl _) _
        have HBB := Lib.hid (below_then HB.out bb)
        have HOB := Lib.hid (own2_below HO.out bb)
        clear bb
        go_wp2_with fail
        go_roundw
        case rel => exact ⟨k + 1, Y, by omega, by go_num, HN1.out.symm, by have := HYL.out; omega, HOB.out, HBB.out⟩
        case measure => simp [intOf]; omega
    · have hke : k = N := by omega
      have hkn : ¬ (k : Int) < (N : Int) := by omega
      have HE := Lib.hid (show Q = Y by rw [HQ.out, HY.out, hke, ← HN.out, List.take_length])
      clear hke hlt hYl
      go_wp2_with fail
      go_ret
      refine ⟨_, rfl, ?_, HB.out⟩
      rw [HE.out]
      exact HO.out

set_option maxRecDepth 100000 in
theorem leadsApart_any (B l c b : Nat) (A : Option Addr) (bs : List Nat) (W : World) (hc : W.cell? ⟨B, 0, none⟩ = some (.slice A l c)) (h : SetsAt W A l bs) (hl : l ≤ 4611686018427387904) :
    Calls Try.prog 112 #[.int .u16 (b : Int), .pointer (some ⟨B, 0, none⟩)] W fun e w' => e = .returned (.bool (bs.any (fun d => decide (d = b)))) ∧ W = w' := by
  obtain ⟨r, hr⟩ : ∃ r, r = bs.any (fun d => decide (d = b)) := ⟨_, rfl⟩
  have HR := Lib.hid hr
  rw [← hr]
  clear hr
  go_enter Try.func112, Try.ntmps112
  go_wp2_with fail
  refine (slContainsU_any A l c b bs W h hl).mono ?_
  rw [← HR.out]
  rintro e w' ⟨rfl, rfl⟩
  go_wp2_with fail
  go_ret
  exact ⟨rfl, rfl⟩

/-- The pairs that are found to be stable. -/
noncomputable def stS (n m : Nat) (xss : List (List Int)) (P : List Nat) : List Nat := P.filter fun b => !hitB (firstF (apB n m xss) (fnd n m xss 400 b))
theorem stS_snoc {n m k b : Nat} {xss : List (List Int)} {P : List Nat} (h : P[k]? = some b) : stS n m xss (P.take (k + 1)) = stS n m xss (P.take k) ++ if hitB (firstF (apB n m xss) (fnd n m xss 400 b)) = true then [] else [b] := by
  unfold stS
  rw [take_snoc h, List.filter_append]
  congr 1
  rcases ho : hitB (firstF (apB n m xss) (fnd n m xss 400 b)) with _ | _
  · rw [List.filter_cons_of_pos (by rw [ho]; rfl)]; rfl
  · rw [List.filter_cons_of_neg (by rw [ho]; simp)]; rfl
theorem told_code (o : Option Fnd) : ((toldW o).2 == 6) = !hitB o := by
  rcases o with _ | f <;> rfl

set_option maxRecDepth 100000 in
set_option maxHeartbeats 4000000 in
theorem stablePairs_any (A : Option Addr) (n m cap : Nat) (xss : List (List Int)) (w : World) (hg : Good n m xss) (hR : RowsAt w A m xss) :
    Calls Try.prog 65 #[.agg #[.int .i64 (n : Int), .slice A m cap]] w fun e w' => ∃ u, e = .returned u ∧ w'.ownsRow w.heap.size 74 1 u (stS n m xss (prsS (2 ^ n - 1))).length ((stS n m xss (prsS (2 ^ n - 1))).map bitU) ∧ Below w.heap.size w w' := by
  obtain ⟨iS0, iS1, iS2, iS3, iS4⟩ := info_parts info_set
  have hn10 : n ≤ 10 := hg.n10
  obtain ⟨w1, hw1⟩ : ∃ w1, w1 = w.alloc (.cells #[.int .i64 (n : Int), .slice A m cap] 28) := ⟨_, rfl⟩
  have b1 : Below w.heap.size w w1 := by rw [hw1]; exact (Below.refl _ _).alloc (Nat.le_refl _) _
  have HBX := Lib.hid (show Box w1 w.heap.size [.int .i64 (n : Int), .slice A m cap] by rw [hw1]; exact Box.new _ _ _)
  have HX := Lib.hid (hR.below b1)
  have HB1 := Lib.hid b1
  have HW := Lib.hid hw1
  have HG := Lib.hid hg
  obtain ⟨R, hRR⟩ : ∃ R, R = stS n m xss (prsS (2 ^ n - 1)) := ⟨_, rfl⟩
  rw [← hRR]
  have HRR := Lib.hid hRR
  clear hR b1 hw1 hg hRR
  go_enter Try.func65, Try.ntmps65
  go_wp2_with fail
  rw [← HW.out]
  refine (pairWords_any A n m cap xss w1 HG.out HX.out).mono ?_
  rintro e w2 ⟨u, rfl, ⟨ws, hpw⟩, b2⟩
  obtain ⟨Pw, hPw⟩ : ∃ Pw, Pw = pwL n m xss := ⟨_, rfl⟩
  rw [← hPw] at hpw
  obtain ⟨A3, C3, rfl⟩ := own2_form hpw.out
  obtain ⟨N2, hN2⟩ : ∃ N2, N2 = Pw.length := ⟨_, rfl⟩
  rw [← hN2] at hpw ⊢
  have hN100 : N2 ≤ 100 := by rw [hN2, hPw]; unfold pwL; rw [List.length_map]; exact prsS_len _
  have HB2 := Lib.hid (below_then HB1.out b2)
  have HX2 := Lib.hid (HX.out.below b2)
  have HBX2 := Lib.hid (Box.below HBX.out b2)
  have HPW := Lib.hid hpw
  have HN2 := Lib.hid hN2
  have HPw := Lib.hid hPw
  clear hpw b2 hPw hN2 HW HX HBX
  go_wp2_with fail
  refine (pairsApart_any _ _ A3 N2 C3 ws Pw w2 HPW.out HN2.out.symm hN100).mono ?_
  rintro e w3 ⟨u, rfl, o3, b3⟩
  obtain ⟨Q, hQ⟩ : ∃ Q, Q = apL n m xss := ⟨_, rfl⟩
  have hQ' : (Pw.filter fun p => !p.ok).map PW.pair = Q := by rw [hQ, HPw.out]; rfl
  rw [hQ'] at o3
  obtain ⟨A4, C4, rfl⟩ := own2_form o3
  have hQ100 : Q.length ≤ 100 := by
    rw [← hQ', List.length_map]
    have h1 := List.length_filter_le (fun p : PW => !p.ok) Pw
    rw [← HN2.out] at h1
    omega
  obtain ⟨N4, hN4⟩ : ∃ N4, N4 = Q.length := ⟨_, rfl⟩
  rw [← hN4] at o3 hQ100 ⊢
  have HS3 := Lib.hid (show SetsAt w3 A4 N4 Q by
    rcases o3.2 with ⟨hv0, h0⟩ | ⟨g, cap', cur, hv0, hg, hh, hnc, hcap, hsz, htake⟩
    · have hq : Q = [] := List.eq_nil_of_length_eq_zero (by omega)
      refine ⟨hN4.symm, fun k b hb => ?_⟩
      rw [hq] at hb; simp at hb
    · simp only [Value.slice.injEq] at hv0
      obtain ⟨rfl, _, rfl⟩ := hv0
      exact SetsAt.own o3 hN4.symm)
  have HB3 := Lib.hid (below_then HB2.out b3)
  have HX3 := Lib.hid (HX2.out.below b3)
  have HBX3 := Lib.hid (Box.below HBX2.out b3)
  have HQ := Lib.hid hQ
  have HNQ := Lib.hid hN4
  clear o3 b3 hQ hQ' hN4 HX2 HBX2 HPW
  go_upto_region 4 with fail
  obtain ⟨w4, hw4⟩ : ∃ w4, w4 = w3.alloc (.cells #[.slice A4 N4 C4] 81) := ⟨_, rfl⟩
  rw [← hw4]
  have b4 : Below w3.heap.size w3 w4 := by rw [hw4]; exact (Below.refl _ _).alloc (Nat.le_refl _) _
  have HC4 := Lib.hid (show w4.cell? ⟨w3.heap.size, 0, none⟩ = some (.slice A4 N4 C4) by rw [hw4]; exact cell_of_row _ _ 0 _ _ _ (heap_alloc_new _ _))
  obtain ⟨B, hB⟩ : ∃ B, B = w3.heap.size := ⟨_, rfl⟩
  rw [← hB] at HC4 ⊢
  have HS4 := Lib.hid (HS3.out.below b4)
  have HB4 := Lib.hid (below_then HB3.out b4)
  have HX4 := Lib.hid (HX3.out.below b4)
  have HBX4 := Lib.hid (Box.below HBX3.out b4)
  have q0 := HBX4.out 0 _ rfl
  have q1 := HBX4.out 1 _ rfl
  clear b4 hw4 hB HX3 HBX3 HS3
  go_wp2_with fail
  refine (allStates_any A n m cap w4 hn10).mono ?_
  obtain ⟨F, hF⟩ : ∃ F, F = 2 ^ n - 1 := ⟨_, rfl⟩
  rw [← hF]
  have hF10 : F < 1024 := by have := pow_le hn10; have := Nat.two_pow_pos n; omega
  have HF := Lib.hid hF
  rintro e w5 ⟨rfl, b5⟩
  have HB5 := Lib.hid (below_then HB4.out b5)
  have HX5 := Lib.hid (HX4.out.below b5)
  have HBX5 := Lib.hid (Box.below HBX4.out b5)
  have HS5 := Lib.hid (HS4.out.below b5)
  have HC5 := Lib.hid ((b5.cell (cell_lt HC4.out)).trans HC4.out)
  clear b5 hF q0 q1 HX4 HBX4 HS4 HC4
  go_wp2_with fail
  refine (pairs_any F w5 hF10).mono ?_
  rintro e w6 ⟨u, rfl, o6, b6⟩
  obtain ⟨P, hP⟩ : ∃ P, P = prsS F := ⟨_, rfl⟩
  rw [← hP] at o6
  have hPl : P.length ≤ 100 := by rw [hP]; exact prsS_len F
  have HPL := Lib.hid (show ∀ b ∈ P, b < 1024 from fun b hb => by rw [hP] at hb; exact prsS_lt hb)
  have HP := Lib.hid hP
  obtain ⟨A6, C6, rfl⟩ := own2_form o6
  obtain ⟨N, hN⟩ : ∃ N, N = P.length := ⟨_, rfl⟩
  rw [← hN] at o6 hPl ⊢
  have HN := Lib.hid hN
  have HS6 := Lib.hid (show ∀ (k b : Nat), P[k]? = some b → ∃ g, A6 = some ⟨g, 0, none⟩ ∧ w6.cell? ⟨g, k, none⟩ = some (.int .u16 (b : Int)) from fun k b hb => by
    have hk : k < P.length := by
      rcases Nat.lt_or_ge k P.length with a | a
      · exact a
      · rw [List.getElem?_eq_none a] at hb; cases hb
    rcases o6.2 with ⟨hv0, h0⟩ | ⟨g, cap', cur, hv0, hg, hh, hnc, hcap, hsz, htake⟩
    · omega
    · simp only [Value.slice.injEq] at hv0
      obtain ⟨rfl, _, rfl⟩ := hv0
      refine ⟨g, rfl, (o6.cellAt k (by omega)).trans ?_⟩
      rw [List.getElem?_map, hb]
      rfl)
  have HB6 := Lib.hid (below_then HB5.out b6)
  have HX6 := Lib.hid (HX5.out.below b6)
  have HBX6 := Lib.hid (Box.below HBX5.out b6)
  have HSS6 := Lib.hid (HS5.out.below b6)
  have HC6 := Lib.hid ((b6.cell (cell_lt HC5.out)).trans HC5.out)
  clear b6 hP hN o6 HX5 HBX5 HS5 HC5
  go_wp2_with fail
  go_loopw [5, 18] (fun ov iv wr => ∃ (k : Nat) (Y : List Nat), k ≤ N ∧ iv = .int .i64 k ∧ Y = stS n m xss (P.take k) ∧ Y.length ≤ k ∧ wr.ownsRow w6.heap.size 74 1 ov Y.length (Y.map bitU) ∧ Below w6.heap.size w6 wr) (fun _ iv _ => N - (intOf iv).toNat)
  case atStart => exact ⟨0, [], Nat.zero_le _, rfl, rfl, Nat.le_refl _, own2_nil _ _ _ _, Below.refl _ _⟩
  case round =>
    obtain ⟨k, Y, hk, rfl, hY, hYl, hown, hbel⟩ := hrel
    obtain ⟨A7, C7, rfl⟩ := own2_form hown
    have HO := Lib.hid hown
    have HB := Lib.hid hbel
    have HY := Lib.hid hY
    have HYL := Lib.hid hYl
    have hk0 : (0 : Int) ≤ (k : Int) := by omega
    have q0 := (Box.below HBX6.out hbel) 0 _ rfl
    have q1 := (Box.below HBX6.out hbel) 1 _ rfl
    clear hown hbel hY
    by_cases hlt : k < N
    · have hkn : (k : Int) < (N : Int) := by omega
      have hYm : Y.length ≤ 100 := by omega
      obtain ⟨b, hbk⟩ : ∃ b, P[k]? = some b := ⟨P[k]'(by rw [← HN.out]; exact hlt), List.getElem?_eq_getElem _⟩
      obtain ⟨g, rfl, hc⟩ := HS6.out k b hbk
      have hcc := (HB.out.cell (cell_lt hc)).trans hc
      have hb10 := HPL.out b (List.mem_of_getElem? hbk)
      have HST := Lib.hid (stS_snoc (n := n) (m := m) (xss := xss) hbk)
      have HTC := Lib.hid (told_code (firstF (apB n m xss) (fnd n m xss 400 b)))
      clear hbk hc hYl
      go_wp2_with fail
      refine (firstWord_any 112 #[] #[.pointer (some ⟨B, 0, none⟩)] (apB n m xss) A n m cap b xss wr HG.out (HX6.out.below HB.out) hb10 (fun _ _ => rfl) (fun d _ W' hW => by
        have h1 := (hW.cell (cell_lt ((HB.out.cell (cell_lt HC6.out)).trans HC6.out))).trans ((HB.out.cell (cell_lt HC6.out)).trans HC6.out)
        refine (leadsApart_any B N4 C4 d A4 Q W' h1 ((HSS6.out.below HB.out).below hW) (by omega)).mono ?_
        rintro e w' ⟨rfl, rfl⟩
        refine ⟨?_, Below.refl _ _⟩
        congr 2
        unfold apB
        rw [← HQ.out, Bool.eq_iff_iff, List.any_eq_true, decide_eq_true_eq]
        simp)).mono ?_
      rintro e w7 ⟨u, rfl, o7, b7⟩
      obtain ⟨cd, hcd⟩ : ∃ cd, cd = (toldW (firstF (apB n m xss) (fnd n m xss 400 b))).2 := ⟨_, rfl⟩
      obtain ⟨ok, hok⟩ : ∃ ok, ok = hitB (firstF (apB n m xss) (fnd n m xss 400 b)) := ⟨_, rfl⟩
      rw [← hcd]
      rw [← hcd, ← hok] at HTC
      rw [← hok] at HST
      have HO7 := Lib.hid (own2_below HO.out b7)
      have HB7 := Lib.hid (below_then HB.out b7)
      clear o7 b7 hcd hok hcc q0 q1
      rcases ok with _ | _
      · have HN1 := Lib.hid (show stS n m xss (P.take (k + 1)) = Y ++ [b] by rw [HST.out, HY.out]; rfl)
        have h6 : (cd == 6) = true := HTC.out
        go_wp2_with (at_builtin; refine wpList_append_own _ rfl _ _ 81 rfl (w6.heap.size) 74 iS0 (.int .u16 0) 1 2 Try.underlying81 iS1 iS2 iS3 iS4 rfl (by decide) _ _ _ rfl (World.ownsRow.alloc (HO7.out) _) ⟨(w7).heap.size, 0, none⟩ 1 1 [.int .u16 (b : Int)] rfl rfl (cell_one_new _ _ _) (ones_bitU [b]) (by unfold maxLen; omega) (by omega) (by rw [World.size_alloc]; exact Nat.le_succ_of_le (HB7.out.size)) ?_)
        intro v' w8 hown' hgrow _
        have ba : Below w7.heap.size w7 (w7.alloc (.cells #[.int .u16 (b : Int)] 74)) := (Below.refl _ _).alloc (Nat.le_refl _) _
        have HB8 := Lib.hid (below_grown (below_then HB7.out ba) hgrow (fun g hg => (HO7.out.lt g hg).1))
        have HO8 := Lib.hid hown'
        clear hown' hgrow ba h6
        go_wp2_with fail
        go_roundw
        case rel =>
          refine ⟨k + 1, Y ++ [b], by omega, by go_num, HN1.out.symm, by rw [List.length_append]; have := HYL.out; simp; omega, ?_, HB8.out⟩
          rw [List.length_append, List.map_append]; exact HO8.out
        case measure => simp [intOf]; omega
      · have HN1 := Lib.hid (show stS n m xss (P.take (k + 1)) = Y by rw [HST.out, HY.out, if_pos rfl, List.append_nil])
        have h6 : (cd == 6) = false := HTC.out
        go_wp2_with fail
        go_roundw
        case rel => exact ⟨k + 1, Y, by omega, by go_num, HN1.out.symm, by have := HYL.out; omega, HO7.out, HB7.out⟩
        case measure => simp [intOf]; omega
    · have hke : k = N := by omega
      have hkn : ¬ (k : Int) < (N : Int) := by omega
      have HE := Lib.hid (show R = Y by rw [HRR.out, HY.out, hke, HN.out, List.take_length, HP.out, HF.out])
      clear hke hlt hYl q0 q1
      go_wp2_with fail
      go_ret
      refine ⟨_, rfl, ?_, below_then HB6.out HB.out⟩
      rw [HE.out]
      exact own2_bs HO.out HB6.out.size

end Go.Proofs.Ytcglncepmieaaaa

namespace Go.Proofs.Ytcglncepmieaaaa
open Go.RowKit Go.Deep Go.ChangeShapes Go.WideShapes
open Hunt Srch From Moved

theorem tab_read {n m s t : Nat} {xss : List (List Int)} {w : World} {At : Option Addr} (h : RowsAt w At n (tabK n m xss n)) (hs : s < n) (ht : t < n) :
    ∃ bT oT bR oR cR, At = some ⟨bT, oT, none⟩ ∧ w.cell? ⟨bT, oT + s, none⟩ = some (.slice (some ⟨bR, oR, none⟩) n cR) ∧ w.cell? ⟨bR, oR + t, none⟩ = some (.int .i64 (lenP n m xss s t)) := by
  obtain ⟨row, bT, oT, A', c', hrow, rfl, hc, hnum⟩ := h.at_ hs
  have e : row = rowK n m xss s n := by
    unfold tabK at hrow
    rw [List.getElem?_map, List.getElem?_range hs] at hrow
    exact (Option.some.inj hrow).symm
  subst e
  rw [rowK_len] at hc hnum
  obtain ⟨y, bR, oR, hy, rfl, hcy⟩ := hnum.at_ ht
  refine ⟨bT, oT, bR, oR, c', rfl, hc, ?_⟩
  rw [hcy]
  unfold rowK at hy
  rw [List.getElem?_map, List.getElem?_range ht] at hy
  exact congrArg some (congrArg (Value.int .i64) (Option.some.inj hy).symm)
theorem found_in {n m cap b : Nat} {xss : List (List Int)} {f : Fnd} (hg : Good n m xss) (hb : In n b) (hf : f ∈ fnd n m xss cap b) : In n f.set := by
  obtain ⟨h1, h2⟩ := found_word hf
  rw [h1]
  exact (goW_in (acts hg) _ _ h2 hb).1
/-- The words are searched for up to what the model's table tells. -/
noncomputable def sdB (n m : Nat) (xss : List (List Int)) (s t : Nat) : Bool := !hitB (firstF (apM n m xss) (fnd n m xss 1024 (pairB s t)))
theorem find_congr {g h : Nat → Bool} : ∀ {T : List Fnd}, (∀ f ∈ T, g f.set = h f.set) → firstF g T = firstF h T
  | [], _ => rfl
  | f :: T, hh => by
    have h1 := hh f List.mem_cons_self
    have h2 := find_congr (T := T) (fun x hx => hh x (List.mem_cons_of_mem _ hx))
    unfold firstF at h2 ⊢
    rw [List.find?_cons, List.find?_cons, h1, h2]
theorem sdB_eq {n m s t : Nat} {xss : List (List Int)} (hg : Good n m xss) (hs : s < n) (ht : t < n) : sdB n m xss s t = stB n m xss s t := by
  unfold sdB stB
  rw [find_congr (fun f hf => apM_eq hg ((found_in hg (pair_in hs ht) hf).lt hg.n10) (found_in hg (pair_in hs ht) hf))]

set_option maxRecDepth 100000 in
set_option maxHeartbeats 4000000 in
theorem l02Steady_any (p0 n m cap ct s t : Nat) (A At : Option Addr) (xss : List (List Int)) (w : World) (hg : Good n m xss) (hR : RowsAt w A m xss) (hp0 : w.cell? ⟨p0, 0, none⟩ = some (.int .i64 (n : Int))) (hp1 : w.cell? ⟨p0, 1, none⟩ = some (.slice A m cap))
    (hT : RowsAt w At n (tabK n m xss n)) (hs : s < n) (ht : t < n) :
    Calls Try.prog 111 #[.pointer (some ⟨p0, 0, none⟩), .slice At n ct, .int .i64 (s : Int), .int .i64 (t : Int)] w fun e w' => e = .returned (.bool (sdB n m xss s t)) ∧ Below w.heap.size w w' := by
  have hn10 := hg.n10
  have hin := pair_in hs ht
  have hb10 : pairB s t < 1024 := hin.lt hn10
  have HPB := Lib.hid (pair_bitsT (show s < 10 by omega) (show t < 10 by omega))
  have HG := Lib.hid hg
  have HR := Lib.hid hR
  have HP0 := Lib.hid hp0
  have HP1 := Lib.hid hp1
  have HTT := Lib.hid hT
  have HIN := Lib.hid hin
  have i1 : (0 : Int) ≤ (s : Int) := by omega
  have i2 : (s : Int) < 10 := by omega
  have i3 : (0 : Int) ≤ (t : Int) := by omega
  have i4 : (t : Int) < 10 := by omega
  obtain ⟨T, hTe⟩ : ∃ T, T = fnd n m xss 1024 (pairB s t) := ⟨_, rfl⟩
  have hl : T.length ≤ 1024 := by rw [hTe]; exact fnd_len hg hb10
  obtain ⟨R, hRR⟩ : ∃ R, R = sdB n m xss s t := ⟨_, rfl⟩
  rw [← hRR]
  have HRR := Lib.hid (show R = !hitB (firstF (apM n m xss) T) by rw [hRR, hTe]; rfl)
  have HT := Lib.hid hTe
  clear hg hR hp0 hp1 hT hin hTe hRR
  go_enter Try.func111, Try.ntmps111
  go_wp2_with fail
  rw [HPB.out]
  refine (l02From_any p0 n m cap (pairB s t) A xss w HG.out HR.out HP0.out HP1.out HIN.out).mono ?_
  rintro e w1 ⟨p, sb, g1, g2, g3, c1, c2, c3, rfl, hW, hB⟩
  rw [← HT.out] at hW
  have HW := Lib.hid hW
  have HB := Lib.hid hB
  clear hW hB
  go_wp2_with fail
  go_loopw [10] (fun iv wr => ∃ k : Nat, k ≤ T.length ∧ iv = .int .i64 k ∧ (∀ (j : Nat) f, j < k → T[j]? = some f → apM n m xss f.set = false) ∧ Below w1.heap.size w1 wr) (fun iv _ => T.length - (intOf iv).toNat)
  case atStart => exact ⟨0, Nat.zero_le _, rfl, fun j f hj => by omega, Below.refl _ _⟩
  case round =>
    obtain ⟨k, hk, rfl, hno, hbel⟩ := hrel
    have hws := HW.out.below hbel
    have q0 : wr.cell? ⟨p, 0, none⟩ = some (.slice (some ⟨g1, 0, none⟩) T.length c1) := by
      have := cell_of_row _ p 0 _ _ _ hws.blk
      rw [setsL_len] at this
      exact this
    have HWS := Lib.hid hws
    have HNO := Lib.hid hno
    have HBR := Lib.hid (below_then HB.out hbel)
    have HB1 := Lib.hid hbel
    clear hno hbel hws
    by_cases hlt : k < T.length
    · obtain ⟨f, hf⟩ : ∃ f, T[k]? = some f := ⟨_, List.getElem?_eq_getElem hlt⟩
      have r0 : wr.cell? ⟨g1, k, none⟩ = some (.int .i64 (f.set : Int)) := by
        have h1 := HWS.out.s.cellAt k (by rw [setsL_len]; omega)
        rw [List.getElem?_map, setsL_at hf] at h1
        exact h1
      have j1 : (0 : Int) ≤ (k : Int) := by omega
      have j2 : (k : Int) < (T.length : Int) := by omega
      have hfin := found_in HG.out HIN.out (by rw [← HT.out]; exact List.mem_of_getElem? hf)
      have hs10 : f.set < 1024 := hfin.lt hn10
      have HF := Lib.hid hf
      have HFI := Lib.hid hfin
      clear hf hfin
      go_wp2_with fail
      refine (l02Set_any f.set wr hs10).mono ?_
      rintro e w2 ⟨u, rfl, o2, b2⟩
      have HB2 := Lib.hid (below_then HB1.out b2)
      have HBR2 := Lib.hid (below_then HBR.out b2)
      by_cases h2 : (listK f.set 10).length = 2
      · obtain ⟨x, y, hxy, hy, hpe⟩ := two_pair hs10 HFI.out h2
        have hL : listK f.set 10 = [((x : Nat) : Int), ((y : Nat) : Int)] := by rw [hpe]; exact list_pair x (by omega) y (by omega) hxy
        rw [hL] at o2
        obtain ⟨A9, C9, rfl⟩ := own_form o2
        obtain ⟨g9, rfl, hNC9, hcells⟩ := own_cells (n := 2) o2 rfl (by omega)
        have d0 : w2.cell? ⟨g9, 0, none⟩ = some (.int .i64 ((x : Nat) : Int)) := hcells 0 (by omega)
        have d1 : w2.cell? ⟨g9, 1, none⟩ = some (.int .i64 ((y : Nat) : Int)) := hcells 1 (by omega)
        obtain ⟨bT, oT, bR, oR, cR, rfl, d2, d3⟩ := tab_read (HTT.out.below HBR2.out) (show x < n by omega) hy
        have HAP := Lib.hid (show apM n m xss f.set = decide (lenP n m xss x y < 0) by
          unfold apM
          rw [hL, ← tabK_at (xss := xss) (m := m) (show x < n by omega) hy]
          simp)
        obtain ⟨V, hV⟩ : ∃ V, V = lenP n m xss x y := ⟨_, rfl⟩
        rw [← hV] at d3 HAP
        have k1 : (0 : Int) ≤ (x : Int) := by omega
        have k2 : (x : Int) < (n : Int) := by omega
        have k3 : (0 : Int) ≤ (y : Int) := by omega
        have k4 : (y : Int) < (n : Int) := by omega
        clear hcells o2 b2 h2 hL hpe hV r0 q0
        rcases hv : decide (V < 0) with _ | _
        · have HM := Lib.hid (show apM n m xss f.set = false by rw [HAP.out, hv])
          go_upto_region 6 with fail
          go_quiet (fail)
          go_wp2_with fail
          go_roundw
          case rel =>
            refine ⟨k + 1, by omega, by go_num, fun j f' hj hf' => ?_, below_drewN' HB2.out _⟩
            rcases Nat.lt_or_ge j k with a | a
            · exact HNO.out j f' a hf'
            · obtain rfl : j = k := by omega
              rw [HF.out] at hf'
              obtain rfl := Option.some.inj hf'
              exact HM.out
          case measure => simp [intOf]; omega
        · have HM := Lib.hid (show apM n m xss f.set = true by rw [HAP.out, hv])
          go_upto_region 6 with fail
          go_quiet (fail)
          go_wp2_with fail
          go_ret
          have hR : R = false := by
            rw [HRR.out, first_hit HF.out HM.out HNO.out]; rfl
          rw [hR]
          exact ⟨rfl, below_drewN' HBR2.out _⟩
      · have HM := Lib.hid (show apM n m xss f.set = false by unfold apM; rw [decide_eq_false h2]; rfl)
        obtain ⟨L9, hL9⟩ : ∃ L9, L9 = listK f.set 10 := ⟨_, rfl⟩
        rw [← hL9] at o2 h2
        obtain ⟨A9, C9, rfl⟩ := own_form o2
        have hd0 : ((L9.length : Int) == 2) = false := by rw [beq_eq_false_iff_ne]; omega
        have hd1 : decide ((L9.length : Int) = 2) = false := decide_eq_false (by omega)
        clear o2 b2 h2 hL9 r0 q0
        go_upto_region 6 with fail
        go_quiet (fail)
        go_wp2_with fail
        go_roundw
        case rel =>
          refine ⟨k + 1, by omega, by go_num, fun j f' hj hf' => ?_, below_drewN' HB2.out _⟩
          rcases Nat.lt_or_ge j k with a | a
          · exact HNO.out j f' a hf'
          · obtain rfl : j = k := by omega
            rw [HF.out] at hf'
            obtain rfl := Option.some.inj hf'
            exact HM.out
        case measure => simp [intOf]; omega
    · have hke : k = T.length := by omega
      have hR : R = true := by
        rw [HRR.out, first_miss (fun j f hf => HNO.out j f (by rw [hke]; exact lt_of_at hf) hf)]; rfl
      have HRT := Lib.hid hR
      clear hR hke
      go_wp2_with fail
      go_ret
      rw [HRT.out]
      exact ⟨rfl, HBR.out⟩

end Go.Proofs.Ytcglncepmieaaaa

namespace Go.Proofs.Ytcglncepmieaaaa
open Go.RowKit Go.Deep Go.ChangeShapes Go.WideShapes
open Hunt Srch From Moved

set_option maxRecDepth 100000 in
set_option maxHeartbeats 4000000 in
theorem l02Stable_any (p n m cap : Nat) (A : Option Addr) (xss : List (List Int)) (w : World) (hg : Good n m xss) (hR : RowsAt w A m xss) (hb : Box w p [.int .i64 (n : Int), .slice A m cap]) :
    Calls Try.prog 63 #[.pointer (some ⟨p, 0, none⟩)] w fun e w' => ∃ u, e = .returned u ∧ TabIn w.heap.size w'.heap.size w' u (stL n m xss) ∧ Below w.heap.size w w' := by
  obtain ⟨i1, hi1, hy0, hy1, hy2⟩ := info_parts info_ints
  have HG := Lib.hid hg
  have HH := Lib.hid hR
  have HBX := Lib.hid hb
  have hn10 : n ≤ 10 := hg.n10
  clear hg hR hb
  go_enter Try.func63, Try.ntmps63
  go_wp2_with fail
  refine (l02Table_any p n m cap A xss w HG.out HH.out HBX.out).mono ?_
  rintro e w1 ⟨u, rfl, t1, b1⟩
  obtain ⟨At, ct, rfl⟩ := t1.form
  obtain ⟨Z, hZ⟩ : ∃ Z, Z = tabK n m xss n := ⟨_, rfl⟩
  rw [tabK_len] at t1 ⊢
  have hr1 := t1.rows (tabK_len n m xss n)
  have HT1 := Lib.hid hr1
  have HB1 := Lib.hid b1
  have HH1 := Lib.hid (HH.out.below b1)
  have HBX1 := Lib.hid (Box.below HBX.out b1)
  clear t1 hZ hr1 b1 HH HBX
  go_wp2_with fail
  go_loopw [4, 5] (fun ov iv wr => ∃ (k : Nat) (vs : List Value) (Y : List (List Int)), k ≤ n ∧ iv = .int .i64 k ∧ Y = stU n m xss (prL n k) ∧ TabV w1.heap.size wr.heap.size wr ov vs Y ∧ Below w1.heap.size w1 wr) (fun _ iv _ => n - (intOf iv).toNat)
  case atStart => exact ⟨0, [], [], Nat.zero_le _, rfl, rfl, (tabV_made w1 w1.heap.size (Nat.le_refl _)).wide (Nat.le_refl _) (by simp), (Below.refl _ _).alloc (Nat.le_refl _) _⟩
  case round =>
    obtain ⟨k, vs, Y, hk, rfl, hY, htab, hbel⟩ := hrel
    obtain ⟨A3, C3, rfl⟩ := own_form htab.out
    have HT := Lib.hid htab
    have HB := Lib.hid hbel
    have HY := Lib.hid hY
    have q0 := (Box.below HBX1.out hbel) 0 _ rfl
    have hk0 : (0 : Int) ≤ (k : Int) := by omega
    clear htab hbel hY
    by_cases hlt : k < n
    · have hkn : (k : Int) < (n : Int) := by omega
      go_wp2_with fail
      clear q0
      go_loopw [4, 6] (fun ov jv wi => ∃ (j : Nat) (vs : List Value) (X : List (List Int)), j ≤ n - 1 - k ∧ jv = .int .i64 ((k + 1 + j : Nat) : Int) ∧ X = stU n m xss (prL n k ++ prU k j) ∧ TabV w1.heap.size wi.heap.size wi ov vs X ∧ Below w1.heap.size w1 wi) (fun _ jv _ => n - (intOf jv).toNat)
      case atStart => exact ⟨0, vs, Y, Nat.zero_le _, by go_num, by rw [HY.out]; simp [prU], HT.out, HB.out⟩
      case round =>
        obtain ⟨j, us, X, hj, rfl, hX, htab, hbel⟩ := hrel
        obtain ⟨A4, C4, rfl⟩ := own_form htab.out
        have hXl : X.length ≤ 200 := by
          rw [hX]
          have h1 := stU_len n m xss (prL n k ++ prU k j)
          rw [List.length_append, prU_len] at h1
          have h2 := prL_len n k
          have h3 : k * n ≤ 10 * 10 := Nat.mul_le_mul (by omega) hn10
          omega
        have HT2 := Lib.hid htab
        have HB2 := Lib.hid hbel
        have HX := Lib.hid hX
        have q0 := (Box.below HBX1.out hbel) 0 _ rfl
        have q1 := (Box.below HBX1.out hbel) 1 _ rfl
        clear htab hbel hX
        by_cases hjn : k + 1 + j < n
        · have hj0 : (0 : Int) ≤ ((k + 1 + j : Nat) : Int) := by omega
          have hjn' : ((k + 1 + j : Nat) : Int) < (n : Int) := by omega
          obtain ⟨t, ht⟩ : ∃ t, t = k + 1 + j := ⟨_, rfl⟩
          have hst := stU_snoc n m xss (prL n k ++ prU k j) k t
          rw [ht, List.append_assoc, ← prU_succ, ← ht] at hst
          have HST := Lib.hid hst
          rw [← ht] at hj0 hjn' hjn ⊢
          have HTT := Lib.hid ht
          have HSD := Lib.hid (sdB_eq HG.out hlt hjn)
          clear ht hst
          go_wp2_with fail
          refine (l02Steady_any p n m cap ct k t A At xss wr HG.out (HH1.out.below HB2.out) q0 q1 (HT1.out.below HB2.out) hlt hjn).mono ?_
          rw [HSD.out]
          rintro e w3 ⟨rfl, b3⟩
          have HT3 := Lib.hid (HT2.out.below b3)
          have HB3 := Lib.hid (below_then HB2.out b3)
          have HS3 := Lib.hid b3.size
          clear b3 q0 q1
          rcases hsb : stB n m xss k t with _ | _
          · have HN := Lib.hid (show stU n m xss (prL n k ++ prU k (j + 1)) = X by rw [HST.out, if_neg (by rw [hsb]; simp), HX.out])
            clear hsb
            go_wp2_with fail
            go_roundw
            case rel =>
              have hT := HTT.out
              exact ⟨j + 1, us, X, by omega, by go_num, HN.out.symm, HT3.out.wide (Nat.le_refl _) HS3.out, HB3.out⟩
            case measure => have hT := HTT.out; simp [intOf]; omega
          · have HN := Lib.hid (show stU n m xss (prL n k ++ prU k (j + 1)) = X ++ [[(k : Int), (t : Int)]] by rw [HST.out, if_pos hsb, HX.out])
            clear hsb
            obtain ⟨w4, hw4⟩ : ∃ w4, w4 = w3.alloc (.cells #[.int .i64 (k : Int), .int .i64 (t : Int)] 2) := ⟨_, rfl⟩
            have b4 : Below w3.heap.size w3 w4 := by rw [hw4]; exact (Below.refl _ _).alloc (Nat.le_refl _) _
            have HT4 := Lib.hid (HT3.out.below b4)
            have HI4 := Lib.hid (show IntsIn w3.heap.size w4.heap.size w4 (.slice (some ⟨w3.heap.size, 0, none⟩) 2 2) [(k : Int), (t : Int)] by
              rw [hw4]
              exact IntsIn.of (World.ownsRow_lit (e := 2) w3 #[.int .i64 (k : Int), .int .i64 (t : Int)] 2 (Nat.le_refl _) (by decide) rfl))
            have HB4 := Lib.hid (below_then HB3.out b4)
            have HW4 := Lib.hid hw4
            have HS4 := Lib.hid (show w3.heap.size = wr.heap.size + (w3.heap.size - wr.heap.size) by have := HS3.out; omega)
            clear b4
            have HLE := Lib.hid (show w1.heap.size ≤ w4.heap.size from HB4.out.size)
            rw [hw4] at HT4 HLE
            have HCN := Lib.hid (show ∀ (j : Nat) (u : Value), [Value.slice (some ⟨w3.heap.size, 0, none⟩) 2 2][j]? = some u → ((w3.alloc (.cells #[.int .i64 (k : Int), .int .i64 (t : Int)] 2)).alloc (.cells #[.slice (some ⟨w3.heap.size, 0, none⟩) 2 2] 35)).cell? ((⟨w3.heap.size + 1, 0, none⟩ : Addr).add j) = some u from by
              have h9 := cell_one_new (w3.alloc (.cells #[.int .i64 (k : Int), .int .i64 (t : Int)] 2)) (.slice (some ⟨w3.heap.size, 0, none⟩) 2 2) 35
              rw [World.size_alloc] at h9
              exact h9)
            go_wp2_with (at_builtin; refine wpList_append_own_at _ rfl _ _ 22 rfl (w1.heap.size) 35 i1 (.slice none 0 0) 1 24 Try.underlying22 hi1 hy0 hy1 hy2 rfl (by decide) _ _ _ rfl (World.ownsRow.alloc (HT4.out.out) _) ⟨w3.heap.size + 1, 0, none⟩ 1 1 [.slice (some ⟨w3.heap.size, 0, none⟩) 2 2] rfl rfl HCN.out (by simp [Value.oneCell']) (by unfold maxLen; omega) (by omega) (by rw [World.size_alloc]; exact Nat.le_succ_of_le HLE.out) ?_)
            rw [← hw4] at HT4 HLE ⊢
            clear hw4
            intro v' w5 hown' hgrow _ hat
            have ba : Below w4.heap.size w4 (w4.alloc (.cells #[.slice (some ⟨w3.heap.size, 0, none⟩) 2 2] 35)) := (Below.refl _ _).alloc (Nat.le_refl _) _
            have htab2 := TabV.snoc (HT4.out.below ba) (HI4.out.below ba) hown' hgrow (by rw [World.size_alloc, show w4.heap.size = w3.heap.size + 1 by rw [HW4.out, World.size_alloc]]; exact hat) HB3.out.size HS3.out (by have := ba.size; omega)
            rw [← HN.out] at htab2
            have HT5 := Lib.hid htab2
            have HB5 := Lib.hid (below_grown (below_then HB4.out ba) hgrow (fun g hg => (HT4.out.out.lt g hg).1))
            clear hown' hgrow hat ba htab2
            go_wp2_with fail
            go_roundw
            case rel =>
              have hT := HTT.out
              exact ⟨j + 1, _, _, by omega, by go_num, rfl, HT5.out, HB5.out⟩
            case measure => have hT := HTT.out; simp [intOf]; omega
        · have hje : j = n - 1 - k := by omega
          have HJ := Lib.hid (show X = stU n m xss (prL n (k + 1)) by rw [HX.out, hje, prL_succ])
          have hjn' : ¬ ((k + 1 + j : Nat) : Int) < (n : Int) := by omega
          obtain ⟨T, hT⟩ : ∃ T, T = k + 1 + j := ⟨_, rfl⟩
          rw [← hT] at hjn' ⊢
          clear hje hjn hT
          go_wp2_with fail
          go_roundw
          case rel => exact ⟨k + 1, us, X, by omega, by go_num, HJ.out, HT2.out, HB2.out⟩
          case measure => simp [intOf]; omega
    · have hke : k = n := by omega
      have hkn : ¬ (k : Int) < (n : Int) := by omega
      have HE := Lib.hid (show stL n m xss = Y by rw [HY.out, hke]; rfl)
      clear hke hlt
      go_wp2_with fail
      go_ret
      refine ⟨_, rfl, ⟨vs, ?_⟩, below_then HB1.out HB.out⟩
      rw [HE.out]
      exact HT.out.wide HB1.out.size (Nat.le_refl _)

/-- What StablePairs answers. -/
noncomputable def stablePairs (s : Int) (xss : List (List Int)) : List (List Int) × Int := if okA s xss = true then (stL s.toNat xss.length xss, 0) else ([], 1)
theorem stablePairs_1 {s : Int} {xss : List (List Int)} (h : okA s xss = false) : stablePairs s xss = ([], 1) := by unfold stablePairs; rw [if_neg (by simp [h])]
theorem stablePairs_0 {n m : Nat} {xss : List (List Int)} (h : okA (n : Int) xss = true) (hm : xss.length = m) : stablePairs (n : Int) xss = (stL n m xss, 0) := by unfold stablePairs; rw [if_pos h, Int.toNat_natCast, hm]
theorem stablePairs_len (s : Int) (xss : List (List Int)) : (stablePairs s xss).1.length ≤ 100 := by
  rcases hok : okA s xss with _ | _
  · rw [stablePairs_1 hok]; simp
  · obtain ⟨n, rfl, hg⟩ := good_of hok rfl
    rw [stablePairs_0 hok rfl]
    exact Nat.le_trans (stU_len _ _ _ _) (prL_leS n hg.n10)
theorem stablePairs_sum (s : Int) (xss : List (List Int)) : sumLens (stablePairs s xss).1 ≤ 200 := by
  have h0 := stablePairs_len s xss
  have h1 := sumLens_leC (k := 2) (xss := (stablePairs s xss).1) (fun x hx => by
    unfold stablePairs at hx
    split at hx
    · exact Nat.le_of_eq (stU_row _ _ _ _ x hx)
    · simp at hx)
  omega
/-- The lists of the stable sets are the stable lists. -/
theorem stS_lists {n m : Nat} {xss : List (List Int)} (hg : Good n m xss) : (stS n m xss (prsS (2 ^ n - 1))).map (fun b => listK b 10) = stL n m xss := by
  have h10 := hg.n10
  unfold stS stL stU
  rw [prsS_full h10, List.filter_map, List.map_map]
  have e : (prL n n).filter ((fun b => !hitB (firstF (apB n m xss) (fnd n m xss 400 b))) ∘ fun g => pairB g.1 g.2) = (prL n n).filter fun g => stB n m xss g.1 g.2 := by
    apply List.filter_congr
    rintro ⟨s, t⟩ hst
    have hl := prL_mem hst
    show (!hitB (firstF (apB n m xss) (fnd n m xss 400 (pairB s t)))) = stB n m xss s t
    unfold stB
    rw [goal_same hg (by omega) hl.2.2 (fun b _ hb => apB_two hg b hb)]
  rw [e]
  apply List.map_congr_left
  rintro ⟨s, t⟩ hst
  have hl := prL_mem (List.mem_filter.1 hst).1
  exact list_pair s (by omega) t (by omega) hl.2.1
theorem stS_lt {n m b : Nat} {xss : List (List Int)} (h : b ∈ stS n m xss (prsS (2 ^ n - 1))) : b < 1024 := by
  unfold stS at h
  exact prsS_lt (List.mem_filter.1 h).1
theorem stS_len (n m : Nat) (xss : List (List Int)) : (stS n m xss (prsS (2 ^ n - 1))).length ≤ 100 := by
  unfold stS
  exact Nat.le_trans (List.length_filter_le _ _) (prsS_len _)

set_option maxRecDepth 100000 in
set_option maxHeartbeats 4000000 in
theorem specStablePairs_any (s : Int) (A : Option Addr) (m cap : Nat) (xss : List (List Int)) (w : World) (h : RowsAt w A m xss) (hm : m ≤ 4611686018427387904)
    (hrows : ∀ (r : Nat) (xs : List Int), xss[r]? = some xs → xs.length ≤ 4611686018427387904) :
    Calls Try.prog 25 #[.agg #[.int .i64 s, .slice A m cap]] w (TabsTo2 (stablePairs s xss) w) := by
  have HR := Lib.hid hrows
  have HM := Lib.hid h.1
  have b0 : Below w.heap.size w (w.alloc (.cells #[.int .i64 s, .slice A m cap] 28)) := (Below.refl _ _).alloc (Nat.le_refl _) _
  have H0 := Lib.hid (h.below b0)
  have B0 := Lib.hid b0
  have HBX := Lib.hid (show Box (w.alloc (.cells #[.int .i64 s, .slice A m cap] 28)) w.heap.size [.int .i64 s, .slice A m cap] from Box.new _ _ _)
  clear hrows b0
  go_enter Try.func25, Try.ntmps25
  go_wp2_with fail
  refine (l01Ok_any w.heap.size s A m cap xss _ (by go_cell) (by go_cell) H0.out hm HR.out).mono ?_
  rintro e w' ⟨rfl, d, hd⟩
  have B1 := Lib.hid (show Below w.heap.size w w' by rw [hd]; exact below_drewN' B0.out d)
  have HB1 := Lib.hid (show Box w' w.heap.size [.int .i64 s, .slice A m cap] by rw [hd]; exact Box.below HBX.out (below_drewN' (Below.refl _ _) d))
  have H1 := Lib.hid (show RowsAt w' A m xss by rw [hd]; exact H0.out.below (below_drewN' (Below.refl _ _) d))
  clear hd
  rcases hok : okA s xss with _ | _
  · go_wp2_with fail
    go_ret2
    exact tabsTo2_mk (stablePairs_1 hok) ⟨[], (tabV_made w' w.heap.size B1.out.size).wide (Nat.le_refl _) (by simp)⟩ (B1.out.alloc B1.out.size _)
  · obtain ⟨n, hsn, hg⟩ := good_of hok HM.out
    subst hsn
    go_wp2_with fail
    refine (l02Stable_any w.heap.size n m cap A xss w' hg H1.out HB1.out).mono ?_
    rintro e w3 ⟨u, rfl, t3, b3⟩
    go_wp2_with fail
    go_ret2
    exact tabsTo2_mk (stablePairs_0 hok HM.out) (t3.wide B1.out.size (Nat.le_refl _)) (below_then B1.out b3)

set_option maxRecDepth 100000 in
set_option maxHeartbeats 4000000 in
theorem implStablePairs_any (s : Int) (A : Option Addr) (m cap : Nat) (xss : List (List Int)) (w : World) (h : RowsAt w A m xss) (hm : m ≤ 4611686018427387904)
    (hrows : ∀ (r : Nat) (xs : List Int), xss[r]? = some xs → xs.length ≤ 4611686018427387904) :
    Calls Try.prog 26 #[.agg #[.int .i64 s, .slice A m cap]] w (TabsTo2 (stablePairs s xss) w) := by
  have HR := Lib.hid hrows
  have HM := Lib.hid h.1
  obtain ⟨w1, hw1⟩ : ∃ w1, w1 = w.alloc (.cells #[.int .i64 s, .slice A m cap] 28) := ⟨_, rfl⟩
  have b1 : Below w.heap.size w w1 := by rw [hw1]; exact (Below.refl _ _).alloc (Nat.le_refl _) _
  have HBX := Lib.hid (show Box w1 w.heap.size [.int .i64 s, .slice A m cap] by rw [hw1]; exact Box.new _ _ _)
  have HX := Lib.hid (h.below b1)
  have HB1 := Lib.hid b1
  have HW := Lib.hid hw1
  clear h b1 hw1 hrows
  go_enter Try.func26, Try.ntmps26
  go_wp2_with fail
  rw [← HW.out]
  refine (implValid_any s A m cap xss w1 HX.out hm HR.out).mono ?_
  rintro e w2 ⟨rfl, b2⟩
  have HB2 := Lib.hid (below_then HB1.out b2)
  have HX2 := Lib.hid (HX.out.below b2)
  have HBX2 := Lib.hid (Box.below HBX.out b2)
  clear b2 HBX HX HW HB1
  rcases hok : okA s xss with _ | _
  · go_wp2_with fail
    go_ret2
    exact tabsTo2_mk (stablePairs_1 hok) ⟨[], tabV_none _ _ _⟩ HB2.out
  · obtain ⟨n, hsn, hg⟩ := good_of hok HM.out
    subst hsn
    have HF := Lib.hid (stablePairs_0 hok HM.out)
    have HG := Lib.hid hg
    have q0 := HBX2.out 0 _ rfl
    have q1 := HBX2.out 1 _ rfl
    have HLS := Lib.hid (stS_lists hg)
    have HLL := Lib.hid (stS_len n m xss)
    have HLT := Lib.hid (show ∀ b ∈ stS n m xss (prsS (2 ^ n - 1)), b < 1024 from fun b hb => stS_lt hb)
    obtain ⟨Q, hQ⟩ : ∃ Q, Q = stS n m xss (prsS (2 ^ n - 1)) := ⟨_, rfl⟩
    rw [← hQ] at HLS HLL HLT
    have HQ := Lib.hid hQ
    clear hg hok hQ
    go_wp2_with fail
    refine (stablePairs_any A n m cap xss w2 HG.out HX2.out).mono ?_
    rw [← HQ.out]
    rintro e w3 ⟨u, rfl, o3, b3⟩
    obtain ⟨A4, C4, rfl⟩ := own2_form o3
    have HS3 := Lib.hid (show SetsAt w3 A4 Q.length Q by
      rcases o3.2 with ⟨hv0, h0⟩ | ⟨g, cap', cur, hv0, hg, hh, hnc, hcap, hsz, htake⟩
      · have hq : Q = [] := List.eq_nil_of_length_eq_zero (by omega)
        refine ⟨rfl, fun k b hb => ?_⟩
        rw [hq] at hb; simp at hb
      · simp only [Value.slice.injEq] at hv0
        obtain ⟨rfl, _, rfl⟩ := hv0
        exact SetsAt.own o3 rfl)
    have HB3 := Lib.hid (below_then HB2.out b3)
    clear o3 b3 q0 q1
    go_wp2_with fail
    refine (listsOf_any A4 Q.length C4 Q w3 HS3.out (by have := HLL.out; omega) HLT.out).mono ?_
    rw [HLS.out]
    rintro e w4 ⟨u, rfl, t4, b4⟩
    go_wp2_with fail
    go_ret2
    exact tabsTo2_mk HF.out (t4.wide HB3.out.size (Nat.le_refl _)) (below_then HB3.out b4)

end Go.Proofs.Ytcglncepmieaaaa
