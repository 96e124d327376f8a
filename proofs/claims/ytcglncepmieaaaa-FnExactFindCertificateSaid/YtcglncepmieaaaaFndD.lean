/-
  Certificates that are found: rows that are put into a list of lists as they lie; the model's l02Pairs and l02Bits; what FindCertificate answers.
-/
import Derived.Test.YtcglncepmieaaaaStbT
import Derived.Test.YtcglncepmieaaaaCert
namespace Go.Proofs.Ytcglncepmieaaaa
open Go.RowKit Go.Deep Go.ChangeShapes Go.WideShapes
open Hunt Srch From Moved

/-- A row that lies already is put at the end of a list of lists. -/
theorem TabV.snocOld {lo hi : Nat} {w w' : World} {v v' u : Value} {vs : List Value} {xss : List (List Int)} {xs : List Int} (h : TabV lo hi w v vs xss) (hr : IntsIn lo hi w u xs)
    (hne : ∀ g, u.ownBlock = some g → ¬ OwnsB v vs g)
    (ho : w'.ownsRow lo 35 1 v' (xss.length + 1) (vs ++ [u])) (hg : w.grownBy w' v.ownBlock) (hat : v'.ownBlock = v.ownBlock ∨ v'.ownBlock = some w.heap.size)
    (hh : hi ≤ w.heap.size) : TabV lo w'.heap.size w' v' (vs ++ [u]) (xss ++ [xs]) := by
  have hz := hg.size
  have hvn : ∀ g, v.ownBlock = some g → lo ≤ g ∧ g < hi := fun g e => ⟨(h.out.lt g e).1, h.top g e⟩
  have hun : ∀ g, u.ownBlock = some g → lo ≤ g ∧ g < hi ∧ g < w.heap.size := fun g e => ⟨(hr.1.lt g e).1, hr.2 g e, (hr.1.lt g e).2⟩
  have hrn : ∀ (r : Nat) (x : Value) (g : Nat), vs[r]? = some x → x.ownBlock = some g → lo ≤ g ∧ g < hi ∧ g < w.heap.size := fun r x g hx e => h.own_lt (.inr ⟨r, x, hx, e⟩)
  have hup : IntsIn lo w'.heap.size w' u xs := by
    refine ⟨hr.1.kept hg ?_, fun g e => by have := hun g e; omega⟩
    rcases hb : u.ownBlock with _ | g
    · exact .inl rfl
    · exact .inr (fun e => hne g hb (.inl e.symm))
  have hn' : ∀ (r : Nat) (x : Value), (vs ++ [u])[r]? = some x → (r < vs.length ∧ vs[r]? = some x) ∨ (r = vs.length ∧ x = u) := fun r x hx => by
    rcases Nat.lt_or_ge r vs.length with a | a
    · rw [List.getElem?_append_left a] at hx; exact .inl ⟨a, hx⟩
    · rw [List.getElem?_append_right a] at hx
      have hz : r - vs.length = 0 := by
        rcases Nat.eq_zero_or_pos (r - vs.length) with e | e
        · exact e
        · rw [List.getElem?_eq_none (by simp; omega)] at hx; cases hx
      rw [hz] at hx
      exact .inr ⟨by omega, by simpa using hx.symm⟩
  refine ⟨by simp [h.len], by rw [List.length_append]; exact ho, fun g e => (ho.lt g e).2, fun r x ys hx hy => ?_, fun r r' x x' g hx hx' e e' => ?_, fun r x g hx e => ?_⟩
  · rcases hn' r x hx with ⟨a, b⟩ | ⟨a, rfl⟩
    · have hl := h.len
      rw [List.getElem?_append_left (by omega)] at hy
      have hi := h.row r x ys b hy
      refine ⟨hi.1.kept hg ?_, fun g e => by have := hrn r x g b e; omega⟩
      rcases hb : x.ownBlock with _ | g
      · exact .inl rfl
      · exact .inr (fun e => h.outer r x g b hb e.symm)
    · have hl := h.len
      subst a
      rw [hl, List.getElem?_append_right (Nat.le_refl _), Nat.sub_self] at hy
      simp only [List.getElem?_cons_zero, Option.some.injEq] at hy
      subst hy
      exact hup
  · rcases hn' r x hx with ⟨a, b⟩ | ⟨a, rfl⟩ <;> rcases hn' r' x' hx' with ⟨a', b'⟩ | ⟨a', rfl⟩
    · exact h.apart r r' x x' g b b' e e'
    · exact (hne g e' (.inr ⟨r, x, b, e⟩)).elim
    · exact (hne g e (.inr ⟨r', x', b', e'⟩)).elim
    · omega
  · intro hv'
    rcases hat with hat | hat
    · rw [hat] at hv'
      rcases hn' r x hx with ⟨a, b⟩ | ⟨a, rfl⟩
      · exact h.outer r x g b e hv'
      · exact hne g e (.inl hv')
    · rw [hat] at hv'
      have hgz := Option.some.inj hv'
      rcases hn' r x hx with ⟨a, b⟩ | ⟨a, rfl⟩
      · have := hrn r x g b e; omega
      · have := hun g e; omega

/-- All pairs, as lists. -/
def prT (gs : List (Nat × Nat)) : List (List Int) := gs.map fun g => [((g.1 : Nat) : Int), ((g.2 : Nat) : Int)]
theorem prT_append (a b : List (Nat × Nat)) : prT (a ++ b) = prT a ++ prT b := by simp [prT]
theorem prT_len (a : List (Nat × Nat)) : (prT a).length = a.length := by simp [prT]

set_option maxRecDepth 100000 in
set_option maxHeartbeats 4000000 in
theorem l02Pairs_any (n : Nat) (w : World) (hn10 : n ≤ 10) :
    Calls Try.prog 70 #[.int .i64 (n : Int)] w fun e w' => ∃ u, e = .returned u ∧ TabIn w.heap.size w'.heap.size w' u (prT (prL n n)) ∧ Below w.heap.size w w' := by
  obtain ⟨i1, hi1, hy0, hy1, hy2⟩ := info_parts info_ints
  go_enter Try.func70, Try.ntmps70
  go_wp2_with fail
  go_loopw [3, 4] (fun ov iv wr => ∃ (k : Nat) (vs : List Value) (Y : List (List Int)), k ≤ n ∧ iv = .int .i64 k ∧ Y = prT (prL n k) ∧ TabV w.heap.size wr.heap.size wr ov vs Y ∧ Below w.heap.size w wr) (fun _ iv _ => n - (intOf iv).toNat)
  case atStart => exact ⟨0, [], [], Nat.zero_le _, rfl, rfl, (tabV_made w w.heap.size (Nat.le_refl _)).wide (Nat.le_refl _) (by simp), (Below.refl _ _).alloc (Nat.le_refl _) _⟩
  case round =>
    obtain ⟨k, vs, Y, hk, rfl, hY, htab, hbel⟩ := hrel
    obtain ⟨A3, C3, rfl⟩ := own_form htab.out
    have HT := Lib.hid htab
    have HB := Lib.hid hbel
    have HY := Lib.hid hY
    have hk0 : (0 : Int) ≤ (k : Int) := by omega
    clear htab hbel hY
    by_cases hlt : k < n
    · have hkn : (k : Int) < (n : Int) := by omega
      go_wp2_with fail
      go_loopw [3, 5] (fun ov jv wi => ∃ (j : Nat) (vs : List Value) (X : List (List Int)), j ≤ n - 1 - k ∧ jv = .int .i64 ((k + 1 + j : Nat) : Int) ∧ X = prT (prL n k ++ prU k j) ∧ TabV w.heap.size wi.heap.size wi ov vs X ∧ Below w.heap.size w wi) (fun _ jv _ => n - (intOf jv).toNat)
      case atStart => exact ⟨0, vs, Y, Nat.zero_le _, by go_num, by rw [HY.out]; simp [prU], HT.out, HB.out⟩
      case round =>
        obtain ⟨j, us, X, hj, rfl, hX, htab, hbel⟩ := hrel
        obtain ⟨A4, C4, rfl⟩ := own_form htab.out
        have hXl : X.length ≤ 200 := by
          rw [hX, prT_len, List.length_append, prU_len]
          have h2 := prL_len n k
          have h3 : k * n ≤ 10 * 10 := Nat.mul_le_mul (by omega) hn10
          omega
        have HT2 := Lib.hid htab
        have HB2 := Lib.hid hbel
        have HX := Lib.hid hX
        clear htab hbel hX
        by_cases hjn : k + 1 + j < n
        · have hj0 : (0 : Int) ≤ ((k + 1 + j : Nat) : Int) := by omega
          have hjn' : ((k + 1 + j : Nat) : Int) < (n : Int) := by omega
          obtain ⟨t, ht⟩ : ∃ t, t = k + 1 + j := ⟨_, rfl⟩
          have HN := Lib.hid (show prT (prL n k ++ prU k (j + 1)) = X ++ [[(k : Int), (t : Int)]] by rw [prU_succ, ← List.append_assoc, prT_append, HX.out, ← ht]; rfl)
          rw [← ht] at hj0 hjn' hjn ⊢
          have HTT := Lib.hid ht
          clear ht
          obtain ⟨w4, hw4⟩ : ∃ w4, w4 = wr.alloc (.cells #[.int .i64 (k : Int), .int .i64 (t : Int)] 2) := ⟨_, rfl⟩
          have b4 : Below wr.heap.size wr w4 := by rw [hw4]; exact (Below.refl _ _).alloc (Nat.le_refl _) _
          have HT4 := Lib.hid (HT2.out.below b4)
          have HI4 := Lib.hid (show IntsIn wr.heap.size w4.heap.size w4 (.slice (some ⟨wr.heap.size, 0, none⟩) 2 2) [(k : Int), (t : Int)] by
            rw [hw4]
            exact IntsIn.of (World.ownsRow_lit (e := 2) wr #[.int .i64 (k : Int), .int .i64 (t : Int)] 2 (Nat.le_refl _) (by decide) rfl))
          have HB4 := Lib.hid (below_then HB2.out b4)
          have HW4 := Lib.hid hw4
          clear b4
          have HLE := Lib.hid (show w.heap.size ≤ w4.heap.size from HB4.out.size)
          rw [hw4] at HT4 HLE
          have HCN := Lib.hid (show ∀ (j : Nat) (u : Value), [Value.slice (some ⟨wr.heap.size, 0, none⟩) 2 2][j]? = some u → ((wr.alloc (.cells #[.int .i64 (k : Int), .int .i64 (t : Int)] 2)).alloc (.cells #[.slice (some ⟨wr.heap.size, 0, none⟩) 2 2] 35)).cell? ((⟨wr.heap.size + 1, 0, none⟩ : Addr).add j) = some u from by
            have h9 := cell_one_new (wr.alloc (.cells #[.int .i64 (k : Int), .int .i64 (t : Int)] 2)) (.slice (some ⟨wr.heap.size, 0, none⟩) 2 2) 35
            rw [World.size_alloc] at h9
            exact h9)
          go_wp2_with (at_builtin; refine wpList_append_own_at _ rfl _ _ 22 rfl (w.heap.size) 35 i1 (.slice none 0 0) 1 24 Try.underlying22 hi1 hy0 hy1 hy2 rfl (by decide) _ _ _ rfl (World.ownsRow.alloc (HT4.out.out) _) ⟨wr.heap.size + 1, 0, none⟩ 1 1 [.slice (some ⟨wr.heap.size, 0, none⟩) 2 2] rfl rfl HCN.out (by simp [Value.oneCell']) (by unfold maxLen; omega) (by omega) (by rw [World.size_alloc]; exact Nat.le_succ_of_le HLE.out) ?_)
          rw [← hw4] at HT4 HLE ⊢
          clear hw4
          intro v' w5 hown' hgrow _ hat
          have ba : Below w4.heap.size w4 (w4.alloc (.cells #[.slice (some ⟨wr.heap.size, 0, none⟩) 2 2] 35)) := (Below.refl _ _).alloc (Nat.le_refl _) _
          have htab2 := TabV.snoc (HT4.out.below ba) (HI4.out.below ba) hown' hgrow (by rw [World.size_alloc, show w4.heap.size = wr.heap.size + 1 by rw [HW4.out, World.size_alloc]]; exact hat) HB2.out.size (Nat.le_refl _) (by have := ba.size; omega)
          rw [← HN.out] at htab2
          have HT5 := Lib.hid htab2
          have HB5 := Lib.hid (below_grown (below_then HB4.out ba) hgrow (fun g hg => (HT4.out.out.lt g hg).1))
          clear hown' hgrow hat ba htab2
          go_wp2_with fail
          go_roundw
          case rel =>
            have hT := HTT.out
            exact ⟨j + 1, _, _, by omega, by go_num, rfl, HT5.out, HB5.out⟩
          case measure => have hT := HTT.out; simp [intOf]; omega
        · have hje : j = n - 1 - k := by omega
          have HJ := Lib.hid (show X = prT (prL n (k + 1)) by rw [HX.out, hje, prL_succ])
          have hjn' : ¬ ((k + 1 + j : Nat) : Int) < (n : Int) := by omega
          obtain ⟨T, hT⟩ : ∃ T, T = k + 1 + j := ⟨_, rfl⟩
          rw [← hT] at hjn' ⊢
          clear hje hjn hT
          go_wp2_with fail
          go_roundw
          case rel => exact ⟨k + 1, us, X, by omega, by go_num, HJ.out, HT2.out, HB2.out⟩
          case measure => simp [intOf]; omega
    · have hke : k = n := by omega
      have hkn : ¬ (k : Int) < (n : Int) := by omega
      have HE := Lib.hid (show prT (prL n n) = Y by rw [HY.out, hke])
      clear hke hlt
      go_wp2_with fail
      go_ret
      refine ⟨_, rfl, ⟨vs, ?_⟩, HB.out⟩
      rw [HE.out]
      exact HT.out

/-- The pairs without a word, and the words of all pairs. -/
noncomputable def apT (n m : Nat) (xss : List (List Int)) (gs : List (Nat × Nat)) : List (List Int) := prT (gs.filter fun g => !hitB (firstF mergedB (fnd n m xss 1024 (pairB g.1 g.2))))
noncomputable def wdT (n m : Nat) (xss : List (List Int)) (gs : List (Nat × Nat)) : List (List Int) := gs.map fun g => (toldW (firstF mergedB (fnd n m xss 1024 (pairB g.1 g.2)))).1
theorem apT_snoc {n m k s t : Nat} {xss : List (List Int)} {gs : List (Nat × Nat)} (h : gs[k]? = some (s, t)) :
    apT n m xss (gs.take (k + 1)) = apT n m xss (gs.take k) ++ if hitB (firstF mergedB (fnd n m xss 1024 (pairB s t))) = true then [] else [[(s : Int), (t : Int)]] := by
  unfold apT
  rw [take_snoc h, List.filter_append, prT_append]
  congr 1
  rcases ho : hitB (firstF mergedB (fnd n m xss 1024 (pairB s t))) with _ | _
  · rw [List.filter_cons_of_pos (by simpa using ho)]; rfl
  · rw [List.filter_cons_of_neg (by simpa using ho)]; rfl
theorem wdT_snoc {n m k s t : Nat} {xss : List (List Int)} {gs : List (Nat × Nat)} (h : gs[k]? = some (s, t)) : wdT n m xss (gs.take (k + 1)) = wdT n m xss (gs.take k) ++ [(toldW (firstF mergedB (fnd n m xss 1024 (pairB s t)))).1] := by
  unfold wdT; rw [take_snoc h, List.map_append]; rfl
theorem apT_len (n m : Nat) (xss : List (List Int)) (gs : List (Nat × Nat)) : (apT n m xss gs).length ≤ gs.length := by unfold apT; rw [prT_len]; exact List.length_filter_le _ _
theorem wdT_len (n m : Nat) (xss : List (List Int)) (gs : List (Nat × Nat)) : (wdT n m xss gs).length = gs.length := by unfold wdT; simp
theorem wdT_row {n m : Nat} {xss : List (List Int)} (hg : Good n m xss) {gs : List (Nat × Nat)} (hgs : ∀ g ∈ gs, g.1 < n ∧ g.2 < n) : ∀ l ∈ wdT n m xss gs, l.length ≤ 1024 := by
  intro l hl
  unfold wdT at hl
  obtain ⟨g, hm, rfl⟩ := List.mem_map.1 hl
  obtain ⟨h1, h2⟩ := hgs g hm
  rcases ho : firstF mergedB (fnd n m xss 1024 (pairB g.1 g.2)) with _ | f
  · simp [toldW]
  · have h3 : f ∈ fnd n m xss 1024 (pairB g.1 g.2) := List.mem_of_find?_eq_some ho
    obtain ⟨j, hj⟩ := mem_at h3
    have h4 := word_le (all_inv (aft := aftF n xss) (m := m) (cap := 1024) (b0 := pairB g.1 g.2)) j f hj
    have h5 := lt_of_at hj
    have h6 := fnd_len (m := m) (xss := xss) hg ((pair_in h1 h2).lt hg.n10)
    show f.word.length ≤ 1024
    have : (fnd n m xss 1024 (pairB g.1 g.2)).length = (allF (aftF n xss) m 1024 (pairB g.1 g.2)).length := rfl
    omega
/-- The lists of the sets without a word are the model's. -/
theorem apL_lists {n m : Nat} {xss : List (List Int)} (hg : Good n m xss) : (apL n m xss).map (fun b => listK b 10) = apT n m xss (prL n n) := by
  have h10 := hg.n10
  unfold apL apT prT
  rw [pwL_full h10, List.filter_map, List.map_map, List.map_map]
  have e : (prL n n).filter ((fun p : PW => !p.ok) ∘ fun g => pwO n m xss (pairB g.1 g.2)) = (prL n n).filter fun g => !hitB (firstF mergedB (fnd n m xss 1024 (pairB g.1 g.2))) := by
    apply List.filter_congr
    rintro ⟨s, t⟩ hst
    have hl := prL_mem hst
    show (!hitB (firstF mergedB (fnd n m xss 400 (pairB s t)))) = _
    rw [pair_same hg (by omega) hl.2.2]
  rw [e]
  apply List.map_congr_left
  rintro ⟨s, t⟩ hst
  have hl := prL_mem (List.mem_filter.1 hst).1
  exact list_pair s (by omega) t (by omega) hl.2.1
theorem pwL_words {n m : Nat} {xss : List (List Int)} (hg : Good n m xss) : (pwL n m xss).map PW.word = wdT n m xss (prL n n) := by
  rw [pwL_full hg.n10, List.map_map]
  unfold wdT
  apply List.map_congr_left
  rintro ⟨s, t⟩ hst
  have hl := prL_mem hst
  show (toldW (firstF mergedB (fnd n m xss 400 (pairB s t)))).1 = _
  rw [pair_same hg (by omega) hl.2.2]

/-- What FindCertificate answers. -/
noncomputable def findCertificate (s : Int) (xss : List (List Int)) : Int × List (List Int) × List (List Int) × Int :=
  if okA s xss = true then (if 0 < (apT s.toNat xss.length xss (prL s.toNat s.toNat)).length then (2, apT s.toNat xss.length xss (prL s.toNat s.toNat), [], 0) else (1, [], wdT s.toNat xss.length xss (prL s.toNat s.toNat), 0)) else (0, [], [], 1)
theorem findCertificate_1 {s : Int} {xss : List (List Int)} (h : okA s xss = false) : findCertificate s xss = (0, [], [], 1) := by unfold findCertificate; rw [if_neg (by simp [h])]
theorem findCertificate_2 {n m : Nat} {xss : List (List Int)} (h : okA (n : Int) xss = true) (hm : xss.length = m) (hl : 0 < (apT n m xss (prL n n)).length) : findCertificate (n : Int) xss = (2, apT n m xss (prL n n), [], 0) := by
  unfold findCertificate; rw [if_pos h, Int.toNat_natCast, hm, if_pos hl]
theorem findCertificate_0 {n m : Nat} {xss : List (List Int)} (h : okA (n : Int) xss = true) (hm : xss.length = m) (hl : ¬ 0 < (apT n m xss (prL n n)).length) : findCertificate (n : Int) xss = (1, [], wdT n m xss (prL n n), 0) := by
  unfold findCertificate; rw [if_pos h, Int.toNat_natCast, hm, if_neg hl]
theorem findCertificate_all (s : Int) (xss : List (List Int)) : (findCertificate s xss).2.1.length ≤ 100 ∧ (findCertificate s xss).2.2.1.length ≤ 100 ∧ sumLens (findCertificate s xss).2.1 + sumLens (findCertificate s xss).2.2.1 ≤ 102400 := by
  rcases hok : okA s xss with _ | _
  · rw [findCertificate_1 hok]; simp [sumLens]
  · obtain ⟨n, rfl, hg⟩ := good_of hok rfl
    have h1 := prL_leS n hg.n10
    have h2 := apT_len n xss.length xss (prL n n)
    by_cases hl : 0 < (apT n xss.length xss (prL n n)).length
    · rw [findCertificate_2 hok rfl hl]
      have h3 := sumLens_leC (k := 2) (xss := apT n xss.length xss (prL n n)) (fun x hx => by
        unfold apT prT at hx
        obtain ⟨g, _, rfl⟩ := List.mem_map.1 hx
        exact Nat.le_refl _)
      refine ⟨by show (apT _ _ _ _).length ≤ 100; omega, by simp, ?_⟩
      show sumLens (apT n xss.length xss (prL n n)) + sumLens [] ≤ 102400
      simp only [sumLens, List.map_nil, List.sum_nil] at h3 ⊢
      omega
    · rw [findCertificate_0 hok rfl hl]
      have h3 := sumLens_leC (k := 1024) (xss := wdT n xss.length xss (prL n n)) (wdT_row hg fun g hgm => by have := prL_mem (s := g.1) (t := g.2) hgm; omega)
      rw [wdT_len] at h3
      refine ⟨by simp, by show (wdT _ _ _ _).length ≤ 100; rw [wdT_len]; exact h1, ?_⟩
      show sumLens [] + sumLens (wdT n xss.length xss (prL n n)) ≤ 102400
      simp only [sumLens, List.map_nil, List.sum_nil] at h3 ⊢
      omega
theorem findCertificate_len (s : Int) (xss : List (List Int)) : (findCertificate s xss).2.1.length ≤ 100 := (findCertificate_all s xss).1
theorem findCertificate_olen (s : Int) (xss : List (List Int)) : (findCertificate s xss).2.2.1.length ≤ 100 := (findCertificate_all s xss).2.1
theorem findCertificate_sum (s : Int) (xss : List (List Int)) : sumLens (findCertificate s xss).2.1 + sumLens (findCertificate s xss).2.2.1 ≤ 102400 := (findCertificate_all s xss).2.2
/-- A certificate and a code. -/
def CertTo (r : Int × List (List Int) × List (List Int) × Int) (w : World) (e : Ending) (w' : World) : Prop :=
  ∃ v v2, e = .returned (.tuple #[.agg #[.int .i64 r.1, v, v2], .int .i64 r.2.2.2]) ∧ MachIn w.heap.size w'.heap.size w' v v2 r.2.1 r.2.2.1 ∧ Below w.heap.size w w'
theorem certTo_mk {r : Int × List (List Int) × List (List Int) × Int} {w w' : World} {k c : Int} {ps ws : List (List Int)} {v v2 : Value} (h : r = (k, ps, ws, c)) (ht : MachIn w.heap.size w'.heap.size w' v v2 ps ws) (hb : Below w.heap.size w w') : CertTo r w (.returned (.tuple #[.agg #[.int .i64 k, v, v2], .int .i64 c])) w' := by
  subst h; exact ⟨v, v2, rfl, ht, hb⟩

end Go.Proofs.Ytcglncepmieaaaa
