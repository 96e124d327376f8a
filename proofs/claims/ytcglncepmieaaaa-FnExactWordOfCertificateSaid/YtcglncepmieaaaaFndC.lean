/-
  Certificates that are found: rows that are put into a list of lists as they lie; the model's l02Pairs and l02Bits; what FindCertificate answers.
  The certificate that is found: the contracts of l02Bits and of the model's FindCertificate.
-/
import Derived.Test.YtcglncepmieaaaaStbT
import Derived.Test.YtcglncepmieaaaaCert
namespace Go.Proofs.Ytcglncepmieaaaa
open Go.RowKit Go.Deep Go.ChangeShapes Go.WideShapes
open Hunt Srch From Moved

/-- A row that lies already is put at the end of a list of lists. -/
theorem TabV.snocOld {lo hi : Nat} {w w' : World} {v v' u : Value} {vs : List Value} {xss : List (List Int)} {xs : List Int} (h : TabV lo hi w v vs xss) (hr : IntsIn lo hi w u xs)
    (hne : ∀ g, u.ownBlock = some g → ¬ OwnsB v vs g)
    (ho : w'.ownsRow lo 35 1 v' (xss.length + 1) (vs ++ [u])) (hg : w.grownBy w' v.ownBlock) (hat : v'.ownBlock = v.ownBlock ∨ v'.ownBlock = some w.heap.size)
    (hh : hi ≤ w.heap.size) : TabV lo w'.heap.size w' v' (vs ++ [u]) (xss ++ [xs]) := by
  have hz := hg.size
  have hvn : ∀ g, v.ownBlock = some g → lo ≤ g ∧ g < hi := fun g e => ⟨(h.out.lt g e).1, h.top g e⟩
  have hun : ∀ g, u.ownBlock = some g → lo ≤ g ∧ g < hi ∧ g < w.heap.size := fun g e => ⟨(hr.1.lt g e).1, hr.2 g e, (hr.1.lt g e).2⟩
  have hrn : ∀ (r : Nat) (x : Value) (g : Nat), vs[r]? = some x → x.ownBlock = some g → lo ≤ g ∧ g < hi ∧ g < w.heap.size := fun r x g hx e => h.own_lt (.inr ⟨r, x, hx, e⟩)
  have hup : IntsIn lo w'.heap.size w' u xs := by
    refine ⟨hr.1.kept hg ?_, fun g e => by have := hun g e; omega⟩
    rcases hb : u.ownBlock with _ | g
    · exact .inl rfl
    · exact .inr (fun e => hne g hb (.inl e.symm))
  have hn' : ∀ (r : Nat) (x : Value), (vs ++ [u])[r]? = some x → (r < vs.length ∧ vs[r]? = some x) ∨ (r = vs.length ∧ x = u) := fun r x hx => by
    rcases Nat.lt_or_ge r vs.length with a | a
    · rw [List.getElem?_append_left a] at hx; exact .inl ⟨a, hx⟩
    · rw [List.getElem?_append_right a] at hx
      have hz : r - vs.length = 0 := by
        rcases Nat.eq_zero_or_pos (r - vs.length) with e | e
        · exact e
        · rw [List.getElem?_eq_none (by simp; omega)] at hx; cases hx
      rw [hz] at hx
      exact .inr ⟨by omega, by simpa using hx.symm⟩
  refine ⟨by simp [h.len], by rw [List.length_append]; exact ho, fun g e => (ho.lt g e).2, fun r x ys hx hy => ?_, fun r r' x x' g hx hx' e e' => ?_, fun r x g hx e => ?_⟩
  · rcases hn' r x hx with ⟨a, b⟩ | ⟨a, rfl⟩
    · have hl := h.len
      rw [List.getElem?_append_left (by omega)] at hy
      have hi := h.row r x ys b hy
      refine ⟨hi.1.kept hg ?_, fun g e => by have := hrn r x g b e; omega⟩
      rcases hb : x.ownBlock with _ | g
      · exact .inl rfl
      · exact .inr (fun e => h.outer r x g b hb e.symm)
    · have hl := h.len
      subst a
      rw [hl, List.getElem?_append_right (Nat.le_refl _), Nat.sub_self] at hy
      simp only [List.getElem?_cons_zero, Option.some.injEq] at hy
      subst hy
      exact hup
  · rcases hn' r x hx with ⟨a, b⟩ | ⟨a, rfl⟩ <;> rcases hn' r' x' hx' with ⟨a', b'⟩ | ⟨a', rfl⟩
    · exact h.apart r r' x x' g b b' e e'
    · exact (hne g e' (.inr ⟨r, x, b, e⟩)).elim
    · exact (hne g e (.inr ⟨r', x', b', e'⟩)).elim
    · omega
  · intro hv'
    rcases hat with hat | hat
    · rw [hat] at hv'
      rcases hn' r x hx with ⟨a, b⟩ | ⟨a, rfl⟩
      · exact h.outer r x g b e hv'
      · exact hne g e (.inl hv')
    · rw [hat] at hv'
      have hgz := Option.some.inj hv'
      rcases hn' r x hx with ⟨a, b⟩ | ⟨a, rfl⟩
      · have := hrn r x g b e; omega
      · have := hun g e; omega

/-- All pairs, as lists. -/
def prT (gs : List (Nat × Nat)) : List (List Int) := gs.map fun g => [((g.1 : Nat) : Int), ((g.2 : Nat) : Int)]
theorem prT_append (a b : List (Nat × Nat)) : prT (a ++ b) = prT a ++ prT b := by simp [prT]
theorem prT_len (a : List (Nat × Nat)) : (prT a).length = a.length := by simp [prT]

set_option maxRecDepth 100000 in
set_option maxHeartbeats 4000000 in
theorem l02Pairs_any (n : Nat) (w : World) (hn10 : n ≤ 10) :
    Calls Try.prog 70 #[.int .i64 (n : Int)] w fun e w' => ∃ u, e = .returned u ∧ TabIn w.heap.size w'.heap.size w' u (prT (prL n n)) ∧ Below w.heap.size w w' := by
  obtain ⟨i1, hi1, hy0, hy1, hy2⟩ := info_parts info_ints
  go_enter Try.func70, Try.ntmps70
  go_wp2_with fail
  go_loopw [3, 4] (fun ov iv wr => ∃ (k : Nat) (vs : List Value) (Y : List (List Int)), k ≤ n ∧ iv = .int .i64 k ∧ Y = prT (prL n k) ∧ TabV w.heap.size wr.heap.size wr ov vs Y ∧ Below w.heap.size w wr) (fun _ iv _ => n - (intOf iv).toNat)
  case atStart => exact ⟨0, [], [], Nat.zero_le _, rfl, rfl, (tabV_made w w.heap.size (Nat.le_refl _)).wide (Nat.le_refl _) (by simp), (Below.refl _ _).alloc (Nat.le_refl _) _⟩
  case round =>
    obtain ⟨k, vs, Y, hk, rfl, hY, htab, hbel⟩ := hrel
    obtain ⟨A3, C3, rfl⟩ := own_form htab.out
    have HT := Lib.hid htab
    have HB := Lib.hid hbel
    have HY := Lib.hid hY
    have hk0 : (0 : Int) ≤ (k : Int) := by omega
    clear htab hbel hY
    by_cases hlt : k < n
    · have hkn : (k : Int) < (n : Int) := by omega
      go_wp2_with fail
      go_loopw [3, 5] (fun ov jv wi => ∃ (j : Nat) (vs : List Value) (X : List (List Int)), j ≤ n - 1 - k ∧ jv = .int .i64 ((k + 1 + j : Nat) : Int) ∧ X = prT (prL n k ++ prU k j) ∧ TabV w.heap.size wi.heap.size wi ov vs X ∧ Below w.heap.size w wi) (fun _ jv _ => n - (intOf jv).toNat)
      case atStart => exact ⟨0, vs, Y, Nat.zero_le _, by go_num, by rw [HY.out]; simp [prU], HT.out, HB.out⟩
      case round =>
        obtain ⟨j, us, X, hj, rfl, hX, htab, hbel⟩ := hrel
        obtain ⟨A4, C4, rfl⟩ := own_form htab.out
        have hXl : X.length ≤ 200 := by
          rw [hX, prT_len, List.length_append, prU_len]
          have h2 := prL_len n k
          have h3 : k * n ≤ 10 * 10 := Nat.mul_le_mul (by omega) hn10
          omega
        have HT2 := Lib.hid htab
        have HB2 := Lib.hid hbel
        have HX := Lib.hid hX
        clear htab hbel hX
        by_cases hjn : k + 1 + j < n
        · have hj0 : (0 : Int) ≤ ((k + 1 + j : Nat) : Int) := by omega
          have hjn' : ((k + 1 + j : Nat) : Int) < (n : Int) := by omega
          obtain ⟨t, ht⟩ : ∃ t, t = k + 1 + j := ⟨_, rfl⟩
          have HN := Lib.hid (show prT (prL n k ++ prU k (j + 1)) = X ++ [[(k : Int), (t : Int)]] by rw [prU_succ, ← List.append_assoc, prT_append, HX.out, ← ht]; rfl)
          rw [← ht] at hj0 hjn' hjn ⊢
          have HTT := Lib.hid ht
          clear ht
          obtain ⟨w4, hw4⟩ : ∃ w4, w4 = wr.alloc (.cells #[.int .i64 (k : Int), .int .i64 (t : Int)] 2) := ⟨_, rfl⟩
          have b4 : Below wr.heap.size wr w4 := by rw [hw4]; exact (Below.refl _ _).alloc (Nat.le_refl _) _
          have HT4 := Lib.hid (HT2.out.below b4)
          have HI4 := Lib.hid (show IntsIn wr.heap.size w4.heap.size w4 (.slice (some ⟨wr.heap.size, 0, none⟩) 2 2) [(k : Int), (t : Int)] by
            rw [hw4]
            exact IntsIn.of (World.ownsRow_lit (e := 2) wr #[.int .i64 (k : Int), .int .i64 (t : Int)] 2 (Nat.le_refl _) (by decide) rfl))
          have HB4 := Lib.hid (below_then HB2.out b4)
          have HW4 := Lib.hid hw4
          clear b4
          have HLE := Lib.hid (show w.heap.size ≤ w4.heap.size from HB4.out.size)
          rw [hw4] at HT4 HLE
          have HCN := Lib.hid (show ∀ (j : Nat) (u : Value), [Value.slice (some ⟨wr.heap.size, 0, none⟩) 2 2][j]? = some u → ((wr.alloc (.cells #[.int .i64 (k : Int), .int .i64 (t : Int)] 2)).alloc (.cells #[.slice (some ⟨wr.heap.size, 0, none⟩) 2 2] 35)).cell? ((⟨wr.heap.size + 1, 0, none⟩ : Addr).add j) = some u from by
            have h9 := cell_one_new (wr.alloc (.cells #[.int .i64 (k : Int), .int .i64 (t : Int)] 2)) (.slice (some ⟨wr.heap.size, 0, none⟩) 2 2) 35
            rw [World.size_alloc] at h9
            exact h9)
          go_wp2_with (at_builtin; refine wpList_append_own_at _ rfl _ _ 22 rfl (w.heap.size) 35 i1 (.slice none 0 0) 1 24 Try.underlying22 hi1 hy0 hy1 hy2 rfl (by decide) _ _ _ rfl (World.ownsRow.alloc (HT4.out.out) _) ⟨wr.heap.size + 1, 0, none⟩ 1 1 [.slice (some ⟨wr.heap.size, 0, none⟩) 2 2] rfl rfl HCN.out (by simp [Value.oneCell']) (by unfold maxLen; omega) (by omega) (by rw [World.size_alloc]; exact Nat.le_succ_of_le HLE.out) ?_)
          rw [← hw4] at HT4 HLE ⊢
          clear hw4
          intro v' w5 hown' hgrow _ hat
          have ba : Below w4.heap.size w4 (w4.alloc (.cells #[.slice (some ⟨wr.heap.size, 0, none⟩) 2 2] 35)) := (Below.refl _ _).alloc (Nat.le_refl _) _
          have htab2 := TabV.snoc (HT4.out.below ba) (HI4.out.below ba) hown' hgrow (by rw [World.size_alloc, show w4.heap.size = wr.heap.size + 1 by rw [HW4.out, World.size_alloc]]; exact hat) HB2.out.size (Nat.le_refl _) (by have := ba.size; omega)
          rw [← HN.out] at htab2
          have HT5 := Lib.hid htab2
          have HB5 := Lib.hid (below_grown (below_then HB4.out ba) hgrow (fun g hg => (HT4.out.out.lt g hg).1))
          clear hown' hgrow hat ba htab2
          go_wp2_with fail
          go_roundw
          case rel =>
            have hT := HTT.out
            exact ⟨j + 1, _, _, by omega, by go_num, rfl, HT5.out, HB5.out⟩
          case measure => have hT := HTT.out; simp [intOf]; omega
        · have hje : j = n - 1 - k := by omega
          have HJ := Lib.hid (show X = prT (prL n (k + 1)) by rw [HX.out, hje, prL_succ])
          have hjn' : ¬ ((k + 1 + j : Nat) : Int) < (n : Int) := by omega
          obtain ⟨T, hT⟩ : ∃ T, T = k + 1 + j := ⟨_, rfl⟩
          rw [← hT] at hjn' ⊢
          clear hje hjn hT
          go_wp2_with fail
          go_roundw
          case rel => exact ⟨k + 1, us, X, by omega, by go_num, HJ.out, HT2.out, HB2.out⟩
          case measure => simp [intOf]; omega
    · have hke : k = n := by omega
      have hkn : ¬ (k : Int) < (n : Int) := by omega
      have HE := Lib.hid (show prT (prL n n) = Y by rw [HY.out, hke])
      clear hke hlt
      go_wp2_with fail
      go_ret
      refine ⟨_, rfl, ⟨vs, ?_⟩, HB.out⟩
      rw [HE.out]
      exact HT.out

/-- The pairs without a word, and the words of all pairs. -/
noncomputable def apT (n m : Nat) (xss : List (List Int)) (gs : List (Nat × Nat)) : List (List Int) := prT (gs.filter fun g => !hitB (firstF mergedB (fnd n m xss 1024 (pairB g.1 g.2))))
noncomputable def wdT (n m : Nat) (xss : List (List Int)) (gs : List (Nat × Nat)) : List (List Int) := gs.map fun g => (toldW (firstF mergedB (fnd n m xss 1024 (pairB g.1 g.2)))).1
theorem apT_snoc {n m k s t : Nat} {xss : List (List Int)} {gs : List (Nat × Nat)} (h : gs[k]? = some (s, t)) :
    apT n m xss (gs.take (k + 1)) = apT n m xss (gs.take k) ++ if hitB (firstF mergedB (fnd n m xss 1024 (pairB s t))) = true then [] else [[(s : Int), (t : Int)]] := by
  unfold apT
  rw [take_snoc h, List.filter_append, prT_append]
  congr 1
  rcases ho : hitB (firstF mergedB (fnd n m xss 1024 (pairB s t))) with _ | _
  · rw [List.filter_cons_of_pos (by simpa using ho)]; rfl
  · rw [List.filter_cons_of_neg (by simpa using ho)]; rfl
theorem wdT_snoc {n m k s t : Nat} {xss : List (List Int)} {gs : List (Nat × Nat)} (h : gs[k]? = some (s, t)) : wdT n m xss (gs.take (k + 1)) = wdT n m xss (gs.take k) ++ [(toldW (firstF mergedB (fnd n m xss 1024 (pairB s t)))).1] := by
  unfold wdT; rw [take_snoc h, List.map_append]; rfl
theorem apT_len (n m : Nat) (xss : List (List Int)) (gs : List (Nat × Nat)) : (apT n m xss gs).length ≤ gs.length := by unfold apT; rw [prT_len]; exact List.length_filter_le _ _
theorem wdT_len (n m : Nat) (xss : List (List Int)) (gs : List (Nat × Nat)) : (wdT n m xss gs).length = gs.length := by unfold wdT; simp
theorem wdT_row {n m : Nat} {xss : List (List Int)} (hg : Good n m xss) {gs : List (Nat × Nat)} (hgs : ∀ g ∈ gs, g.1 < n ∧ g.2 < n) : ∀ l ∈ wdT n m xss gs, l.length ≤ 1024 := by
  intro l hl
  unfold wdT at hl
  obtain ⟨g, hm, rfl⟩ := List.mem_map.1 hl
  obtain ⟨h1, h2⟩ := hgs g hm
  rcases ho : firstF mergedB (fnd n m xss 1024 (pairB g.1 g.2)) with _ | f
  · simp [toldW]
  · have h3 : f ∈ fnd n m xss 1024 (pairB g.1 g.2) := List.mem_of_find?_eq_some ho
    obtain ⟨j, hj⟩ := mem_at h3
    have h4 := word_le (all_inv (aft := aftF n xss) (m := m) (cap := 1024) (b0 := pairB g.1 g.2)) j f hj
    have h5 := lt_of_at hj
    have h6 := fnd_len (m := m) (xss := xss) hg ((pair_in h1 h2).lt hg.n10)
    show f.word.length ≤ 1024
    have : (fnd n m xss 1024 (pairB g.1 g.2)).length = (allF (aftF n xss) m 1024 (pairB g.1 g.2)).length := rfl
    omega
/-- The lists of the sets without a word are the model's. -/
theorem apL_lists {n m : Nat} {xss : List (List Int)} (hg : Good n m xss) : (apL n m xss).map (fun b => listK b 10) = apT n m xss (prL n n) := by
  have h10 := hg.n10
  unfold apL apT prT
  rw [pwL_full h10, List.filter_map, List.map_map, List.map_map]
  have e : (prL n n).filter ((fun p : PW => !p.ok) ∘ fun g => pwO n m xss (pairB g.1 g.2)) = (prL n n).filter fun g => !hitB (firstF mergedB (fnd n m xss 1024 (pairB g.1 g.2))) := by
    apply List.filter_congr
    rintro ⟨s, t⟩ hst
    have hl := prL_mem hst
    show (!hitB (firstF mergedB (fnd n m xss 400 (pairB s t)))) = _
    rw [pair_same hg (by omega) hl.2.2]
  rw [e]
  apply List.map_congr_left
  rintro ⟨s, t⟩ hst
  have hl := prL_mem (List.mem_filter.1 hst).1
  exact list_pair s (by omega) t (by omega) hl.2.1
theorem pwL_words {n m : Nat} {xss : List (List Int)} (hg : Good n m xss) : (pwL n m xss).map PW.word = wdT n m xss (prL n n) := by
  rw [pwL_full hg.n10, List.map_map]
  unfold wdT
  apply List.map_congr_left
  rintro ⟨s, t⟩ hst
  have hl := prL_mem hst
  show (toldW (firstF mergedB (fnd n m xss 400 (pairB s t)))).1 = _
  rw [pair_same hg (by omega) hl.2.2]

/-- What FindCertificate answers. -/
noncomputable def findCertificate (s : Int) (xss : List (List Int)) : Int × List (List Int) × List (List Int) × Int :=
  if okA s xss = true then (if 0 < (apT s.toNat xss.length xss (prL s.toNat s.toNat)).length then (2, apT s.toNat xss.length xss (prL s.toNat s.toNat), [], 0) else (1, [], wdT s.toNat xss.length xss (prL s.toNat s.toNat), 0)) else (0, [], [], 1)
theorem findCertificate_1 {s : Int} {xss : List (List Int)} (h : okA s xss = false) : findCertificate s xss = (0, [], [], 1) := by unfold findCertificate; rw [if_neg (by simp [h])]
theorem findCertificate_2 {n m : Nat} {xss : List (List Int)} (h : okA (n : Int) xss = true) (hm : xss.length = m) (hl : 0 < (apT n m xss (prL n n)).length) : findCertificate (n : Int) xss = (2, apT n m xss (prL n n), [], 0) := by
  unfold findCertificate; rw [if_pos h, Int.toNat_natCast, hm, if_pos hl]
theorem findCertificate_0 {n m : Nat} {xss : List (List Int)} (h : okA (n : Int) xss = true) (hm : xss.length = m) (hl : ¬ 0 < (apT n m xss (prL n n)).length) : findCertificate (n : Int) xss = (1, [], wdT n m xss (prL n n), 0) := by
  unfold findCertificate; rw [if_pos h, Int.toNat_natCast, hm, if_neg hl]
theorem findCertificate_all (s : Int) (xss : List (List Int)) : (findCertificate s xss).2.1.length ≤ 100 ∧ (findCertificate s xss).2.2.1.length ≤ 100 ∧ sumLens (findCertificate s xss).2.1 + sumLens (findCertificate s xss).2.2.1 ≤ 102400 := by
  rcases hok : okA s xss with _ | _
  · rw [findCertificate_1 hok]; simp [sumLens]
  · obtain ⟨n, rfl, hg⟩ := good_of hok rfl
    have h1 := prL_leS n hg.n10
    have h2 := apT_len n xss.length xss (prL n n)
    by_cases hl : 0 < (apT n xss.length xss (prL n n)).length
    · rw [findCertificate_2 hok rfl hl]
      have h3 := sumLens_leC (k := 2) (xss := apT n xss.length xss (prL n n)) (fun x hx => by
        unfold apT prT at hx
        obtain ⟨g, _, rfl⟩ := List.mem_map.1 hx
        exact Nat.le_refl _)
      refine ⟨by show (apT _ _ _ _).length ≤ 100; omega, by simp, ?_⟩
      show sumLens (apT n xss.length xss (prL n n)) + sumLens [] ≤ 102400
      simp only [sumLens, List.map_nil, List.sum_nil] at h3 ⊢
      omega
    · rw [findCertificate_0 hok rfl hl]
      have h3 := sumLens_leC (k := 1024) (xss := wdT n xss.length xss (prL n n)) (wdT_row hg fun g hgm => by have := prL_mem (s := g.1) (t := g.2) hgm; omega)
      rw [wdT_len] at h3
      refine ⟨by simp, by show (wdT _ _ _ _).length ≤ 100; rw [wdT_len]; exact h1, ?_⟩
      show sumLens [] + sumLens (wdT n xss.length xss (prL n n)) ≤ 102400
      simp only [sumLens, List.map_nil, List.sum_nil] at h3 ⊢
      omega
theorem findCertificate_len (s : Int) (xss : List (List Int)) : (findCertificate s xss).2.1.length ≤ 100 := (findCertificate_all s xss).1
theorem findCertificate_olen (s : Int) (xss : List (List Int)) : (findCertificate s xss).2.2.1.length ≤ 100 := (findCertificate_all s xss).2.1
theorem findCertificate_sum (s : Int) (xss : List (List Int)) : sumLens (findCertificate s xss).2.1 + sumLens (findCertificate s xss).2.2.1 ≤ 102400 := (findCertificate_all s xss).2.2
/-- A certificate and a code. -/
def CertTo (r : Int × List (List Int) × List (List Int) × Int) (w : World) (e : Ending) (w' : World) : Prop :=
  ∃ v v2, e = .returned (.tuple #[.agg #[.int .i64 r.1, v, v2], .int .i64 r.2.2.2]) ∧ MachIn w.heap.size w'.heap.size w' v v2 r.2.1 r.2.2.1 ∧ Below w.heap.size w w'
theorem certTo_mk {r : Int × List (List Int) × List (List Int) × Int} {w w' : World} {k c : Int} {ps ws : List (List Int)} {v v2 : Value} (h : r = (k, ps, ws, c)) (ht : MachIn w.heap.size w'.heap.size w' v v2 ps ws) (hb : Below w.heap.size w w') : CertTo r w (.returned (.tuple #[.agg #[.int .i64 k, v, v2], .int .i64 c])) w' := by
  subst h; exact ⟨v, v2, rfl, ht, hb⟩

end Go.Proofs.Ytcglncepmieaaaa

namespace Go.Proofs.Ytcglncepmieaaaa
open Go.RowKit Go.Deep Go.ChangeShapes Go.WideShapes
open Hunt Srch From Moved

theorem i64_or_t {c t : Nat} (hc : c < 1024) (ht : t < 10) : bits .or .i64 (c : Int) (wrap64 (2 ^ t)) = ((c ||| 2 ^ t : Nat) : Int) := by
  have ht9 : 2 ^ t ≤ 2 ^ 9 := Nat.pow_le_pow_right (by decide) (by omega)
  have e3 : ((2 : Int) ^ t) = ((2 ^ t : Nat) : Int) := by push_cast; rfl
  rw [e3, wrap_512 (Nat.le_trans ht9 (by decide)), i64_or_nat c _ (by omega) (by omega)]

set_option maxRecDepth 100000 in
set_option maxHeartbeats 1000000 in
theorem l02Bits_any (A : Option Addr) (l cap : Nat) (xs : List Int) (w : World) (h : NumsAt w A l xs) (hx : ∀ x ∈ xs, 0 ≤ x ∧ x < 10) (hl : l ≤ 4611686018427387904) :
    Calls Try.prog 72 #[.slice A l cap] w fun e w' => e = .returned (.int .i64 (setN xs : Int)) ∧ w = w' := by
  have HX := Lib.hid hx
  have HL := Lib.hid h.1
  clear hx
  go_enter Try.func72, Try.ntmps72
  go_wp2_with fail
  go_loop [3, 4] (fun u i => ∃ (k c : Nat), k ≤ l ∧ i = .int .i64 k ∧ u = .int .i64 (c : Int) ∧ c = setN (xs.take k)) (fun _ i => l - (intOf i).toNat)
  case atStart => exact ⟨0, 0, Nat.zero_le _, rfl, rfl, rfl⟩
  case round =>
    obtain ⟨k, c, hk, rfl, rfl, hc⟩ := hrel
    have HC := Lib.hid hc
    have hcl : c < 1024 := by rw [hc]; exact setN_lt _ _ rfl (fun x hx => HX.out x (List.mem_of_mem_take hx))
    clear hc
    by_cases hlt : k < l
    · obtain ⟨y, b3, off3, hy, rfl, hcy⟩ := h.at_ hlt
      have hy1 := HX.out y (List.mem_of_getElem? hy)
      obtain ⟨t, rfl⟩ : ∃ t : Nat, y = (t : Int) := ⟨y.toNat, by omega⟩
      have i1 : (0 : Int) ≤ (k : Int) := by omega
      have i2 : (k : Int) < (l : Int) := by omega
      have i3 : (0 : Int) ≤ (t : Int) := by omega
      have i4 : (t : Int) < 10 := by omega
      have HOR := Lib.hid (i64_or_t hcl (show t < 10 by omega))
      have HST := Lib.hid (show setN (xs.take (k + 1)) = c ||| 2 ^ t by rw [take_snoc hy, setN_snoc, ← HC.out, Int.toNat_natCast])
      clear hy hy1
      go_wp2_with fail
      go_round
      case rel => exact ⟨k + 1, setN (xs.take (k + 1)), by omega, by go_num, by rw [HOR.out, HST.out], rfl⟩
      case measure => simp [intOf]; omega
    · have hkn : k = l := by omega
      have HK := Lib.hid hkn
      clear hkn
      go_wp2_with fail
      go_ret
      exact ⟨ret_int (by rw [HC.out, HK.out, List.take_of_length_le (by rw [HL.out]; exact Nat.le_refl _)]), rfl⟩

theorem box3_cells {w : World} {B : Nat} {x0 x1 x2 : Value} {T : TypeId} (h : w.heap[B]? = some (.cells #[x0, x1, x2] T (0, 0))) :
    w.cell? ⟨B, 0, none⟩ = some x0 ∧ w.cell? ⟨B, 1, none⟩ = some x1 ∧ w.cell? ⟨B, 2, none⟩ = some x2 ∧ w.frozen? ⟨B, 0, none⟩ = false ∧ w.frozen? ⟨B, 1, none⟩ = false ∧ w.frozen? ⟨B, 2, none⟩ = false :=
  ⟨cell_of_row _ B 0 _ _ _ h, cell_of_row _ B 1 _ _ _ h, cell_of_row _ B 2 _ _ _ h, frozen_of_row _ B 0 _ _ h, frozen_of_row _ B 1 _ _ h, frozen_of_row _ B 2 _ _ h⟩
theorem box3_set {w : World} {B : Nat} {x0 x1 x2 : Value} {T : TypeId} (h : w.heap[B]? = some (.cells #[x0, x1, x2] T (0, 0))) (y0 y1 y2 : Value) :
    (w.setCell ⟨B, 0, none⟩ y0).cell? ⟨B, 0, none⟩ = some y0 ∧ ((w.setCell ⟨B, 0, none⟩ y0).setCell ⟨B, 1, none⟩ y1).cell? ⟨B, 1, none⟩ = some y1 ∧ (((w.setCell ⟨B, 0, none⟩ y0).setCell ⟨B, 1, none⟩ y1).setCell ⟨B, 2, none⟩ y2).cell? ⟨B, 2, none⟩ = some y2 := by
  have g0 : (w.setCell ⟨B, 0, none⟩ y0).heap[B]? = some (.cells #[y0, x1, x2] T (0, 0)) := by rw [heap_setCell_same w B 0 _ _ _ h]; rfl
  have g1 : ((w.setCell ⟨B, 0, none⟩ y0).setCell ⟨B, 1, none⟩ y1).heap[B]? = some (.cells #[y0, y1, x2] T (0, 0)) := by rw [heap_setCell_same _ B 1 _ _ _ g0]; rfl
  have g2 : (((w.setCell ⟨B, 0, none⟩ y0).setCell ⟨B, 1, none⟩ y1).setCell ⟨B, 2, none⟩ y2).heap[B]? = some (.cells #[y0, y1, y2] T (0, 0)) := by rw [heap_setCell_same _ B 2 _ _ _ g1]; rfl
  exact ⟨cell_of_row _ B 0 _ _ _ g0, cell_of_row _ B 1 _ _ _ g1, cell_of_row _ B 2 _ _ _ g2⟩
theorem set3_only (w : World) (B : Nat) (y0 y1 y2 : Value) : Only B (B + 1) w (((w.setCell ⟨B, 0, none⟩ y0).setCell ⟨B, 1, none⟩ y1).setCell ⟨B, 2, none⟩ y2) := ((only_setCell w B 0 y0).trans (only_setCell _ B 1 y1)).trans (only_setCell _ B 2 y2)
theorem set3_size (w : World) (B : Nat) (y0 y1 y2 : Value) : (((w.setCell ⟨B, 0, none⟩ y0).setCell ⟨B, 1, none⟩ y1).setCell ⟨B, 2, none⟩ y2).heap.size = w.heap.size := by rw [World.size_setCell, World.size_setCell, World.size_setCell]
theorem set3_below {a w : World} {b B : Nat} (h : Below b a w) (hB : b ≤ B) (y0 y1 y2 : Value) : Below b a (((w.setCell ⟨B, 0, none⟩ y0).setCell ⟨B, 1, none⟩ y1).setCell ⟨B, 2, none⟩ y2) := ((h.setCell hB _).setCell hB _).setCell hB _
theorem cert_one (w : World) {lo hi : Nat} {v : Value} {xss : List (List Int)} (h : TabIn lo hi w v xss) (hl : lo ≤ hi) : MachIn lo hi w v (.slice none 0 0) xss [] := MachIn.of_tabs hl (Nat.le_refl _) h (tab_nil _ _ _)
theorem cert_two (w : World) {lo hi : Nat} {v : Value} {xss : List (List Int)} (h : TabIn lo hi w v xss) (hl : lo ≤ hi) : MachIn lo hi w (.slice none 0 0) v [] xss := MachIn.of_tabs (Nat.le_refl _) hl (tab_nil _ _ _) h
theorem TabV.row_of {lo hi : Nat} {w : World} {v : Value} {vs : List Value} {xss : List (List Int)} (h : TabV lo hi w v vs xss) {k : Nat} {xs : List Int} (hk : xss[k]? = some xs) : ∃ A' c', vs[k]? = some (.slice A' xs.length c') ∧ IntsIn lo hi w (.slice A' xs.length c') xs := by
  have hl := h.len
  have hkl : k < xss.length := by
    rcases Nat.lt_or_ge k xss.length with a | a
    · exact a
    · rw [List.getElem?_eq_none a] at hk; cases hk
  have hu : vs[k]? = some vs[k] := List.getElem?_eq_getElem (by omega)
  have hr := h.row k _ xs hu hk
  obtain ⟨A', c', hv⟩ := own_form hr.1
  rw [hv] at hu hr
  exact ⟨A', c', hu, hr⟩

/-- Two lists of lists that grow in turn: one of new rows, one of rows of ps that lie already. -/
structure Two (l0 l1 : Nat) (ps : List Value) (k : Nat) (w : World) (V5 : Value) (vs5 : List Value) (X5 : List (List Int)) (V6 : Value) (vs6 : List Value) (X6 : List (List Int)) : Prop where
  t5 : TabV l1 w.heap.size w V5 vs5 X5
  t6 : TabV l0 w.heap.size w V6 vs6 X6
  sep : ∀ g, OwnsB V5 vs5 g → V6.ownBlock ≠ some g
  out6 : ∀ g, V6.ownBlock = some g → l1 ≤ g
  rows6 : ∀ (r : Nat) (u : Value), vs6[r]? = some u → (∃ j, j < k ∧ ps[j]? = some u) ∧ ∀ g, u.ownBlock = some g → g < l1
theorem Two.below {l0 l1 k : Nat} {ps : List Value} {w w' : World} {V5 V6 : Value} {vs5 vs6 : List Value} {X5 X6 : List (List Int)} (h : Two l0 l1 ps k w V5 vs5 X5 V6 vs6 X6) (hb : Below w.heap.size w w') : Two l0 l1 ps k w' V5 vs5 X5 V6 vs6 X6 :=
  ⟨(h.t5.below hb).wide (Nat.le_refl _) hb.size, (h.t6.below hb).wide (Nat.le_refl _) hb.size, h.sep, h.out6, h.rows6⟩
theorem Two.word {l0 l1 k lu : Nat} {ps : List Value} {w wa w' : World} {V5 V6 u V' : Value} {vs5 vs6 : List Value} {X5 X6 : List (List Int)} {xs : List Int} (h : Two l0 l1 ps k w V5 vs5 X5 V6 vs6 X6) (hb : Below w.heap.size w wa)
    (hr : IntsIn w.heap.size lu wa u xs) (hlu : lu ≤ wa.heap.size) (hl : l1 ≤ w.heap.size)
    (ho : w'.ownsRow l1 35 1 V' (X5.length + 1) (vs5 ++ [u])) (hg : wa.grownBy w' V5.ownBlock) (hat : V'.ownBlock = V5.ownBlock ∨ V'.ownBlock = some wa.heap.size) :
    Two l0 l1 ps k w' V' (vs5 ++ [u]) (X5 ++ [xs]) V6 vs6 X6 := by
  have hs := hb.size
  have hz := hg.size
  have hv5 : ∀ g, V5.ownBlock = some g → l1 ≤ g ∧ g < w.heap.size := fun g e => ⟨(h.t5.out.lt g e).1, h.t5.top g e⟩
  have hv6 : ∀ g, V6.ownBlock = some g → g < w.heap.size := fun g e => h.t6.top g e
  refine ⟨TabV.snoc (h.t5.below hb) hr ho hg hat hl (Nat.le_refl _) hlu, ?_, fun g hG e => ?_, h.out6, h.rows6⟩
  · have hon : OnlyP (fun g => V5.ownBlock = some g) wa w' := ⟨hg.os, hg.tape, hg.output, hg.size, fun q hq hP => hg.block q hq (fun e => hP e.symm)⟩
    refine ((h.t6.below hb).onlyP hon fun g hG e => ?_).wide (Nat.le_refl _) (by omega)
    rcases hG with hG | ⟨r, x, hx, hG⟩
    · exact h.sep g (.inl e) hG
    · have := (h.rows6 r x hx).2 g hG
      have := (hv5 g e).1
      omega
  · have h6 := hv6 g e
    rcases hG with hG | ⟨r, x, hx, hG⟩
    · rcases hat with a | a
      · rw [a] at hG; exact h.sep g (.inl hG) e
      · rw [a] at hG; have := Option.some.inj hG; omega
    · rcases Nat.lt_or_ge r vs5.length with c | c
      · rw [List.getElem?_append_left c] at hx
        exact h.sep g (.inr ⟨r, x, hx, hG⟩) e
      · rw [List.getElem?_append_right c] at hx
        have hz : r - vs5.length = 0 := by
          rcases Nat.eq_zero_or_pos (r - vs5.length) with e | e
          · exact e
          · rw [List.getElem?_eq_none (by simp; omega)] at hx; cases hx
        rw [hz] at hx
        obtain rfl : u = x := by simpa using hx
        have := (hr.1.lt g hG).1
        omega
theorem Two.row {l0 l1 k : Nat} {ps : List Value} {w wa w' : World} {V5 V6 u V' : Value} {vs5 vs6 : List Value} {X5 X6 : List (List Int)} {xs : List Int} (h : Two l0 l1 ps k w V5 vs5 X5 V6 vs6 X6) (hb : Below w.heap.size w wa)
    (hu : ps[k]? = some u) (hr : IntsIn l0 l1 wa u xs) (hl : l1 ≤ w.heap.size) (hap : ∀ (r r' : Nat) (x x' : Value) (g : Nat), ps[r]? = some x → ps[r']? = some x' → x.ownBlock = some g → x'.ownBlock = some g → r = r')
    (ho : w'.ownsRow l0 35 1 V' (X6.length + 1) (vs6 ++ [u])) (hg : wa.grownBy w' V6.ownBlock) (hat : V'.ownBlock = V6.ownBlock ∨ V'.ownBlock = some wa.heap.size) :
    Two l0 l1 ps (k + 1) w' V5 vs5 X5 V' (vs6 ++ [u]) (X6 ++ [xs]) := by
  have hs := hb.size
  have hz := hg.size
  refine ⟨?_, ?_, fun g hG e => ?_, fun g e => ?_, fun r x hx => ?_⟩
  · have hon : OnlyP (fun g => V6.ownBlock = some g) wa w' := ⟨hg.os, hg.tape, hg.output, hg.size, fun q hq hP => hg.block q hq (fun e => hP e.symm)⟩
    exact ((h.t5.below hb).onlyP hon fun g hG e => h.sep g hG e).wide (Nat.le_refl _) (by omega)
  · refine TabV.snocOld (((h.t6.below hb).wide (Nat.le_refl _) hs)) (hr.wide (Nat.le_refl _) (by omega)) (fun g e hG => ?_) ho hg hat (Nat.le_refl _)
    have hgl := hr.2 g e
    rcases hG with hG | ⟨r, x, hx, hG⟩
    · have := h.out6 g hG; omega
    · obtain ⟨⟨j, hj, hp⟩, _⟩ := h.rows6 r x hx
      have := hap j k x u g hp hu hG e
      omega
  · rcases hat with a | a
    · rw [a] at e; exact h.sep g hG e
    · rw [a] at e
      have := (h.t5.own_lt hG).2.1
      have := Option.some.inj e
      omega
  · rcases hat with a | a
    · rw [a] at e; exact h.out6 g e
    · rw [a] at e; have := Option.some.inj e; omega
  · rcases Nat.lt_or_ge r vs6.length with c | c
    · rw [List.getElem?_append_left c] at hx
      obtain ⟨⟨j, hj, hp⟩, h2⟩ := h.rows6 r x hx
      exact ⟨⟨j, by omega, hp⟩, h2⟩
    · rw [List.getElem?_append_right c] at hx
      have hz : r - vs6.length = 0 := by
        rcases Nat.eq_zero_or_pos (r - vs6.length) with e | e
        · exact e
        · rw [List.getElem?_eq_none (by simp; omega)] at hx; cases hx
      rw [hz] at hx
      obtain rfl : u = x := by simpa using hx
      exact ⟨⟨k, by omega, hu⟩, hr.2⟩
theorem Two.more {l0 l1 k : Nat} {ps : List Value} {w : World} {V5 V6 : Value} {vs5 vs6 : List Value} {X5 X6 : List (List Int)} (h : Two l0 l1 ps k w V5 vs5 X5 V6 vs6 X6) : Two l0 l1 ps (k + 1) w V5 vs5 X5 V6 vs6 X6 :=
  ⟨h.t5, h.t6, h.sep, h.out6, fun r u hu => by
    obtain ⟨⟨j, hj, hp⟩, h2⟩ := h.rows6 r u hu
    exact ⟨⟨j, by omega, hp⟩, h2⟩⟩

set_option maxRecDepth 100000 in
set_option maxHeartbeats 4000000 in
theorem specFindCertificate_any (s : Int) (A : Option Addr) (m cap : Nat) (xss : List (List Int)) (w : World) (h : RowsAt w A m xss) (hm : m ≤ 4611686018427387904)
    (hrows : ∀ (r : Nat) (xs : List Int), xss[r]? = some xs → xs.length ≤ 4611686018427387904) :
    Calls Try.prog 29 #[.agg #[.int .i64 s, .slice A m cap]] w (CertTo (findCertificate s xss) w) := by
  obtain ⟨i1, hi1, hy0, hy1, hy2⟩ := info_parts info_ints
  have HR := Lib.hid hrows
  have HM := Lib.hid h.1
  obtain ⟨W2, hW2⟩ : ∃ W2, W2 = (w.alloc (.cells #[.int .i64 s, .slice A m cap] 28)).alloc (.cells #[.int .i64 0, .slice none 0 0, .slice none 0 0] 41) := ⟨_, rfl⟩
  have b2 : Below w.heap.size w W2 := by rw [hW2]; go_grown
  have B2 := Lib.hid b2
  have HB2 := Lib.hid (show Box W2 w.heap.size [.int .i64 s, .slice A m cap] by rw [hW2]; exact Box.below (Box.new w _ _) ((Below.refl _ _).alloc (Nat.le_refl _) _))
  have xr : W2.heap[w.heap.size + 1]? = some (.cells #[.int .i64 0, .slice none 0 0, .slice none 0 0] 41 (0, 0)) := by
    have := heap_alloc_new (w.alloc (.cells #[.int .i64 s, .slice A m cap] 28)) (.cells #[.int .i64 0, .slice none 0 0, .slice none 0 0] 41)
    rw [World.size_alloc, ← hW2] at this
    exact this
  have HX2 := Lib.hid (h.below b2)
  have XR := Lib.hid xr
  have HW2 := Lib.hid hW2
  clear hrows b2 xr hW2 h
  rcases hok : okA s xss with _ | _
  · have HF := Lib.hid (findCertificate_1 hok)
    have c0 := HB2.out 0 _ rfl
    have c1 := HB2.out 1 _ rfl
    go_enter Try.func29, Try.ntmps29
    go_wp2_with fail
    rw [← HW2.out]
    refine (l01Ok_any w.heap.size s A m cap xss W2 (HB2.out 0 _ rfl) (HB2.out 1 _ rfl) HX2.out hm HR.out).mono ?_
    rw [hok]
    rintro e w1 ⟨rfl, d, hd⟩
    have b1 : Below W2.heap.size W2 w1 := by rw [hd]; exact below_drewN' (Below.refl _ _) d
    have xr := (b1.block _ (block_lt XR.out)).trans XR.out
    obtain ⟨e0, e1, e2, e3, e4, e5⟩ := box3_cells xr
    obtain ⟨g2, g3, g4⟩ := box3_set xr (.int .i64 0) (.slice none 0 0) (.slice none 0 0)
    have B1 := Lib.hid (below_then B2.out b1)
    clear b1 xr c0 c1 hd
    go_wp2_with fail
    refine bodyPost_ret (v := .tuple #[.agg #[.int .i64 0, .slice none 0 0, .slice none 0 0], .int .i64 1]) (by simp [results, Try.results29, go_sem, g2, g3, g4]) rfl ?_
    have hb9 := set3_below B1.out (Nat.le_succ _) (.int .i64 0) (.slice none 0 0) (.slice none 0 0)
    exact certTo_mk HF.out (cert_one _ (tab_nil _ _ _) hb9.size) hb9
  · obtain ⟨n, hsn, hg⟩ := good_of hok HM.out
    subst hsn
    have hn10 : n ≤ 10 := hg.n10
    have HG := Lib.hid hg
    have HF2 := Lib.hid (fun hl => findCertificate_2 hok HM.out hl)
    have HF0 := Lib.hid (fun hl => findCertificate_0 hok HM.out hl)
    have c0 := HB2.out 0 _ rfl
    have c1 := HB2.out 1 _ rfl
    clear hg
    go_enter Try.func29, Try.ntmps29
    go_wp2_with fail
    rw [← HW2.out]
    refine (l01Ok_any w.heap.size (n : Int) A m cap xss W2 (HB2.out 0 _ rfl) (HB2.out 1 _ rfl) HX2.out hm HR.out).mono ?_
    rw [hok]
    rintro e w1 ⟨rfl, d, hd⟩
    have b1 : Below W2.heap.size W2 w1 := by rw [hd]; exact below_drewN' (Below.refl _ _) d
    have XR1 := Lib.hid ((b1.block _ (block_lt XR.out)).trans XR.out)
    have B1 := Lib.hid (below_then B2.out b1)
    have HX1 := Lib.hid (HX2.out.below b1)
    have HB1 := Lib.hid (Box.below HB2.out b1)
    have q0 := HB1.out 0 _ rfl
    clear b1 c0 c1 hd hok
    go_wp2_with fail
    refine (l02Pairs_any n w1 hn10).mono ?_
    rintro e w3 ⟨u, rfl, ⟨ps, t3⟩, b3⟩
    obtain ⟨gs, hgs⟩ : ∃ gs, gs = prL n n := ⟨_, rfl⟩
    rw [← hgs] at t3
    obtain ⟨At, ct, rfl⟩ := own_form t3.out
    obtain ⟨N, hN⟩ : ∃ N, N = gs.length := ⟨_, rfl⟩
    rw [prT_len, ← hN] at t3 ⊢
    have hN100 : N ≤ 100 := by rw [hN, hgs]; exact prL_leS n hn10
    have HN := Lib.hid hN
    have HGS := Lib.hid hgs
    have HT3 := Lib.hid t3
    have HB3 := Lib.hid (below_then B1.out b3)
    have HX3 := Lib.hid (HX1.out.below b3)
    have HBX3 := Lib.hid (Box.below HB1.out b3)
    have XR3 := Lib.hid ((b3.block _ (block_lt XR1.out)).trans XR1.out)
    have HS13 := Lib.hid b3.size
    clear t3 b3 hgs hN q0
    have HTW := Lib.hid (show Two w1.heap.size w3.heap.size ps 0 ((w3.alloc (.cells #[] 35)).alloc (.cells #[] 35)) (.slice (some ⟨w3.heap.size, 0, none⟩) 0 0) [] [] (.slice (some ⟨w3.heap.size + 1, 0, none⟩) 0 0) [] [] by
      have a1 : Below w3.heap.size w3 (w3.alloc (.cells #[] 35)) := (Below.refl _ _).alloc (Nat.le_refl _) _
      have a2 : Below (w3.alloc (.cells #[] 35)).heap.size (w3.alloc (.cells #[] 35)) ((w3.alloc (.cells #[] 35)).alloc (.cells #[] 35)) := (Below.refl _ _).alloc (Nat.le_refl _) _
      have h5 := (tabV_made w3 w3.heap.size (Nat.le_refl _)).below a2
      have h6 := tabV_made (w3.alloc (.cells #[] 35)) w1.heap.size (by have := HS13.out; have := a1.size; omega)
      rw [World.size_alloc] at h6
      refine ⟨h5.wide (Nat.le_refl _) (by simp), h6.wide (Nat.le_refl _) (by simp), fun g hG e => ?_, fun g e => ?_, fun r u hu => ?_⟩
      · rcases hG with hG | ⟨r, u, hu, _⟩
        · simp [Value.ownBlock] at hG e; omega
        · simp at hu
      · simp [Value.ownBlock] at e; omega
      · simp at hu)
    have HAL := Lib.hid (show Below w3.heap.size w3 ((w3.alloc (.cells #[] 35)).alloc (.cells #[] 35)) from ((Below.refl _ _).alloc (Nat.le_refl _) _).alloc (by simp) _)
    go_wp2_with fail
    go_loopw [5, 6, 7] (fun v5 v6 iv wr => ∃ (k : Nat) (vs5 vs6 : List Value) (X5 X6 : List (List Int)), k ≤ N ∧ iv = .int .i64 k ∧ X5 = wdT n m xss (gs.take k) ∧ X6 = apT n m xss (gs.take k) ∧ X5.length = k ∧ X6.length ≤ k ∧ Two w1.heap.size w3.heap.size ps k wr v5 vs5 X5 v6 vs6 X6 ∧ Below w3.heap.size w3 wr) (fun _ _ iv _ => N - (intOf iv).toNat)
    case atStart => exact ⟨0, [], [], [], [], Nat.zero_le _, rfl, rfl, rfl, rfl, Nat.le_refl _, HTW.out, HAL.out⟩
    case round =>
      obtain ⟨k, vs5, vs6, X5, X6, hk, rfl, hX5, hX6, hl5, hl6, htwo, hbel⟩ := hrel
      obtain ⟨A5, C5, rfl⟩ := own_form htwo.t5.out
      obtain ⟨A6, C6, rfl⟩ := own_form htwo.t6.out
      have HTW := Lib.hid htwo
      have HB := Lib.hid hbel
      have H5 := Lib.hid hX5
      have H6 := Lib.hid hX6
      have HL5 := Lib.hid hl5
      have HL6 := Lib.hid hl6
      have q0 := (Box.below HBX3.out hbel) 0 _ rfl
      have q1 := (Box.below HBX3.out hbel) 1 _ rfl
      have hk0 : (0 : Int) ≤ (k : Int) := by omega
      clear htwo hbel hX5 hX6
      by_cases hlt : k < N
      · have hkn : (k : Int) < (N : Int) := by omega
        have h100 : X5.length ≤ 100 := by omega
        have h600 : X6.length ≤ 100 := by omega
        obtain ⟨⟨s, t⟩, hst⟩ : ∃ g, gs[k]? = some g := ⟨_, List.getElem?_eq_getElem (by rw [← HN.out]; exact hlt)⟩
        have hlim := prL_mem (show (s, t) ∈ prL n n by rw [← HGS.out]; exact List.mem_of_getElem? hst)
        have hrow := (HT3.out.below HB.out).row_of (k := k) (xs := [((s : Nat) : Int), ((t : Nat) : Int)]) (by unfold prT; rw [List.getElem?_map, hst]; rfl)
        obtain ⟨A', c', hpk, hir⟩ := hrow
        have hcell := (HT3.out.below HB.out).cell (r := k) (by rw [prT_len, ← HN.out]; exact hlt)
        obtain ⟨gT, u', rfl, hu', hcT⟩ := hcell
        rw [hpk] at hu'
        obtain rfl := Option.some.inj hu'
        have HIR := Lib.hid hir
        have HPK := Lib.hid hpk
        have HNI := Lib.hid (NumsAt.own hir.1 rfl rfl)
        have HRW := Lib.hid (show (prT gs)[k]? = some [((s : Nat) : Int), ((t : Nat) : Int)] by unfold prT; rw [List.getElem?_map, hst]; rfl)
        have HA1 := Lib.hid (apT_snoc (n := n) (m := m) (xss := xss) hst)
        have HW1 := Lib.hid (wdT_snoc (n := n) (m := m) (xss := xss) hst)
        have HIN := Lib.hid (pair_in (show s < n by omega) hlim.2.2)
        have HSP := Lib.hid (setN_pair s t)
        have HX9 := Lib.hid (show ∀ x ∈ [((s : Nat) : Int), ((t : Nat) : Int)], 0 ≤ x ∧ x < 10 from fun x hx => by
          simp only [List.mem_cons, List.not_mem_nil, or_false] at hx
          rcases hx with rfl | rfl <;> omega)
        clear hst hpk hir hl5 hl6 hu'
        simp only [List.length_cons, List.length_nil] at hcT HNI HIR HPK
        go_wp2_with fail
        refine (l02Bits_any (A') 2 c' [((s : Nat) : Int), ((t : Nat) : Int)] wr HNI.out HX9.out (by omega)).mono ?_
        rw [HSP.out]
        rintro e w' ⟨rfl, rfl⟩
        go_wp2_with fail
        refine (l02Shrink_any w.heap.size n m cap (pairB s t) A xss wr HG.out (HX3.out.below HB.out) q0 q1 HIN.out).mono ?_
        rintro e w4 ⟨u, rfl, o4, b4⟩
        obtain ⟨Z, hZ⟩ : ∃ Z, Z = (toldW (firstF mergedB (fnd n m xss 1024 (pairB s t)))).1 := ⟨_, rfl⟩
        obtain ⟨ok, hok⟩ : ∃ ok, ok = hitB (firstF mergedB (fnd n m xss 1024 (pairB s t))) := ⟨_, rfl⟩
        rw [← hZ] at o4 HW1
        rw [← hok] at HA1 ⊢
        obtain ⟨A7, C7, rfl⟩ := own_form o4
        have HI4 := Lib.hid (IntsIn.of o4)
        have HB4 := Lib.hid b4
        have HW4 := Lib.hid (below_then HB.out b4)
        have HLE := Lib.hid (show w3.heap.size ≤ w4.heap.size from HW4.out.size)
        have HT5 := Lib.hid (own_below HTW.out.t5.out b4)
        have HZ5 := Lib.hid (show wdT n m xss (gs.take (k + 1)) = X5 ++ [Z] by rw [HW1.out, H5.out])
        clear o4 b4 hZ hok q0 q1 hcT
        go_wp2_with (at_builtin; refine wpList_append_own_at _ rfl _ _ 22 rfl (w3.heap.size) 35 i1 (.slice none 0 0) 1 24 Try.underlying22 hi1 hy0 hy1 hy2 rfl (by decide) _ _ _ rfl (World.ownsRow.alloc (HT5.out) _) ⟨(w4).heap.size, 0, none⟩ 1 1 [.slice A7 Z.length C7] rfl rfl (cell_one_new _ _ _) (by simp [Value.oneCell']) (by unfold maxLen; omega) (by omega) (by rw [World.size_alloc]; exact Nat.le_succ_of_le HLE.out) ?_)
        intro v' w5 hown' hgrow _ hat
        have ba : Below w4.heap.size w4 (w4.alloc (.cells #[.slice A7 Z.length C7] 35)) := (Below.refl _ _).alloc (Nat.le_refl _) _
        have htw2 := Two.word HTW.out (below_then HB4.out ba) (HI4.out.below ba) ba.size HB.out.size hown' hgrow (by rw [World.size_alloc]; exact hat)
        rw [← HZ5.out] at htw2
        have HT2 := Lib.hid htw2
        have HB5 := Lib.hid (below_grown (below_then HW4.out ba) hgrow (fun g hg => (HTW.out.t5.out.lt g hg).1))
        clear hown' hgrow hat ba htw2 h100
        rcases ok with _ | _
        · have HZ6 := Lib.hid (show apT n m xss (gs.take (k + 1)) = X6 ++ [[((s : Nat) : Int), ((t : Nat) : Int)]] by rw [HA1.out, H6.out]; rfl)
          obtain ⟨A8, C8, rfl⟩ := own_form HT2.out.t5.out
          have hcT5 : w5.cell? ⟨gT, k, none⟩ = some (.slice A' 2 c') := by
            obtain ⟨g9, u9, e9, hu9, hc9⟩ := (HT3.out.below HB5.out).cell (r := k) (by rw [prT_len, ← HN.out]; exact hlt)
            simp only [Option.some.injEq, Addr.mk.injEq, and_true] at e9
            rw [HPK.out] at hu9
            obtain rfl := Option.some.inj hu9
            rw [e9]
            exact hc9
          have HIR5 := Lib.hid (show IntsIn w1.heap.size w3.heap.size w5 (.slice A' 2 c') [((s : Nat) : Int), ((t : Nat) : Int)] from by
            obtain ⟨a9, c9, h9, i9⟩ := (HT3.out.below HB5.out).row_of (k := k) (xs := [((s : Nat) : Int), ((t : Nat) : Int)]) HRW.out
            rw [HPK.out] at h9
            obtain h9 := Option.some.inj h9
            rw [← h9] at i9
            exact i9)
          have HLE5 := Lib.hid (show w1.heap.size ≤ w5.heap.size from Nat.le_trans HS13.out HB5.out.size)
          have HOB6 := Lib.hid HT2.out.t6.out
          go_wp2_with (at_builtin; refine wpList_append_own_at _ rfl _ _ 22 rfl (w1.heap.size) 35 i1 (.slice none 0 0) 1 24 Try.underlying22 hi1 hy0 hy1 hy2 rfl (by decide) _ _ _ rfl (World.ownsRow.alloc (HOB6.out) _) ⟨(w5).heap.size, 0, none⟩ 1 1 [.slice A' 2 c'] rfl rfl (cell_one_new _ _ _) (by simp [Value.oneCell']) (by unfold maxLen; omega) (by omega) (by rw [World.size_alloc]; exact Nat.le_succ_of_le HLE5.out) ?_)
          intro v9 w6 hown' hgrow _ hat
          have ba : Below w5.heap.size w5 (w5.alloc (.cells #[.slice A' 2 c'] 35)) := (Below.refl _ _).alloc (Nat.le_refl _) _
          have htw3 := Two.row HT2.out ba HPK.out (HIR5.out.below ba) HB5.out.size HT3.out.apart hown' hgrow (by rw [World.size_alloc]; exact hat)
          rw [← HZ6.out] at htw3
          have HT6 := Lib.hid htw3
          have HB6 := Lib.hid (below_grown (below_then HB5.out ba) hgrow (fun g hg => HT2.out.out6 g hg))
          clear hown' hgrow hat ba htw3 hcT5 h600
          go_wp2_with fail
          go_roundw
          case rel => exact ⟨k + 1, _, _, _, _, by omega, by go_num, rfl, rfl, by rw [HZ5.out, List.length_append, HL5.out]; rfl, by rw [HZ6.out, List.length_append]; have := HL6.out; simp; omega, HT6.out, HB6.out⟩
          case measure => simp [intOf]; omega
        · have HZ6 := Lib.hid (show apT n m xss (gs.take (k + 1)) = X6 by rw [HA1.out, H6.out, if_pos rfl, List.append_nil])
          clear h600
          go_wp2_with fail
          go_roundw
          case rel => exact ⟨k + 1, _, _, _, _, by omega, by go_num, rfl, HZ6.out.symm, by rw [HZ5.out, List.length_append, HL5.out]; rfl, by have := HL6.out; omega, HT2.out.more, HB5.out⟩
          case measure => simp [intOf]; omega
      · have hke : k = N := by omega
        have hkn : ¬ (k : Int) < (N : Int) := by omega
        have H5E := Lib.hid (show X5 = wdT n m xss (prL n n) by rw [H5.out, hke, HN.out, List.take_length, HGS.out])
        have H6E := Lib.hid (show X6 = apT n m xss (prL n n) by rw [H6.out, hke, HN.out, List.take_length, HGS.out])
        have HBW := Lib.hid (below_then HB3.out HB.out)
        clear hke hlt hl5 hl6 q0 q1
        by_cases hpos : 0 < X6.length
        · have hp1 : (0 : Int) < (X6.length : Int) := by omega
          have hF := HF2.out (by rw [← H6E.out]; exact hpos)
          rw [← H6E.out] at hF
          have HF := Lib.hid hF
          have HLW := Lib.hid (block_lt XR1.out)
          have HTI := Lib.hid (show TabIn w1.heap.size wr.heap.size wr (.slice A6 X6.length C6) X6 from ⟨vs6, HTW.out.t6⟩)
          have xr := (HB.out.block _ (block_lt XR3.out)).trans XR3.out
          obtain ⟨e0, e1, e2, e3, e4, e5⟩ := box3_cells xr
          obtain ⟨g2, g3, g4⟩ := box3_set xr (.int .i64 2) (.slice A6 X6.length C6) (.slice none 0 0)
          clear xr hpos hF
          go_wp2_with fail
          refine bodyPost_ret (v := .tuple #[.agg #[.int .i64 2, .slice A6 X6.length C6, .slice none 0 0], .int .i64 0]) (by simp [results, Try.results29, go_sem, g2, g3, g4]) rfl ?_
          have hb9 := set3_below HBW.out (Nat.le_succ _) (.int .i64 2) (.slice A6 X6.length C6) (.slice none 0 0)
          have ht9 := (HTI.out.only (set3_only wr (w.heap.size + 1) (.int .i64 2) (.slice A6 X6.length C6) (.slice none 0 0)) (.inr HLW.out)).wide (lo' := w.heap.size) (hi' := wr.heap.size) B1.out.size (Nat.le_refl _)
          rw [← set3_size wr (w.heap.size + 1) (.int .i64 2) (.slice A6 X6.length C6) (.slice none 0 0)] at ht9
          exact certTo_mk HF.out (cert_one _ ht9 hb9.size) hb9
        · have hp1 : ¬ (0 : Int) < (X6.length : Int) := by omega
          have hF := HF0.out (by rw [← H6E.out]; exact hpos)
          rw [← H5E.out] at hF
          have HF := Lib.hid hF
          have HLW := Lib.hid (block_lt XR1.out)
          have HTI := Lib.hid (show TabIn w3.heap.size wr.heap.size wr (.slice A5 X5.length C5) X5 from ⟨vs5, HTW.out.t5⟩)
          have xr := (HB.out.block _ (block_lt XR3.out)).trans XR3.out
          obtain ⟨e0, e1, e2, e3, e4, e5⟩ := box3_cells xr
          obtain ⟨g2, g3, g4⟩ := box3_set xr (.int .i64 1) (.slice none 0 0) (.slice A5 X5.length C5)
          clear xr hpos hF
          go_wp2_with fail
          refine bodyPost_ret (v := .tuple #[.agg #[.int .i64 1, .slice none 0 0, .slice A5 X5.length C5], .int .i64 0]) (by simp [results, Try.results29, go_sem, g2, g3, g4]) rfl ?_
          have hb9 := set3_below HBW.out (Nat.le_succ _) (.int .i64 1) (.slice none 0 0) (.slice A5 X5.length C5)
          have ht9 := (HTI.out.only (set3_only wr (w.heap.size + 1) (.int .i64 1) (.slice none 0 0) (.slice A5 X5.length C5)) (.inr (Nat.le_trans HLW.out HS13.out))).wide (lo' := w.heap.size) (hi' := wr.heap.size) HB3.out.size (Nat.le_refl _)
          rw [← set3_size wr (w.heap.size + 1) (.int .i64 1) (.slice none 0 0) (.slice A5 X5.length C5)] at ht9
          exact certTo_mk HF.out (cert_two _ ht9 hb9.size) hb9

end Go.Proofs.Ytcglncepmieaaaa
