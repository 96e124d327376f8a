/-
  The period: the contract of l01Period.
-/
import Derived.Test.YtkhhemlfahdbnabGcd
import Derived.Test.YtkhhemlfahdbnabDist
import Derived.Test.YtkhhemlfahdbnabConn
import Derived.Test.YtkhhemlfahdbnabTab
import Derived.StillTailTactics
import Derived.Deep.DeepCutAuto
namespace Go.Proofs.Ytkhhemlfahdbnab
open Go.RowKit Go.Deep Go.ChangeShapes Go.WideShapes

/-- By how much the letters miss the distances: for the states below k. -/
def difN (xss : List (List Int)) (d : Nat → Int) (s x : Nat) : Nat := (d s + 1 - d (nx xss x s)).toNat
def perL (m : Nat) (xss : List (List Int)) (d : Nat → Int) (k : Nat) : List Nat := (List.range k).flatMap fun s => (List.range m).map (difN xss d s)
theorem perL_succ (m : Nat) (xss : List (List Int)) (d : Nat → Int) (k : Nat) : perL m xss d (k + 1) = perL m xss d k ++ (List.range m).map (difN xss d k) := by
  unfold perL; rw [List.range_succ, List.flatMap_append]; simp
theorem perL_mem {m k y : Nat} {xss : List (List Int)} {d : Nat → Int} : y ∈ perL m xss d k ↔ ∃ s, s < k ∧ ∃ x, x < m ∧ difN xss d s x = y := by
  unfold perL; simp [List.mem_flatMap, List.mem_map, List.mem_range]
/-- Everything that is reached has a distance. -/
theorem far_reach {m s q : Nat} {xss : List (List Int)} {d : Nat → Int} (h : Far m xss s d) (hs : 0 ≤ d s) (hr : Reach m xss s q) : 0 ≤ d q := by
  obtain ⟨k, hk⟩ := h
  have hi := bfs_inv m xss s k
  rw [hk] at hi
  have := hr.closed (f := fun q => decide (0 ≤ d q)) (by simpa using hs) (fun q hq x hx => by
    have hq' : 0 ≤ d q := by simpa using hq
    have := (hi.past q hq' (by simp) x hx).1
    simpa using this)
  simpa using this
theorem joined_reach {n m q : Nat} {xss : List (List Int)} (hg : Good n m xss) (hj : Joined n m xss) (hq : q < n) : Reach m xss 0 q := by
  have h1 := hj 0 hg.n1
  rw [setL_full hg.n10 (fun q hq => reachF_lt hg hg.n1 hq)] at h1
  have h2 := h1 q hq
  unfold reachF at h2
  exact @of_decide_eq_true _ (Classical.propDecidable _) h2

/-- The model's search: what has been seen, and the distances. -/
structure SeenAt (n m : Nat) (xss : List (List Int)) (k : Nat) (d : Nat → Int) (S : List Nat) : Prop where
  all : ∀ q, q < n → (0 ≤ d q ↔ q ∈ S)
  len : S.length = cnt d
  lt : ∀ q ∈ S, q < n
  top : ∀ q, d q ≤ (cnt d : Int)
  first : 0 ∈ S
theorem SeenAt.new {n m k : Nat} {xss : List (List Int)} {d : Nat → Int} {S : List Nat} (h : SeenAt n m xss k d S) (hn : n ≤ 10) {tt now : Nat} (hto : tt < n) (hnow : now ∈ S) (hns : tt ∉ S) :
    SeenAt n m xss k (updI d tt (d now + 1)) (S ++ [tt]) := by
  have hd : ¬ 0 ≤ d tt := fun e => hns ((h.all tt hto).1 e)
  have hnw : 0 ≤ d now := (h.all now (h.lt now hnow)).2 hnow
  have hc : cnt (updI d tt (d now + 1)) = cnt d + 1 := cnt_new (by omega) (by omega) (by simp [fD]; intro _; omega)
  refine ⟨fun q hq => ?_, by rw [List.length_append, h.len, hc]; rfl, fun q hq => ?_, fun q => ?_, by simp [h.first]⟩
  · by_cases e : q = tt
    · subst e; rw [updI_same]; simp; omega
    · rw [updI_other _ e, h.all q hq]; simp [e]
  · simp only [List.mem_append, List.mem_singleton] at hq
    rcases hq with hq | rfl
    · exact h.lt q hq
    · exact hto
  · rw [hc]
    have h1 := h.top q
    have h2 := h.top now
    unfold updI
    split <;> omega
theorem has_ints (S : List Nat) (q : Nat) : hasB (ints S) (q : Int) = decide (q ∈ S) := by
  rw [Bool.eq_iff_iff]
  unfold hasB ints
  simp only [List.any_map, List.any_eq_true, Function.comp_apply, decide_eq_true_eq]
  constructor
  · rintro ⟨x, hx, e⟩
    have : x = q := by omega
    exact this ▸ hx
  · intro h; exact ⟨q, h, rfl⟩
theorem own_apart {w w' : World} {base : Nat} {e : TypeId} {v : Value} {n : Nat} {cs : List Value} {row : Option Nat} (h : w.ownsRow base e 1 v n cs) (hg : w.grownBy w' row) (hne : ∀ k, v.ownBlock = some k → row ≠ some k) : w'.ownsRow base e 1 v n cs :=
  h.kept hg (by
    rcases hv : v.ownBlock with _ | g
    · exact .inl rfl
    · exact .inr (fun e => hne g hv e.symm))
def farL (n : Nat) (d : Nat → Int) : List Int := (List.range n).map fun q => if d q < 0 then 0 else d q
theorem farL_len (n : Nat) (d : Nat → Int) : (farL n d).length = n := by simp [farL]
theorem farL_at {n q : Nat} {d : Nat → Int} (hq : q < n) : (farL n d)[q]? = some (if d q < 0 then 0 else d q) := by
  unfold farL; rw [List.getElem?_map, List.getElem?_range hq]; rfl
theorem farL_set {n q : Nat} {d : Nat → Int} {v : Int} (hq : q < n) (hv : 0 ≤ v) : (farL n d).set q v = farL n (updI d q v) := by
  apply List.ext_getElem?
  intro i
  rw [List.getElem?_set, farL_len]
  by_cases h : q = i
  · subst h; rw [if_pos rfl, if_pos hq, farL_at hq, updI_same, if_neg (by omega)]
  · rw [if_neg h]
    rcases Nat.lt_or_ge i n with a | a
    · rw [farL_at a, farL_at a, updI_other _ (fun e => h e.symm)]
    · rw [List.getElem?_eq_none (by rw [farL_len]; exact a), List.getElem?_eq_none (by rw [farL_len]; exact a)]
theorem farL_0 (n : Nat) : farL n (updI (fun _ => -1) 0 0) = List.replicate n 0 := by
  apply List.ext_getElem?
  intro i
  rw [List.getElem?_replicate]
  rcases Nat.lt_or_ge i n with a | a
  · rw [farL_at a, if_pos a]; unfold updI; split <;> simp
  · rw [List.getElem?_eq_none (by rw [farL_len]; exact a), if_neg (by omega)]

set_option maxRecDepth 100000 in
set_option maxHeartbeats 4000000 in
theorem l01Period_any (p : Nat) (A : Option Addr) (n m cap : Nat) (xss : List (List Int)) (w : World) (hg : Good n m xss) (hj : Joined n m xss) (c0 : w.cell? ⟨p, 0, none⟩ = some (.int .i64 (n : Int))) (c1 : w.cell? ⟨p, 1, none⟩ = some (.slice A m cap)) (hR : RowsAt w A m xss) :
    Calls Try.prog 89 #[.pointer (some ⟨p, 0, none⟩)] w fun e w' => (∃ d, Far m xss 0 d ∧ e = .returned (.int .i64 ((gcdL (perL m xss d n) : Nat) : Int))) ∧ Below w.heap.size w w' := by
  obtain ⟨i0, hi, hz0, hz1, hz2⟩ := info_parts info_int64
  have hn10 : n ≤ 10 := hg.n10
  have hn1 : 0 < n := hg.n1
  have hm3 : m ≤ 3 := hg.m3
  have HG := Lib.hid hg
  have HJ := Lib.hid hj
  have C0 := Lib.hid c0
  have C1 := Lib.hid c1
  have HRR := Lib.hid hR
  have hmk := run_make_row' (P := Try.prog) 64 2 (.int .i64 0) 8 Try.underlying64 info_int64 rfl .i64 .i64 n (by omega) (by omega)
  obtain ⟨W2, hW2⟩ : ∃ W2, W2 = (w.alloc (.cells (madeCells #[.int .i64 0] n) 2)).alloc (.cells #[.int .i64 0] 2) := ⟨_, rfl⟩
  have b2 : Below w.heap.size w W2 := by rw [hW2]; exact ((Below.refl _ w).alloc (Nat.le_refl _) _).alloc (by simp) _
  have hf2 : W2.ownsRow w.heap.size 2 1 (.slice (some ⟨w.heap.size, 0, none⟩) n n) n ((farL n (updI (fun _ => -1) 0 0)).map (Value.int .i64)) := by
    rw [farL_0 n, ← made_zeros, hW2]
    exact World.ownsRow.alloc (World.ownsRow_lit w _ n (Nat.le_refl _) (by unfold maxLen; omega) (by rw [size_madeCells, Nat.mul_one])) _
  have hs2 : W2.ownsRow (w.heap.size + 1) 2 1 (.slice (some ⟨w.heap.size + 1, 0, none⟩) 1 1) 1 ((ints [0]).map (Value.int .i64)) := by
    have := World.ownsRow_lit (e := 2) (size := 1) (base := w.heap.size + 1) (w.alloc (.cells (madeCells #[.int .i64 0] n) 2)) #[.int .i64 0] 1 (by simp) (by decide) rfl
    rw [World.size_alloc] at this
    rw [hW2]; exact this
  have HB2 := Lib.hid b2
  have HF2 := Lib.hid hf2
  have HS2 := Lib.hid hs2
  have HZ2 := Lib.hid (show w.heap.size + 2 ≤ W2.heap.size by rw [hW2]; simp)
  have HW2 := Lib.hid hW2
  clear hg hj c1 hR b2 hf2 hs2 hW2
  go_enter Try.func89, Try.ntmps89
  go_wp2_with fail
  rw [← HW2.out]
  clear hmk c0
  go_loopw [4, 5] (fun v i wr => ∃ (k : Nat) (d : Nat → Int) (T S : List Nat), i = .int .i64 k ∧ bfs m xss 0 k = (d, T) ∧ S.drop k = T ∧ k ≤ S.length ∧ SeenAt n m xss k d S ∧ wr.ownsRow w.heap.size 2 1 (.slice (some ⟨w.heap.size, 0, none⟩) n n) n ((farL n d).map (Value.int .i64)) ∧
      wr.ownsRow (w.heap.size + 1) 2 1 v S.length ((ints S).map (Value.int .i64)) ∧ Below w.heap.size w wr ∧ w.heap.size + 2 ≤ wr.heap.size) (fun _ i _ => 11 - (intOf i).toNat)
  case atStart =>
    refine ⟨0, updI (fun _ => -1) 0 0, [0], [0], rfl, rfl, rfl, by simp, ⟨fun q hq => ?_, ?_, fun q hq => ?_, fun q => ?_, by simp⟩, HF2.out, HS2.out, HB2.out, HZ2.out⟩
    · unfold updI; by_cases e : q = 0 <;> simp [e]
    · have h1 : cnt (updI (fun _ => -1) 0 0) = 1 := by
        unfold cnt
        rw [fD_start (by omega), setL_gap (f := fun _ => false) 10 (by omega) (fun _ _ _ => rfl)]; simp [setL]
      rw [h1]; rfl
    · simp at hq; omega
    · have h1 : cnt (updI (fun _ => -1) 0 0) = 1 := by
        unfold cnt
        rw [fD_start (by omega), setL_gap (f := fun _ => false) 10 (by omega) (fun _ _ _ => rfl)]; simp [setL]
      rw [h1]; unfold updI; split <;> simp
  case round =>
    obtain ⟨k, d0, T0, S0, rfl, hbf, hdr, hks, hsa, hfar, hseen, hbel, hsz⟩ := hrel
    have hcl := cnt_le d0
    have hs10 : S0.length ≤ 10 := by rw [hsa.len]; exact hcl
    have hil : (ints S0).length = S0.length := by simp [ints]
    obtain ⟨A3, c3, rfl⟩ := own_form hseen
    have HBF := Lib.hid hbf
    have HDR := Lib.hid hdr
    have HSA := Lib.hid hsa
    have HFA := Lib.hid hfar
    have HSE := Lib.hid hseen
    have HBL := Lib.hid hbel
    have HSZ := Lib.hid hsz
    clear hbf hdr hsa hfar hseen hbel hsz hcl
    by_cases hkl : k < S0.length
    · obtain ⟨now, hnow⟩ : ∃ now, S0[k]? = some now := ⟨S0[k], List.getElem?_eq_getElem hkl⟩
      have hnS : now ∈ S0 := List.mem_of_getElem? hnow
      have hnn : now < n := HSA.out.lt now hnS
      obtain ⟨T1, hT1⟩ : ∃ T1, T1 = S0.drop (k + 1) := ⟨_, rfl⟩
      have hT0 : T0 = now :: T1 := by
        rw [← HDR.out, hT1, List.drop_eq_getElem_cons hkl]
        rw [List.getElem?_eq_getElem hkl] at hnow
        rw [Option.some.inj hnow]
      have HT0 := Lib.hid hT0
      have HT1 := Lib.hid hT1
      have HNW := Lib.hid hnow
      have HNS := Lib.hid hnS
      clear hil hnow hnS hT1 hT0
      go_wp2_with fail
      go_loopw [4, 6] (fun v i wi => ∃ (x : Nat) (d : Nat → Int) (T S : List Nat), x ≤ m ∧ i = .int .i64 x ∧ rowB x xss now (d0, T1) = (d, T) ∧ S.drop (k + 1) = T ∧ k + 1 ≤ S.length ∧ S[k]? = some now ∧ SeenAt n m xss k d S ∧ wi.ownsRow w.heap.size 2 1 (.slice (some ⟨w.heap.size, 0, none⟩) n n) n ((farL n d).map (Value.int .i64)) ∧
          wi.ownsRow (w.heap.size + 1) 2 1 v S.length ((ints S).map (Value.int .i64)) ∧ Below w.heap.size w wi ∧ w.heap.size + 2 ≤ wi.heap.size) (fun _ i _ => m - (intOf i).toNat)
      case atStart => exact ⟨0, d0, T1, S0, Nat.zero_le _, rfl, rfl, HT1.out.symm, by omega, HNW.out, HSA.out, HFA.out, HSE.out, HBL.out, HSZ.out⟩
      case round =>
        obtain ⟨x, d, T, S, hx, rfl, hrb, hdr, hks1, hnow, hsa, hfar, hseen, hbel, hsz⟩ := hrel
        have hs10' : S.length ≤ 10 := by rw [hsa.len]; exact cnt_le d
        obtain ⟨A4, c4, rfl⟩ := own_form hseen
        have d0' : wr.cell? ⟨p, 0, none⟩ = some (.int .i64 (n : Int)) := (hbel.cell (cell_lt C0.out)).trans C0.out
        have d1' : wr.cell? ⟨p, 1, none⟩ = some (.slice A m cap) := (hbel.cell (cell_lt C1.out)).trans C1.out
        have HRB := Lib.hid hrb
        have HDR := Lib.hid hdr
        have HN1 := Lib.hid hnow
        have HSA := Lib.hid hsa
        have HFA := Lib.hid hfar
        have HSE := Lib.hid hseen
        have HBL := Lib.hid hbel
        have HSZ := Lib.hid hsz
        clear hrb hdr hnow hsa hfar hseen hbel hsz
        by_cases hlt : x < m
        · have hto := HG.out.nextD hlt hnn
          obtain ⟨b, off1, b2, off2, cr, hA, hcr, hcells⟩ := row_base HG.out (HRR.out.below HBL.out) hlt
          have hct := hcells now hnn
          obtain ⟨tt, ht⟩ : ∃ tt, tt = nx xss x now := ⟨_, rfl⟩
          rw [← ht] at hto hct
          have HNT := Lib.hid (NumsAt.own HSE.out (by simp [ints]) rfl)
          obtain ⟨y, b3, off3, hy, hA4, hcy⟩ := HNT.out.at_ (k := k) (by omega)
          have hyn : y = (now : Int) := by
            have : (ints S)[k]? = some ((now : Nat) : Int) := by unfold ints; rw [List.getElem?_map, HN1.out]; rfl
            rw [this] at hy; exact (Option.some.inj hy).symm
          subst hyn
          have HTO := Lib.hid ht
          subst hA
          subst hA4
          have i1 : (0 : Int) ≤ (x : Int) := by omega
          have i2 : (x : Int) < (m : Int) := by omega
          have i3 : (0 : Int) ≤ (k : Int) := by omega
          have i4 : (k : Int) < (S.length : Int) := by omega
          have i5 : (0 : Int) ≤ (now : Int) := by omega
          have i6 : (now : Int) < (n : Int) := by omega
          clear hcells hy ht
          go_wp2_with fail
          go_quiet (fail)
          go_wp2_with fail
          refine (l00Has_any _ S.length c4 (ints S) (tt : Int) _ (HNT.out.drewN _) (by omega)).mono ?_
          rw [has_ints]
          rintro e w5 ⟨rfl, hw5⟩
          have b5 : Below wr.heap.size wr w5 := by rw [← hw5]; exact below_drewN' (Below.refl _ _) _
          have HFA5 := Lib.hid (own_below HFA.out b5)
          have HSE5 := Lib.hid (own_below HSE.out b5)
          have HBL5 := Lib.hid (below_then HBL.out b5)
          have HSZ5 := Lib.hid (Nat.le_trans HSZ.out b5.size)
          have g0 : w5.cell? ⟨b3, off3 + k, none⟩ = some (.int .i64 (now : Int)) := (b5.cell (cell_lt hcy)).trans hcy
          clear hw5 hct hcr hcy
          by_cases hin : tt ∈ S
          · have HIN := Lib.hid hin
            have hdn : ¬ d tt < 0 := by have := (HSA.out.all tt hto).2 hin; omega
            have hde : decide (tt ∈ S) = true := by simpa using hin
            rw [hde]
            clear hin hde g0
            go_wp2_with fail
            clear b5
            go_roundw
            case rel => exact ⟨x + 1, d, T, S, by omega, by go_num, rowB_old HRB.out (by rw [← HTO.out]; omega), HDR.out, hks1, HN1.out, HSA.out, HFA5.out, HSE5.out, HBL5.out, HSZ5.out⟩
            case measure => simp [intOf]; omega
          · have HIN := Lib.hid hin
            have hdn : d tt < 0 := by
              rcases Int.lt_or_le (d tt) 0 with a | a
              · exact a
              · exact absurd ((HSA.out.all tt hto).1 a) hin
            have hde : decide (tt ∈ S) = false := by simpa using hin
            rw [hde]
            have hnS : now ∈ S := List.mem_of_getElem? HN1.out
            have hdnow : 0 ≤ d now := (HSA.out.all now hnn).2 hnS
            have htop := HSA.out.top now
            have hcl := cnt_le d
            have g1 : w5.cell? ⟨w.heap.size, now, none⟩ = some (.int .i64 (d now)) := by
              rw [HFA5.out.cellAt now (by omega), List.getElem?_map, farL_at hnn, if_neg (by omega)]; rfl
            obtain ⟨z, hz⟩ : ∃ z, w5.cell? ⟨w.heap.size, tt, none⟩ = some z := by
              rw [HFA5.out.cellAt tt (by omega)]; exact ⟨_, List.getElem?_eq_getElem (by simp [farL_len]; omega)⟩
            have hfz : w5.frozen? ⟨w.heap.size, tt, none⟩ = false := HFA5.out.frozenAt tt
            have HFA6 := Lib.hid (show (w5.setCell ⟨w.heap.size, tt, none⟩ (.int .i64 (d now + 1))).ownsRow w.heap.size 2 1 (.slice (some ⟨w.heap.size, 0, none⟩) n n) n ((farL n (updI d tt (d now + 1))).map (Value.int .i64)) by
              have := (HFA5.out.stored tt (.int .i64 (d now + 1))).1
              rwa [← List.map_set, farL_set hto (by omega)] at this)
            have HSN := Lib.hid (HSA.out.new hn10 hto hnS hin)
            have HRB1 := Lib.hid (show rowB (x + 1) xss now (d0, T1) = (updI d tt (d now + 1), T ++ [tt]) by rw [HTO.out]; exact rowB_new HRB.out (by rw [← HTO.out]; omega))
            have hon := only_setCell w5 w.heap.size tt (.int .i64 (d now + 1))
            have hsb : ∀ g, (Value.slice (some ⟨b3, off3, none⟩) S.length c4).ownBlock = some g → w.heap.size + 1 ≤ g := fun g hg => (HSE5.out.lt g hg).1
            have HSB := Lib.hid hsb
            have HSE6 := Lib.hid (hon.own HSE5.out (fun g hg => .inr (hsb g hg)))
            have HBL6 := Lib.hid (HBL5.out.setCell (p := ⟨w.heap.size, tt, none⟩) (Nat.le_refl _) (.int .i64 (d now + 1)))
            obtain ⟨W6, hW6⟩ : ∃ W6, W6 = w5.setCell ⟨w.heap.size, tt, none⟩ (.int .i64 (d now + 1)) := ⟨_, rfl⟩
            rw [← hW6] at HFA6 HSE6 HBL6
            have HSZ6 := Lib.hid (show w.heap.size + 2 ≤ W6.heap.size by rw [hW6, World.size_setCell]; exact HSZ5.out)
            have HW6 := Lib.hid hW6
            have j1 : (0 : Int) ≤ (tt : Int) := by omega
            have j2 : (tt : Int) < (n : Int) := by omega
            have hd10 : d now ≤ 10 := by omega
            clear hin hde hsb hW6 hon htop
            go_upto_region 12 with fail
            rw [← HW6.out]
            go_wp2_with (at_builtin; refine wpList_append_own _ rfl _ _ 64 rfl (w.heap.size + 1) 2 i0 (.int .i64 0) 1 8 Try.underlying64 hi hz0 hz1 hz2 rfl (by decide) _ _ _ rfl (World.ownsRow.alloc (HSE6.out) _) ⟨(W6).heap.size, 0, none⟩ 1 1 [.int .i64 (tt : Int)] rfl rfl (cell_one_new _ _ _) (ones_i64 [(tt : Int)]) (by unfold maxLen; omega) (by omega) (by rw [World.size_alloc]; exact Nat.le_succ_of_le ((by have := HSZ6.out; omega))) ?_)
            intro v' w7 hown' hgrow _
            have ba : Below W6.heap.size W6 (W6.alloc (.cells #[.int .i64 (tt : Int)] 2)) := (Below.refl _ _).alloc (Nat.le_refl _) _
            have HFA7 := Lib.hid (own_apart (own_below HFA6.out ba) hgrow (fun g hg e => by
              simp [Value.ownBlock] at hg
              have := HSB.out g e
              omega))
            have HSE7 := Lib.hid hown'
            have HBL7 := Lib.hid (below_grown (below_then HBL6.out ba) hgrow (fun g hg => by have := HSB.out g hg; omega))
            have HSZ7 := Lib.hid (show w.heap.size + 2 ≤ w7.heap.size by have := hgrow.size; have := ba.size; have := HSZ6.out; omega)
            clear hown' hgrow ba
            go_wp2_with fail
            go_roundw
            case rel =>
              refine ⟨x + 1, updI d tt (d now + 1), T ++ [tt], S ++ [tt], by omega, by go_num, HRB1.out, ?_, by rw [List.length_append]; omega, ?_, HSN.out, HFA7.out, ?_, HBL7.out, HSZ7.out⟩
              · rw [List.drop_append_of_le_length (by omega), HDR.out]
              · rw [List.getElem?_append_left (by omega)]; exact HN1.out
              · have := HSE7.out
                rw [List.length_append]
                unfold ints at this ⊢
                simpa using this
            case measure => simp [intOf]; omega
        · have hxm : x = m := by omega
          have HXM := Lib.hid hxm
          clear hxm
          go_wp2_with fail
          go_roundw
          case rel =>
            refine ⟨k + 1, d, T, S, by go_num, ?_, HDR.out, by omega, ⟨HSA.out.all, HSA.out.len, HSA.out.lt, HSA.out.top, HSA.out.first⟩, HFA.out, HSE.out, HBL.out, HSZ.out⟩
            rw [bfs_pop (by rw [HBF.out, HT0.out]), ← HXM.out]
            exact HRB.out
          case measure => simp [intOf]; omega
    · have hke : k = S0.length := by omega
      have hT : T0 = [] := by rw [← HDR.out, hke, List.drop_length]
      have hfa : Far m xss 0 d0 := ⟨k, by rw [HBF.out, hT]⟩
      have hall : ∀ q, q < n → 0 ≤ d0 q := fun q hq => far_reach hfa ((HSA.out.all 0 hn1).2 HSA.out.first) (joined_reach HG.out HJ.out hq)
      have HALL := Lib.hid hall
      have HFAR := Lib.hid hfa
      have htop : ∀ q, d0 q ≤ 10 := fun q => by have h1 := HSA.out.top q; have h2 := cnt_le d0; omega
      have HTOP := Lib.hid htop
      clear hT hfa hall htop hil hke
      go_wp2_with fail
      go_loopw [8, 9] (fun g i wr' => ∃ s : Nat, s ≤ n ∧ i = .int .i64 s ∧ g = .int .i64 ((gcdL (perL m xss d0 s) : Nat) : Int) ∧ wr'.ownsRow w.heap.size 2 1 (.slice (some ⟨w.heap.size, 0, none⟩) n n) n ((farL n d0).map (Value.int .i64)) ∧ Below w.heap.size w wr') (fun _ i _ => n - (intOf i).toNat)
      case atStart => exact ⟨0, Nat.zero_le _, rfl, rfl, HFA.out, HBL.out⟩
      case round =>
        obtain ⟨s, hs, rfl, rfl, hfar, hbel⟩ := hrel
        have d0' : World.cell? ‹World› ⟨p, 0, none⟩ = some (.int .i64 (n : Int)) := (hbel.cell (cell_lt C0.out)).trans C0.out
        have HFA1 := Lib.hid hfar
        have HBL1 := Lib.hid hbel
        clear hfar hbel
        by_cases hsn : s < n
        · go_wp2_with fail
          go_loopw [8, 10] (fun g i wr' => ∃ x : Nat, x ≤ m ∧ i = .int .i64 x ∧ g = .int .i64 ((gcdL (perL m xss d0 s ++ (List.range x).map (difN xss d0 s)) : Nat) : Int) ∧ wr'.ownsRow w.heap.size 2 1 (.slice (some ⟨w.heap.size, 0, none⟩) n n) n ((farL n d0).map (Value.int .i64)) ∧ Below w.heap.size w wr') (fun _ i _ => m - (intOf i).toNat)
          case atStart => exact ⟨0, Nat.zero_le _, rfl, by simp, HFA1.out, HBL1.out⟩
          case round =>
            obtain ⟨x, hx, rfl, rfl, hfar, hbel⟩ := hrel
            have d0'' : World.cell? ‹World› ⟨p, 0, none⟩ = some (.int .i64 (n : Int)) := (hbel.cell (cell_lt C0.out)).trans C0.out
            have d1' : World.cell? ‹World› ⟨p, 1, none⟩ = some (.slice A m cap) := (hbel.cell (cell_lt C1.out)).trans C1.out
            have HFA2 := Lib.hid hfar
            have HBL2 := Lib.hid hbel
            clear hfar hbel
            by_cases hxm : x < m
            · have htt := HG.out.nextD hxm hsn
              obtain ⟨b, off1, b2, off2, cr, hA, hcr, hcells⟩ := row_base HG.out (HRR.out.below HBL2.out) hxm
              have hct := hcells s hsn
              obtain ⟨δ, hδ⟩ : ∃ δ, δ = difN xss d0 s x := ⟨_, rfl⟩
              have HDL := Lib.hid hδ
              obtain ⟨u, hu⟩ : ∃ u, u = nx xss x s := ⟨_, rfl⟩
              rw [← hu] at htt hct
              have h1 := HALL.out s hsn
              have h2 := HALL.out u htt
              have h3 := HTOP.out s
              have h4 := HTOP.out u
              have h5 : d0 u ≤ d0 s + 1 := by rw [hu]; exact HFAR.out.step h1 hxm
              have hde : d0 s + 1 - d0 u = (δ : Int) := by rw [hδ]; unfold difN; rw [← hu]; omega
              have hw1 : IntKind.i64.wrap (d0 s + 1) = d0 s + 1 := IntWalk.i64_in _ (by omega)
              have hw2 : IntKind.i64.wrap (d0 s + 1 - d0 u) = (δ : Int) := by rw [IntWalk.i64_in _ (by omega), hde]
              have hdl : δ ≤ 11 := by omega
              have f1 : World.cell? ‹World› ⟨w.heap.size, s, none⟩ = some (.int .i64 (d0 s)) := by
                rw [HFA2.out.cellAt s (by omega), List.getElem?_map, farL_at hsn, if_neg (by omega)]; rfl
              have f2 : World.cell? ‹World› ⟨w.heap.size, u, none⟩ = some (.int .i64 (d0 u)) := by
                rw [HFA2.out.cellAt u (by omega), List.getElem?_map, farL_at htt, if_neg (by omega)]; rfl
              obtain ⟨D1, hD1⟩ : ∃ D1, D1 = d0 s := ⟨_, rfl⟩
              obtain ⟨D2, hD2⟩ : ∃ D2, D2 = d0 u := ⟨_, rfl⟩
              rw [← hD1] at f1 hw1 hw2
              rw [← hD2] at f2 hw2
              have hneg : decide ((δ : Int) < 0) = false := by rw [decide_eq_false_iff_not]; omega
              obtain ⟨g, hg⟩ : ∃ g, g = gcdL (perL m xss d0 s ++ (List.range x).map (difN xss d0 s)) := ⟨_, rfl⟩
              have hgb : g ≤ 1000000 := by
                rw [hg]
                refine Nat.le_trans (gcdL_le (b := 11) (fun y hy => ?_)) (by omega)
                rcases List.mem_append.1 hy with hy | hy
                · obtain ⟨s', hs', x', hx', rfl⟩ := perL_mem.1 hy
                  have a1 := HTOP.out s'
                  have a2 := HALL.out (nx xss x' s') (HG.out.nextD hx' (by omega))
                  unfold difN; omega
                · rw [List.mem_map] at hy
                  obtain ⟨x', hx', rfl⟩ := hy
                  have a1 := HTOP.out s
                  have a2 := HALL.out (nx xss x' s) (HG.out.nextD (by have := List.mem_range.1 hx'; omega) hsn)
                  unfold difN; omega
              have HGG := Lib.hid hg
              subst hA
              have i1 : (0 : Int) ≤ (x : Int) := by omega
              have i2 : (x : Int) < (m : Int) := by omega
              have i3 : (0 : Int) ≤ (s : Int) := by omega
              have i4 : (s : Int) < (n : Int) := by omega
              have i5 : (0 : Int) ≤ (u : Int) := by omega
              have i6 : (u : Int) < (n : Int) := by omega
              rw [← hg]
              clear hcells hδ hu h1 h2 h3 h4 h5 hde hD1 hD2 hg
              go_wp2_with fail
              go_quiet (fail)
              clear hw1 hw2
              go_wp2_with fail
              refine (l01Gcd_any g δ _ hgb (by omega)).mono ?_
              rintro e w5 ⟨rfl, hw5⟩
              have b5 : Below wr.heap.size wr w5 := by rw [← hw5]; exact below_drewN' (Below.refl _ _) _
              have HFA5 := Lib.hid (own_below HFA2.out b5)
              have HBL5 := Lib.hid (below_then HBL2.out b5)
              clear hw5 b5 f1 f2 hct hcr
              go_wp2_with fail
              go_roundw
              case rel =>
                refine ⟨x + 1, by omega, by go_num, ?_, HFA5.out, HBL5.out⟩
                rw [List.range_succ, List.map_append, ← List.append_assoc, List.map_cons, List.map_nil, gcdL_snoc, ← HGG.out, ← HDL.out]
              case measure => simp [intOf]; omega
            · have hxe : x = m := by omega
              have HXE := Lib.hid hxe
              clear hxe
              go_wp2_with fail
              go_roundw
              case rel => exact ⟨s + 1, by omega, by go_num, by rw [perL_succ, ← HXE.out], HFA2.out, HBL2.out⟩
              case measure => simp [intOf]; omega
        · have hse : s = n := by omega
          have HSE' := Lib.hid hse
          clear hse
          go_wp2_with fail
          go_ret
          exact ⟨⟨d0, HFAR.out, ret_int (by rw [HSE'.out])⟩, HBL1.out⟩

end Go.Proofs.Ytkhhemlfahdbnab
