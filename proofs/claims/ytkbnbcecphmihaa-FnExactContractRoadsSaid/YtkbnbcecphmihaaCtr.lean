/-
  Contracted roads: what ContractRoads answers, and the contract of the model's.
-/
import Derived.Test.YtkbnbcecphmihaaLed
import Derived.Test.YtkbnbcecphmihaaRoadO
import Derived.Test.YtkbnbcecphmihaaSame
import Derived.Deep.DeepCutAuto
import Derived.Deep.RegionLaw
namespace Go.Proofs.Ytkbnbcecphmihaa
open Go.RowKit Go.Deep Go.ChangeShapes Go.WideShapes

def lrow (xss : List (List Int)) (cls : List Int) (s : Nat) : List Int := ledF cls (xss.getD s [])
def tabK (xss : List (List Int)) (cls : List Int) (k : Nat) : List (List Int) := (leastK cls k).map fun s => lrow xss cls s.toNat
theorem tabK_len (xss : List (List Int)) (cls : List Int) (k : Nat) : (tabK xss cls k).length = cntK cls k := by simp [tabK, leastK_len]
theorem tabK_eq {xss : List (List Int)} {cls : List Int} {k : Nat} {c : Int} (hc : cls[k]? = some c) (h : c = (cntK cls k : Int)) : tabK xss cls (k + 1) = tabK xss cls k ++ [lrow xss cls k] := by
  unfold tabK; rw [leastK_eq hc h, List.map_append]; simp
theorem tabK_ne {xss : List (List Int)} {cls : List Int} {k : Nat} {c : Int} (hc : cls[k]? = some c) (h : ¬ c = (cntK cls k : Int)) : tabK xss cls (k + 1) = tabK xss cls k := by
  unfold tabK; rw [leastK_ne hc h]
theorem cnt_monoC (cls : List Int) : ∀ d k, cntK cls k ≤ cntK cls (k + d) := by
  intro d k
  induction d with
  | zero => exact Nat.le_refl _
  | succ d ih =>
    refine Nat.le_trans ih ?_
    rw [← Nat.add_assoc]
    conv => rhs; unfold cntK
    split <;> omega
theorem leastK_pre {cls : List Int} {k c : Nat} (h : c < cntK cls k) : ∀ d, (leastK cls (k + d))[c]? = (leastK cls k)[c]?
  | 0 => rfl
  | d + 1 => by
    have ih := leastK_pre h d
    have hm := cnt_monoC cls d k
    rw [← Nat.add_assoc, leastK]
    split
    · rw [List.getElem?_append_left (by rw [leastK_len]; omega)]; exact ih
    · exact ih
theorem tabK_at {xss : List (List Int)} {cls : List Int} {n k c : Nat} (hd : DivOk n cls) (hk : k ≤ n) (hc : c < cntK cls k) : (tabK xss cls k)[c]? = some (lrow xss cls (lst cls n c)) := by
  have h1 := leastK_pre hc (n - k)
  rw [show k + (n - k) = n by omega] at h1
  have hm := cnt_monoC cls (n - k) k
  rw [show k + (n - k) = n by omega] at hm
  have h2 := (hd.least c (by omega)).1
  unfold tabK
  rw [List.getElem?_map, ← h1, h2]
  simp
theorem lst_new {cls : List Int} {n k : Nat} (hd : DivOk n cls) (hk : k < n) (hc : cls[k]? = some ((cntK cls k : Nat) : Int)) : lst cls n (cntK cls k) = k := by
  have e := leastK_eq hc rfl
  have hlt : cntK cls k < cntK cls (k + 1) := by rw [cntK_eq hc rfl]; omega
  have h1 := leastK_pre hlt (n - (k + 1))
  rw [show k + 1 + (n - (k + 1)) = n by omega, e, List.getElem?_append_right (by rw [leastK_len]; exact Nat.le_refl _), leastK_len, Nat.sub_self] at h1
  have hm := cnt_monoC cls (n - (k + 1)) (k + 1)
  rw [show k + 1 + (n - (k + 1)) = n by omega] at hm
  have h2 := (hd.least (cntK cls k) (by omega)).1
  rw [h1] at h2
  simp at h2
  omega
theorem div_leC {n : Nat} {cls : List Int} (h : divB (n : Int) cls = true) {j : Nat} (hj : j < n) : cl cls j ≤ cntK cls j := by
  simp only [divB, Bool.and_eq_true, List.all_eq_true, List.mem_range, decide_eq_true_eq] at h
  obtain ⟨hall, hlen⟩ := h
  have hl : cls.length = n := by omega
  subst hl
  have h1 := hall j hj
  rw [divAt_is (List.getElem?_eq_getElem hj)] at h1
  have h2 : 0 ≤ cls[j] ∧ cls[j] ≤ (cntK cls j : Int) := by simpa [inB] using h1
  have e : cl cls j = (cls[j]).toNat := by simp [cl, List.getD, List.getElem?_eq_getElem hj]
  rw [e]; omega
/-- The roads of the towns of one class lead to the same classes. -/
def CtrOk (n : Nat) (xss : List (List Int)) (cls : List Int) : Prop := ∀ j, j < n → lrow xss cls j = lrow xss cls (lst cls n (cl cls j))
noncomputable def ctrB (n : Nat) (xss : List (List Int)) (cls : List Int) : Bool := @decide (CtrOk n xss cls) (Classical.propDecidable _)
theorem ctrB_t {n : Nat} {xss : List (List Int)} {cls : List Int} (h : CtrOk n xss cls) : ctrB n xss cls = true := by
  unfold ctrB; exact @decide_eq_true _ (Classical.propDecidable _) h
theorem ctrB_f {n j : Nat} {xss : List (List Int)} {cls : List Int} (hj : j < n) (h : ¬ lrow xss cls j = lrow xss cls (lst cls n (cl cls j))) : ctrB n xss cls = false := by
  unfold ctrB; exact @decide_eq_false _ (Classical.propDecidable _) (fun hh => h (hh j hj))
/-- What ContractRoads answers. -/
noncomputable def contractRoads (s : Int) (xss : List (List Int)) (cls : List Int) : Int × List (List Int) × Int :=
  if okR s xss = true then (if divB s cls = true then (if ctrB s.toNat xss cls = true then ((cntK cls s.toNat : Int), tabK xss cls s.toNat, 0) else (0, [], 4)) else (0, [], 2)) else (0, [], 1)
theorem contractRoads_1 {s : Int} {xss : List (List Int)} {cls : List Int} (h : okR s xss = false) : contractRoads s xss cls = (0, [], 1) := by unfold contractRoads; rw [if_neg (by simp [h])]
theorem contractRoads_2 {s : Int} {xss : List (List Int)} {cls : List Int} (h : okR s xss = true) (h' : divB s cls = false) : contractRoads s xss cls = (0, [], 2) := by unfold contractRoads; rw [if_pos h, if_neg (by simp [h'])]
theorem contractRoads_4 {n : Nat} {xss : List (List Int)} {cls : List Int} (h : okR (n : Int) xss = true) (h' : divB (n : Int) cls = true) (h2 : ctrB n xss cls = false) : contractRoads (n : Int) xss cls = (0, [], 4) := by
  unfold contractRoads; rw [if_pos h, if_pos h', Int.toNat_natCast, if_neg (by simp [h2])]
theorem contractRoads_0 {n : Nat} {xss : List (List Int)} {cls : List Int} (h : okR (n : Int) xss = true) (h' : divB (n : Int) cls = true) (h2 : ctrB n xss cls = true) : contractRoads (n : Int) xss cls = ((cntK cls n : Int), tabK xss cls n, 0) := by
  unfold contractRoads; rw [if_pos h, if_pos h', Int.toNat_natCast, if_pos h2]
theorem sumLens_le {xss : List (List Int)} {b : Nat} (h : ∀ xs ∈ xss, xs.length ≤ b) : sumLens xss ≤ xss.length * b := by
  induction xss with
  | nil => simp [sumLens]
  | cons a l ih =>
    have h1 := h a (List.mem_cons_self ..)
    have h2 := ih (fun xs hx => h xs (List.mem_cons_of_mem _ hx))
    unfold sumLens at h2 ⊢
    rw [List.map_cons, List.sum_cons, List.length_cons, Nat.add_mul, Nat.one_mul]; omega
theorem lrow_le {n m : Nat} {xss : List (List Int)} (hg : GoodR n m xss) (cls : List Int) (s : Nat) : (lrow xss cls s).length ≤ 3 := by
  unfold lrow
  rw [ledF_len, List.getD_eq_getElem?_getD]
  rcases Nat.lt_or_ge s n with h | h
  · obtain ⟨xs, h1, h2, _⟩ := hg.row s h
    rw [h1]
    show xs.length ≤ 3
    have := hg.m3; omega
  · rw [List.getElem?_eq_none (by rw [hg.len]; exact h)]; exact Nat.zero_le _
theorem contractRoads_len (s : Int) (xss : List (List Int)) (cls : List Int) : (contractRoads s xss cls).2.1.length ≤ 10 := by
  unfold contractRoads
  split
  · rename_i hok
    obtain ⟨m, hs, _, hg⟩ := goodR_of hok rfl
    split
    · split
      · show (tabK xss cls s.toNat).length ≤ 10
        rw [tabK_len]
        have := cntK_le cls s.toNat
        have := hg.n7
        omega
      · exact Nat.zero_le _
    · exact Nat.zero_le _
  · exact Nat.zero_le _
theorem contractRoads_sum (s : Int) (xss : List (List Int)) (cls : List Int) : sumLens (contractRoads s xss cls).2.1 ≤ 30 := by
  have h := contractRoads_len s xss cls
  have hle : ∀ xs ∈ (contractRoads s xss cls).2.1, xs.length ≤ 3 := by
    unfold contractRoads
    split
    · rename_i hok
      obtain ⟨m, hs, _, hg⟩ := goodR_of hok rfl
      split
      · split
        · intro xs hx
          have hx' : xs ∈ tabK xss cls s.toNat := hx
          unfold tabK at hx'
          rw [List.mem_map] at hx'
          obtain ⟨t, _, rfl⟩ := hx'
          exact lrow_le hg cls _
        · intro xs hx; simp at hx
      · intro xs hx; simp at hx
    · intro xs hx; simp at hx
  have := sumLens_le hle
  omega
theorem GoodR.at_ {n m : Nat} {xss : List (List Int)} (hg : GoodR n m xss) {cls : List Int} {k : Nat} (hk : k < n) : ∃ row, xss[k]? = some row ∧ row.length = m ∧ (∀ x ∈ row, 0 ≤ x ∧ x < (n : Int)) ∧ lrow xss cls k = ledF cls row := by
  obtain ⟨row, h1, h2, h3, _⟩ := hg.row k hk
  exact ⟨row, h1, h2, h3, by unfold lrow; rw [List.getD_eq_getElem?_getD, h1]; rfl⟩

set_option maxRecDepth 100000 in
set_option maxHeartbeats 8000000 in
theorem specContractRoads_any (s : Int) (A : Option Addr) (n cap : Nat) (xss : List (List Int)) (A2 : Option Addr) (l c2 : Nat) (cls : List Int) (w : World) (h : RowsAt w A n xss) (hn : n ≤ 4611686018427387904)
    (hrows : ∀ (r : Nat) (xs : List Int), xss[r]? = some xs → xs.length ≤ 4611686018427387904) (h2 : NumsAt w A2 l cls) (hl : l ≤ 1048576) :
    Calls Try.prog 45 #[.agg #[.int .i64 s, .slice A n cap], .slice A2 l c2] w (AutosTo (contractRoads s xss cls) w) := by
  have HR := Lib.hid hrows
  have HM := Lib.hid h.1
  obtain ⟨i1, hi1, hy0, hy1, hy2⟩ := info_parts info_ints
  obtain ⟨W2, hW2⟩ : ∃ W2, W2 = (w.alloc (.cells #[.int .i64 s, .slice A n cap] 27)).alloc (.cells #[.int .i64 0, .slice none 0 0] 27) := ⟨_, rfl⟩
  have b2 : Below w.heap.size w W2 := by rw [hW2]; go_grown
  have x0 : W2.cell? ⟨w.heap.size, 0, none⟩ = some (.int .i64 s) := by rw [hW2]; go_cell
  have x1 : W2.cell? ⟨w.heap.size, 1, none⟩ = some (.slice A n cap) := by rw [hW2]; go_cell
  have xr : W2.heap[w.heap.size + 1]? = some (.cells #[.int .i64 0, .slice none 0 0] 27 (0, 0)) := by
    have := heap_alloc_new (w.alloc (.cells #[.int .i64 s, .slice A n cap] 27)) (.cells #[.int .i64 0, .slice none 0 0] 27)
    rw [World.size_alloc, ← hW2] at this
    exact this
  have B2 := Lib.hid b2
  have H2 := Lib.hid (h.below b2)
  have N2 := Lib.hid (h2.below b2)
  have XR := Lib.hid xr
  have HW2 := Lib.hid hW2
  clear hrows b2 xr hW2 h h2
  go_enter Try.func45, Try.ntmps45
  go_wp2_with fail
  rw [← HW2.out]
  refine (l05Ok_any w.heap.size s A n cap xss _ x0 x1 H2.out hn HR.out).mono ?_
  rcases hok : okR s xss with _ | _
  · have HF := Lib.hid (contractRoads_1 (cls := cls) hok)
    rintro e w1 ⟨rfl, d, hw1⟩
    have b1 : Below W2.heap.size W2 w1 := by rw [hw1]; exact below_drewN' (Below.refl _ _) d
    clear hw1
    have xr := (b1.block _ (block_lt XR.out)).trans XR.out
    obtain ⟨e0, e1, e2, e3⟩ := box2_cellsR xr
    have B1 := Lib.hid (below_then B2.out b1)
    obtain ⟨g2, g3⟩ := box2_setR xr (.int .i64 0) (.slice none 0 0)
    clear b1 xr x0 x1
    go_wp2_with fail
    refine bodyPost_ret (v := .tuple #[.agg #[.int .i64 0, .slice none 0 0], .int .i64 1]) (by simp [results, Try.results45, go_sem, g2, g3]) rfl ?_
    exact autosTo_mk HF.out (tab_nil _ _ _) ((B1.out.setCell (by simp; try omega) _).setCell (by simp; try omega) _)
  · obtain ⟨m, hsn, _, hg⟩ := goodR_of hok HM.out
    subst hsn
    have HG := Lib.hid hg
    have hn1 : 1 ≤ n := hg.n1
    have hn7 : n ≤ 7 := hg.n7
    have hm1 : 1 ≤ m := hg.m1
    have hm3 : m ≤ 3 := hg.m3
    clear hg
    rintro e w1 ⟨rfl, d, hw1⟩
    have b1 : Below W2.heap.size W2 w1 := by rw [hw1]; exact below_drewN' (Below.refl _ _) d
    clear hw1
    have x0' : w1.cell? ⟨w.heap.size, 0, none⟩ = some (.int .i64 (n : Int)) := (b1.cell (cell_lt x0)).trans x0
    have x1' : w1.cell? ⟨w.heap.size, 1, none⟩ = some (.slice A n cap) := (b1.cell (cell_lt x1)).trans x1
    have xr := (b1.block _ (block_lt XR.out)).trans XR.out
    have H1 := Lib.hid (H2.out.below b1)
    have HN1 := Lib.hid (N2.out.below b1)
    have B1 := Lib.hid (below_then B2.out b1)
    have XR1 := Lib.hid xr
    have HOK := Lib.hid hok
    clear b1 xr x0 x1 hok
    rcases hdv : divB (n : Int) cls with _ | _
    · have HF := Lib.hid (contractRoads_2 HOK.out hdv)
      obtain ⟨e0, e1, e2, e3⟩ := box2_cellsR XR1.out
      obtain ⟨g2, g3⟩ := box2_setR XR1.out (.int .i64 0) (.slice none 0 0)
      go_wp2_with (go_at_call 93; refine (l01Division_any A2 l c2 cls (n : Int) _ HN1.out hl).mono ?_; rw [hdv]; rintro e w' ⟨rfl, rfl⟩)
      refine bodyPost_ret (v := .tuple #[.agg #[.int .i64 0, .slice none 0 0], .int .i64 2]) (by simp [results, Try.results45, go_sem, g2, g3]) rfl ?_
      exact autosTo_mk HF.out (tab_nil _ _ _) ((B1.out.setCell (by simp; try omega) _).setCell (by simp; try omega) _)
    · have HDV := Lib.hid hdv
      have HDO := Lib.hid (divOk_of hdv)
      have HLN := Lib.hid (show l = n by have h1 := HN1.out.1; have h2 := HDO.out.len; omega)
      obtain ⟨OB, hOB⟩ : ∃ OB, OB = w1.heap.size := ⟨_, rfl⟩
      have hRB : w.heap.size + 1 < OB := by rw [hOB]; exact block_lt XR1.out
      obtain ⟨w3, hw3⟩ : ∃ w3, w3 = w1.alloc (.cells #[.int .i64 0, .slice none 0 0] 27) := ⟨_, rfl⟩
      have b3 : Below w1.heap.size w1 w3 := by rw [hw3]; exact (Below.refl _ _).alloc (Nat.le_refl _) _
      have xo : w3.heap[OB]? = some (.cells #[.int .i64 0, .slice none 0 0] 27 (0, 0)) := by rw [hw3, hOB]; exact heap_alloc_new _ _
      have HXO := Lib.hid xo
      have HXR := Lib.hid ((b3.block _ (block_lt XR1.out)).trans XR1.out)
      have HRB := Lib.hid hRB
      have C1 := Lib.hid x1'
      have HBW1 := Lib.hid b3
      have HOB1 := Lib.hid hOB
      have HN3 := Lib.hid (HN1.out.below b3)
      clear xo hRB b3
      go_wp2_with (go_at_call 93; refine (l01Division_any A2 l c2 cls (n : Int) _ HN1.out hl).mono ?_; rw [hdv]; rintro e w' ⟨rfl, rfl⟩)
      rw [← hw3, ← hOB]
      clear hw3 hOB x0' x1' hdv
      go_loopw [7] (fun i wr => ∃ (k : Nat) (v : Value) (vs : List Value), k ≤ n ∧ i = .int .i64 k ∧ wr.heap[w.heap.size + 1]? = some (.cells #[.int .i64 0, .slice none 0 0] 27 (0, 0)) ∧ wr.heap[OB]? = some (.cells #[.int .i64 ((cntK cls k : Nat) : Int), v] 27 (0, 0)) ∧
          TabV (OB + 1) wr.heap.size wr v vs (tabK xss cls k) ∧ (∀ j, j < k → lrow xss cls j = lrow xss cls (lst cls n (cl cls j))) ∧ Below w1.heap.size w1 wr) (fun i _ => n - (intOf i).toNat)
      case atStart => exact ⟨0, .slice none 0 0, [], Nat.zero_le _, rfl, HXR.out, HXO.out, tabV_nil _ _ _, fun j hj => absurd hj (Nat.not_lt_zero _), HBW1.out⟩
      case round =>
        obtain ⟨k, v, vs, hk, rfl, hxr, hxo, htab, hall, hbel⟩ := hrel
        obtain ⟨Y, hY⟩ : ∃ Y, Y = tabK xss cls k := ⟨_, rfl⟩
        rw [← hY] at htab
        obtain ⟨A3, c3, rfl⟩ := own_form htab.out
        have HY := Lib.hid hY
        have HYL := Lib.hid (show Y.length = cntK cls k by rw [hY, tabK_len])
        have X1 := Lib.hid hxr
        have X2 := Lib.hid hxo
        have HT := Lib.hid htab
        have HB := Lib.hid hbel
        have HALL := Lib.hid hall
        have y1 : wr.cell? ⟨w.heap.size, 1, none⟩ = some (.slice A n cap) := (hbel.cell (cell_lt C1.out)).trans C1.out
        have hck := cntK_le cls k
        clear hxr hxo htab hall hY
        by_cases hlt : k < n
        · have ik1 : (k : Int) < (l : Int) := by have := HLN.out; omega
          obtain ⟨row, hrow, hrl, hrb, hlr⟩ := HG.out.at_ (cls := cls) hlt
          have HLR := Lib.hid hlr
          have HRL := Lib.hid hrl
          go_wp2_with fail
          refine (l05Led_any w.heap.size A A2 n m cap l c2 k xss row cls wr y1 (H1.out.below hbel) hrow hrl (HN1.out.below hbel) hm1 (by omega) (by rw [HLN.out]; exact hrb)).mono ?_
          rintro e w2 ⟨u, rfl, o2, b2⟩
          obtain ⟨A5, c5, rfl⟩ := own_form o2
          have O2 := Lib.hid o2
          have D2 := Lib.hid b2
          have HD2 := Lib.hid (below_then hbel b2)
          have Y1 := Lib.hid ((b2.block _ (block_lt X1.out)).trans X1.out)
          have Y2 := Lib.hid ((b2.block _ (block_lt X2.out)).trans X2.out)
          have HT2 := Lib.hid (HT.out.below b2)
          obtain ⟨b0, b1', f0, f1⟩ := box2_cellsR Y2.out
          obtain ⟨ck, bc, offc, hck2, hAc, hcc⟩ := (HN1.out.below HD2.out).at_ (k := k) (by have := HLN.out; omega)
          have hcat := HDO.out.at_ k hlt
          rw [hck2] at hcat
          obtain rfl := Option.some.inj hcat
          have hcle := div_leC HDV.out hlt
          have HCK := Lib.hid hck2
          subst hAc
          clear hrow hrl hrb hlr o2 b2 hck2 hbel y1 hcat
          have HZW := Lib.hid (show OB + 1 ≤ wr.heap.size from block_lt X2.out)
          have HZ2 := Lib.hid (show OB + 1 ≤ w2.heap.size from Nat.le_trans HZW.out D2.out.size)
          by_cases heq : cl cls k = cntK cls k
          · have hbe : (((cl cls k : Nat) : Int) == ((cntK cls k : Nat) : Int)) = true := by rw [beq_iff_eq]; omega
            obtain ⟨CN, hCN⟩ : ∃ CN : Int, CN = ((cntK cls k + 1 : Nat) : Int) := ⟨_, rfl⟩
            have hcn : IntKind.i64.wrap (((cntK cls k : Nat) : Int) + 1) = CN := by rw [hCN, show ((cntK cls k : Nat) : Int) + 1 = ((cntK cls k + 1 : Nat) : Int) by omega]; exact IntWalk.i64_in _ (by omega)
            have HCN := Lib.hid hCN
            have HCT := Lib.hid (cntK_eq HCK.out (show ((cl cls k : Nat) : Int) = (cntK cls k : Int) by omega))
            have HTT := Lib.hid (tabK_eq (xss := xss) HCK.out (show ((cl cls k : Nat) : Int) = (cntK cls k : Int) by omega))
            have HNL := Lib.hid (show lrow xss cls k = lrow xss cls (lst cls n (cl cls k)) by rw [heq, lst_new HDO.out hlt (by rw [HCK.out, heq])])
            clear heq hCN
            go_wp2_with fail
            go_quiet (fail)
            obtain ⟨W3, hW3⟩ : ∃ W3, W3 = w2.drewN nq := ⟨_, rfl⟩
            rw [← hW3]
            have b3 : Below w2.heap.size w2 W3 := by rw [hW3]; exact below_drewN' (Below.refl _ _) _
            have V1 := Lib.hid ((b3.block _ (block_lt Y1.out)).trans Y1.out)
            have V2 := Lib.hid ((b3.block _ (block_lt Y2.out)).trans Y2.out)
            have HO3 := Lib.hid (own_below O2.out b3)
            have HB3 := Lib.hid (below_then HD2.out b3)
            have HT4 := Lib.hid ((HT2.out.below b3).only (only_setCell W3 OB 0 (.int .i64 CN)) (.inr (Nat.le_refl _)))
            have HZ3 := Lib.hid (show w2.heap.size ≤ W3.heap.size from b3.size)
            obtain ⟨d0, d1, g0, g1⟩ := box2_cellsR V2.out
            have HZ4 := Lib.hid (show OB + 1 ≤ (W3.setCell ⟨OB, 0, none⟩ (.int .i64 CN)).heap.size by rw [World.size_setCell]; exact Nat.le_trans HZ2.out b3.size)
            have hyl : Y.length ≤ 7 := by rw [HYL.out]; omega
            clear hW3 b3 b0 b1' f0 f1 hcc hbe
            have HNW := Lib.hid (show ∀ (j : Nat) (z : Value), [Value.slice A5 m c5][j]? = some z → ((W3.setCell ⟨OB, 0, none⟩ (.int .i64 CN)).alloc (.cells #[.slice A5 m c5] 55)).cell? ((⟨W3.heap.size, 0, none⟩ : Addr).add j) = some z by
              have h := cell_one_new (W3.setCell ⟨OB, 0, none⟩ (.int .i64 CN)) (.slice A5 m c5) 55
              rw [World.size_setCell] at h
              exact h)
            go_wp2_with (at_builtin; refine wpList_append_own_at _ rfl _ _ 22 rfl (OB + 1) 55 i1 (.slice none 0 0) 1 24 Try.underlying22 hi1 hy0 hy1 hy2 rfl (by decide) _ _ _ rfl (World.ownsRow.alloc HT4.out.out _) ⟨W3.heap.size, 0, none⟩ 1 1 [.slice A5 m c5] rfl rfl HNW.out (by simp [Value.oneCell']) (by unfold maxLen; omega) (by omega) (by rw [World.size_alloc]; exact Nat.le_succ_of_le HZ4.out) ?_)
            intro v' w5 hown' hgrow _ hat
            have z4 : (W3.setCell ⟨OB, 0, none⟩ (.int .i64 CN)).heap.size = W3.heap.size := World.size_setCell _ _ _
            have ba : Below (W3.setCell ⟨OB, 0, none⟩ (.int .i64 CN)).heap.size (W3.setCell ⟨OB, 0, none⟩ (.int .i64 CN)) ((W3.setCell ⟨OB, 0, none⟩ (.int .i64 CN)).alloc (.cells #[.slice A5 m c5] 55)) := (Below.refl _ _).alloc (Nat.le_refl _) _
            have hrow : IntsIn wr.heap.size w2.heap.size (W3.setCell ⟨OB, 0, none⟩ (.int .i64 CN)) (.slice A5 m c5) (lrow xss cls k) := by
              rw [HLR.out]
              have h3 : IntsIn wr.heap.size w2.heap.size W3 (.slice A5 m c5) (ledF cls row) := ⟨by rw [ledF_len]; exact HRL.out ▸ HO3.out, fun q hq => (O2.out.lt q hq).2⟩
              exact h3.only (only_setCell W3 OB 0 (.int .i64 CN)) (.inr HZW.out)
            have htab2 := TabV.snoc (HT4.out.below ba) (hrow.below ba) hown' hgrow (by rw [World.size_alloc, World.size_setCell]; exact hat) HZW.out (Nat.le_refl _) (by have := ba.size; have := HZ3.out; omega)
            rw [HY.out, ← HTT.out] at htab2
            have hvn : ∀ q, (Value.slice A3 Y.length c3).ownBlock = some q → OB + 1 ≤ q := fun q hq => (HT.out.out.lt q hq).1
            have hx : ∀ z (c : Obj), (W3.setCell ⟨OB, 0, none⟩ (.int .i64 CN)).heap[z]? = some c → z < OB + 1 → w5.heap[z]? = some c := fun z c hc hz =>
              (hgrow.block _ (Nat.lt_of_lt_of_le (block_lt hc) ba.size) (fun e => by have := hvn _ e.symm; omega)).trans ((ba.block _ (block_lt hc)).trans hc)
            have U1 := Lib.hid (hx _ _ (show (W3.setCell ⟨OB, 0, none⟩ (.int .i64 CN)).heap[w.heap.size + 1]? = some (.cells #[.int .i64 0, .slice none 0 0] 27 (0, 0)) by rw [heap_setCell_other W3 ⟨OB, 0, none⟩ _ _ (by have := HRB.out; simp; omega)]; exact V1.out) (by have := HRB.out; omega))
            have U2 := Lib.hid (hx _ _ (show (W3.setCell ⟨OB, 0, none⟩ (.int .i64 CN)).heap[OB]? = some (.cells #[.int .i64 CN, .slice A3 Y.length c3] 27 (0, 0)) by rw [heap_setCell_same W3 OB 0 _ _ _ V2.out]; rfl) (by omega))
            have HT5 := Lib.hid htab2
            have hob1 := HOB1.out
            have HB4 : Below w1.heap.size w1 (W3.setCell ⟨OB, 0, none⟩ (.int .i64 CN)) := by exact HB3.out.setCell (by simp; omega) _
            have HB5 := Lib.hid (below_grown (below_then HB4 ba) hgrow (fun q hq => by have := hvn q hq; omega))
            obtain ⟨_, h51, _, f51⟩ := box2_cellsR U2.out
            clear hown' hgrow hat ba hrow htab2 hvn hx hob1 HB4 z4 d0 d1 g0 g1
            obtain ⟨A6, c6, rfl⟩ := own_form HT5.out.out
            go_wp2_with fail
            go_roundw
            case rel =>
              have hon := only_setCell w5 OB 1 (.slice A6 (tabK xss cls (k + 1)).length c6)
              have hob1 := HOB1.out
              refine ⟨k + 1, .slice A6 (tabK xss cls (k + 1)).length c6, vs ++ [.slice A5 m c5], by omega, by go_num, ?_, ?_, ?_, ?_, HB5.out.setCell (by simp; omega) _⟩
              · rw [heap_setCell_other w5 ⟨OB, 1, none⟩ _ _ (by have := HRB.out; simp; omega)]; exact U1.out
              · rw [heap_setCell_same w5 OB 1 _ _ _ U2.out, HCT.out, ← HCN.out]; rfl
              · rw [World.size_setCell]
                exact HT5.out.only hon (.inr (Nat.le_refl _))
              · intro j hj
                rcases Nat.lt_or_ge j k with a | a
                · exact HALL.out j a
                · obtain rfl : j = k := by omega
                  exact HNL.out
            case measure => simp [intOf]; omega
          · have hbe : (((cl cls k : Nat) : Int) == ((cntK cls k : Nat) : Int)) = false := by rw [beq_eq_false_iff_ne]; omega
            have hclt : cl cls k < cntK cls k := by omega
            have HCT := Lib.hid (cntK_ne HCK.out (show ¬ ((cl cls k : Nat) : Int) = (cntK cls k : Int) by omega))
            have HTT := Lib.hid (tabK_ne (xss := xss) HCK.out (show ¬ ((cl cls k : Nat) : Int) = (cntK cls k : Int) by omega))
            have hta := tabK_at (xss := xss) HDO.out (show k ≤ n by omega) hclt
            rw [← HY.out] at hta
            clear heq
            go_wp2_with fail
            go_quiet (fail)
            obtain ⟨W3, hW3⟩ : ∃ W3, W3 = w2.drewN nq := ⟨_, rfl⟩
            rw [← hW3]
            have b3 : Below w2.heap.size w2 W3 := by rw [hW3]; exact below_drewN' (Below.refl _ _) _
            have V1 := Lib.hid ((b3.block _ (block_lt Y1.out)).trans Y1.out)
            have V2 := Lib.hid ((b3.block _ (block_lt Y2.out)).trans Y2.out)
            have HO3 := Lib.hid (own_below O2.out b3)
            have HB3 := Lib.hid (below_then HD2.out b3)
            have HT3 := Lib.hid ((HT2.out.below b3).wide (Nat.le_refl _) (Nat.le_trans D2.out.size b3.size))
            have hcc3 := (b3.cell (cell_lt hcc)).trans hcc
            obtain ⟨d0, d1, g0, g1⟩ := box2_cellsR V2.out
            obtain ⟨row2, bt, offt, A7, c7, hr2, hAt, hct, hnt⟩ := (TabIn.rows ⟨vs, HT3.out⟩ rfl : RowsAt W3 A3 Y.length Y).at_ (r := cl cls k) (by rw [HYL.out]; exact hclt)
            rw [hta] at hr2
            obtain rfl := Option.some.inj hr2
            subst hAt
            have HNT := Lib.hid hnt
            have HNO := Lib.hid (show NumsAt W3 A5 m (ledF cls row) from NumsAt.own HO3.out (by rw [ledF_len]; exact HRL.out) rfl)
            have j1 : (0 : Int) ≤ ((cl cls k : Nat) : Int) := by omega
            have j2 : ((cl cls k : Nat) : Int) < (Y.length : Int) := by rw [HYL.out]; omega
            have hl2 : (lrow xss cls (lst cls n (cl cls k))).length ≤ 4611686018427387904 := by have := lrow_le HG.out cls (lst cls n (cl cls k)); omega
            clear hW3 b3 b0 b1' f0 f1 hcc hbe hta hr2 hnt d0
            by_cases hsame : lrow xss cls (lst cls n (cl cls k)) = ledF cls row
            · have hs : sameB (lrow xss cls (lst cls n (cl cls k))) (ledF cls row) = true := sameB_t hsame
              have HSM := Lib.hid hsame
              clear hsame
              go_wp2_with fail
              go_quiet ((go_at_call 95; exact Calls.quiet_of (l00Same_any _ _ _ _ _ _ _ _ _ (HNT.out.drewN _) (HNO.out.drewN _) hl2 (by omega))))
              go_wp2_with fail
              go_roundw
              case rel =>
                refine ⟨k + 1, .slice (some ⟨bt, offt, none⟩) Y.length c3, vs, by omega, by go_num, V1.out, ?_, ?_, ?_, below_drewN' HB3.out _⟩
                · rw [HCT.out]; exact V2.out
                · rw [HTT.out, ← HY.out]; exact HT3.out.below (below_drewN' (Below.refl _ _) _)
                · intro j hj
                  rcases Nat.lt_or_ge j k with a | a
                  · exact HALL.out j a
                  · obtain rfl : j = k := by omega
                    rw [HLR.out, HSM.out]
              case measure => simp [intOf]; omega
            · have hs : sameB (lrow xss cls (lst cls n (cl cls k))) (ledF cls row) = false := sameB_f hsame
              have HF := Lib.hid (contractRoads_4 HOK.out HDV.out (ctrB_f hlt (by rw [HLR.out]; exact fun e => hsame e.symm)))
              obtain ⟨e0, e1, e2, e3⟩ := box2_cellsR V1.out
              clear hsame
              go_wp2_with fail
              go_quiet ((go_at_call 95; exact Calls.quiet_of (l00Same_any _ _ _ _ _ _ _ _ _ (HNT.out.drewN _) (HNO.out.drewN _) hl2 (by omega))))
              obtain ⟨W6, hW6⟩ : ∃ W6, W6 = W3.drewN nq := ⟨_, rfl⟩
              rw [← hW6]
              have e06 : W6.cell? ⟨w.heap.size + 1, 0, none⟩ = some (.int .i64 0) := by rw [hW6]; exact e0
              have e16 : W6.cell? ⟨w.heap.size + 1, 1, none⟩ = some (.slice none 0 0) := by rw [hW6]; exact e1
              have e26 : W6.frozen? ⟨w.heap.size + 1, 0, none⟩ = false := by rw [hW6]; exact e2
              have e36 : W6.frozen? ⟨w.heap.size + 1, 1, none⟩ = false := by rw [hW6]; exact e3
              obtain ⟨g2, g3⟩ := box2_setR (show W6.heap[w.heap.size + 1]? = some (.cells #[.int .i64 0, .slice none 0 0] 27 (0, 0)) by rw [hW6]; exact V1.out) (.int .i64 0) (.slice none 0 0)
              have B6 := Lib.hid (show Below w.heap.size w W6 by rw [hW6]; exact below_drewN' (below_then B1.out HB3.out) _)
              clear hW6 e0 e1 e2 e3 d1 g0 g1 hct hcc3
              go_wp2_with fail
              refine bodyPost_ret (v := .tuple #[.agg #[.int .i64 0, .slice none 0 0], .int .i64 4]) (by simp [results, Try.results45, go_sem, g2, g3]) rfl ?_
              exact autosTo_mk HF.out (tab_nil _ _ _) ((B6.out.setCell (by simp; try omega) _).setCell (by simp; try omega) _)
        · have hkn : k = n := by omega
          have HF := Lib.hid (contractRoads_0 HOK.out HDV.out (ctrB_t (xss := xss) (cls := cls) (n := n) (fun j hj => HALL.out j (by omega))))
          have HKN := Lib.hid hkn
          have hlt2 : ¬ (k : Int) < (l : Int) := by have := HLN.out; omega
          obtain ⟨d0, d1, g0, g1⟩ := box2_cellsR X2.out
          obtain ⟨e0, e1, e2, e3⟩ := box2_cellsR X1.out
          obtain ⟨g2, g3⟩ := box2_setR X1.out (.int .i64 ((cntK cls k : Nat) : Int)) (.slice A3 Y.length c3)
          clear hkn hbel y1 hlt
          go_wp2_with fail
          refine bodyPost_ret (v := .tuple #[.agg #[.int .i64 ((cntK cls k : Nat) : Int), .slice A3 Y.length c3], .int .i64 0]) (by simp [results, Try.results45, go_sem, g2, g3]) rfl ?_
          have hrb := HRB.out
          have hf := HF.out
          rw [show cntK cls n = cntK cls k by rw [HKN.out], show tabK xss cls n = Y by rw [HY.out, HKN.out]] at hf
          refine autosTo_mk hf ?_ (((below_then B1.out HB.out).setCell (by simp) _).setCell (by simp) _)
          rw [set2_sizeR]
          exact (TabIn.only ⟨vs, HT.out⟩ (set2_onlyR _ _ _ _) (.inr (by omega))).wide (by omega) (Nat.le_refl _)


end Go.Proofs.Ytkbnbcecphmihaa
