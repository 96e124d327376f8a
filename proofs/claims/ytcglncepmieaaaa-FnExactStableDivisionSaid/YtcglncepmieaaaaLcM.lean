/-
  The least congruence: classes put together in place; the contracts of l01Merge and joinStates.
-/
import Derived.Test.YtcglncepmieaaaaLcD
import Derived.BigQuiet
import Derived.Deep.RegionLaw
import Derived.Deep.DeepCutAuto
namespace Go.Proofs.Ytcglncepmieaaaa
open Go.RowKit Go.Deep Go.ChangeShapes Go.WideShapes

theorem lab_ext {L Z : List Int} {n : Nat} (hl : L.length = n) (hz : Z.length = n) (h : ∀ u, u < n → lab Z u = lab L u) : Z = L := by
  apply List.ext_getElem?
  intro r
  rcases Nat.lt_or_ge r n with hr | hr
  · rw [lab_at (by omega), lab_at (by omega), h r hr]
  · rw [List.getElem?_eq_none (by omega), List.getElem?_eq_none (by omega)]
theorem lab_set {Z : List Int} {k u : Nat} {q : Int} (hk : k < Z.length) : lab (Z.set k q) u = if u = k then q else lab Z u := by
  unfold lab
  rw [List.getD_eq_getElem?_getD, List.getElem?_set, List.getD_eq_getElem?_getD]
  by_cases h : k = u
  · subst h; simp [hk]
  · rw [if_neg h, if_neg (fun e => h e.symm)]
/-- The first k labels are changed. -/
def PartM (n : Nat) (L : List Int) (p q : Int) (k : Nat) (Z : List Int) : Prop := Z.length = n ∧ ∀ u, u < n → lab Z u = if u < k ∧ lab L u = p then q else lab L u
theorem PartM.start {n : Nat} {L : List Int} {p q : Int} (h : L.length = n) : PartM n L p q 0 L := ⟨h, fun u _ => by simp⟩
theorem PartM.here {n : Nat} {L Z : List Int} {p q : Int} {k : Nat} (h : PartM n L p q k Z) (hk : k < n) : lab Z k = lab L k := by rw [h.2 k hk]; simp
theorem PartM.put {n : Nat} {L Z : List Int} {p q : Int} {k : Nat} (h : PartM n L p q k Z) (hk : k < n) (he : lab L k = p) : PartM n L p q (k + 1) (Z.set k q) := by
  refine ⟨by rw [List.length_set, h.1], fun u hu => ?_⟩
  rw [lab_set (by rw [h.1]; exact hk), h.2 u hu]
  by_cases e : u = k
  · subst e; simp [he]
  · rw [if_neg e]
    simp only [show u < k + 1 ↔ u < k from by omega]
theorem PartM.pass {n : Nat} {L Z : List Int} {p q : Int} {k : Nat} (h : PartM n L p q k Z) (he : ¬ lab L k = p) : PartM n L p q (k + 1) Z := by
  refine ⟨h.1, fun u hu => ?_⟩
  rw [h.2 u hu]
  by_cases e : u = k
  · subst e; simp [he]
  · simp only [show u < k + 1 ↔ u < k from by omega]
theorem PartM.all {n : Nat} {L Z : List Int} {p q : Int} (hl : L.length = n) (h : PartM n L p q n Z) : Z = mergeL L p q := by
  refine lab_ext (by rw [mergeL_len, hl]) h.1 (fun u hu => ?_)
  rw [h.2 u hu, lab_merge (by omega)]
  simp [hu]
theorem own_storeL {w : World} {base g c n : Nat} {Z : List Int} (h : w.ownsRow base 2 1 (.slice (some ⟨g, 0, none⟩) n c) n (Z.map (Value.int .i64))) (k : Nat) (v : Int) :
    (w.setCell ⟨g, k, none⟩ (.int .i64 v)).ownsRow base 2 1 (.slice (some ⟨g, 0, none⟩) n c) n ((Z.set k v).map (Value.int .i64)) := by
  have h1 := (h.stored k (.int .i64 v)).1
  rw [← List.map_set] at h1
  exact h1

set_option maxRecDepth 100000 in
set_option maxHeartbeats 2000000 in
theorem l01Merge_any (base G c n : Nat) (L : List Int) (p q : Int) (w : World) (ho : w.ownsRow base 2 1 (.slice (some ⟨G, 0, none⟩) n c) n (L.map (Value.int .i64))) (hl : L.length = n) (hn : n ≤ 10) :
    Calls Try.prog 115 #[.slice (some ⟨G, 0, none⟩) n c, .int .i64 p, .int .i64 q] w fun e w' => e = .returned (.tuple #[]) ∧
      w'.ownsRow base 2 1 (.slice (some ⟨G, 0, none⟩) n c) n ((mergeL L p q).map (Value.int .i64)) ∧ Only G (G + 1) w w' := by
  have HL := Lib.hid hl
  have HO := Lib.hid ho
  clear hl ho
  go_enter Try.func115, Try.ntmps115
  go_wp2_with fail
  go_loopw [6] (fun iv wr => ∃ (k : Nat) (Z : List Int), k ≤ n ∧ iv = .int .i64 k ∧ PartM n L p q k Z ∧ wr.ownsRow base 2 1 (.slice (some ⟨G, 0, none⟩) n c) n (Z.map (Value.int .i64)) ∧ Only G (G + 1) w wr) (fun iv _ => n - (intOf iv).toNat)
  case atStart => exact ⟨0, L, Nat.zero_le _, rfl, PartM.start HL.out, HO.out, Only.refl _ _ _⟩
  case round =>
    obtain ⟨k, Z, hk, rfl, hp, hown, hon⟩ := hrel
    obtain ⟨wi, hwi⟩ : ∃ wi, wi = wr := ⟨_, rfl⟩
    rw [← hwi] at hown hon ⊢
    clear hwi
    have HP := Lib.hid hp
    have HOW := Lib.hid hown
    have HON := Lib.hid hon
    have hk0 : (0 : Int) ≤ (k : Int) := by omega
    clear hp hon
    by_cases hlt : k < n
    · have hkn : (k : Int) < (n : Int) := by omega
      obtain ⟨Y, hY⟩ : ∃ Y, Y = lab L k := ⟨_, rfl⟩
      have hc : wi.cell? ⟨G, k, none⟩ = some (.int .i64 Y) := by
        rw [hown.cellAt k (by omega), List.getElem?_map, lab_at (by rw [HP.out.1]; exact hlt), HP.out.here hlt, hY]; rfl
      have hf : wi.frozen? ⟨G, k, none⟩ = false := hown.frozenAt k
      have HY := Lib.hid hY
      clear hown hY
      rcases hyp : (Y == p) with _ | _
      · have HNE := Lib.hid (show ¬ lab L k = p by rw [← HY.out]; simpa using hyp)
        go_wp2_with fail
        go_roundw
        case rel => exact ⟨k + 1, Z, by omega, by go_num, HP.out.pass HNE.out, HOW.out, HON.out⟩
        case measure => simp [intOf]; omega
      · have HEQ := Lib.hid (show lab L k = p by rw [← HY.out]; simpa using hyp)
        have HST := Lib.hid (own_storeL HOW.out k q)
        have HO2 := Lib.hid (HON.out.trans (only_setCell wi G k (.int .i64 q)))
        go_wp2_with fail
        go_roundw
        case rel => exact ⟨k + 1, Z.set k q, by omega, by go_num, HP.out.put hlt HEQ.out, HST.out, HO2.out⟩
        case measure => simp [intOf]; omega
    · have hkn : k = n := by omega
      have HF := Lib.hid (show Z = mergeL L p q from PartM.all HL.out (by rw [← hkn]; rw [hkn]; rw [hkn] at HP; exact HP.out))
      clear hkn hown
      go_wp2_with fail
      exact ⟨rfl, _, results_none rfl _ _ _, rfl, by rw [← HF.out]; exact HOW.out, HON.out⟩

set_option maxRecDepth 100000 in
set_option maxHeartbeats 8000000 in
theorem joinStates_any (W : World) (A : Option Addr) (n m c : Nat) (xss : List (List Int)) (G c2 : Nat) (hg : Good n m xss) (h : RowsAt W A m xss) (N : Nat) : ∀ (L : List Int) (s t : Nat) (w : World), cntL n L ≤ N → Labs n L → s < n → t < n → Below W.heap.size W w →
      w.ownsRow W.heap.size 2 1 (.slice (some ⟨G, 0, none⟩) n c2) n (L.map (Value.int .i64)) →
    Calls Try.prog 83 #[.agg #[.int .i64 (n : Int), .slice A m c], .slice (some ⟨G, 0, none⟩) n c2, .int .i64 (s : Int), .int .i64 (t : Int)] w fun e w' => e = .returned (.tuple #[]) ∧ ∃ L' : List Int, Join n m xss s t L L' ∧
      w'.ownsRow W.heap.size 2 1 (.slice (some ⟨G, 0, none⟩) n c2) n (L'.map (Value.int .i64)) ∧ Only G (G + 1) w w' := by
  induction N using Nat.strongRecOn with
  | ind N ih =>
  intro L s t w hcnt hlabs hs ht hb ho
  have IH := Lib.hid ih
  have HG := Lib.hid hg
  have HX := Lib.hid h
  have HCN := Lib.hid hcnt
  have HLA := Lib.hid hlabs
  have HWG := Lib.hid (ho.lt G rfl).1
  have hGw := (ho.lt G rfl).2
  have hn10 : n ≤ 10 := hg.n10
  have hm3 : m ≤ 3 := hg.m3
  obtain ⟨w1, hw1⟩ : ∃ w1, w1 = w.alloc (.cells #[.int .i64 (n : Int), .slice A m c] 28) := ⟨_, rfl⟩
  have b1 : Below w.heap.size w w1 := by rw [hw1]; exact (Below.refl _ _).alloc (Nat.le_refl _) _
  have X1 := Lib.hid (show Box w1 w.heap.size [.int .i64 (n : Int), .slice A m c] by rw [hw1]; exact Box.new _ _ _)
  have HO := Lib.hid (own_below ho b1)
  have HB := Lib.hid (below_then hb b1)
  have HON1 := Lib.hid (Only.of_below b1 G (G + 1))
  have HW := Lib.hid hw1
  obtain ⟨Y, hY⟩ : ∃ Y, Y = lab L s := ⟨_, rfl⟩
  obtain ⟨Z, hZ⟩ : ∃ Z, Z = lab L t := ⟨_, rfl⟩
  have hcs : w1.cell? ⟨G, s, none⟩ = some (.int .i64 Y) := by
    rw [HO.out.cellAt s (by omega), List.getElem?_map, lab_at (by rw [hlabs.len]; exact hs), hY]; rfl
  have hct : w1.cell? ⟨G, t, none⟩ = some (.int .i64 Z) := by
    rw [HO.out.cellAt t (by omega), List.getElem?_map, lab_at (by rw [hlabs.len]; exact ht), hZ]; rfl
  have hs0 : (0 : Int) ≤ (s : Int) := by omega
  have hsn : (s : Int) < (n : Int) := by omega
  have ht0 : (0 : Int) ≤ (t : Int) := by omega
  have htn : (t : Int) < (n : Int) := by omega
  have HY := Lib.hid hY
  have HZ := Lib.hid hZ
  have HS := Lib.hid hs
  have HT := Lib.hid ht
  clear ih hg h hcnt hlabs hb ho b1 hw1 hY hZ
  go_enter Try.func83, Try.ntmps83
  go_upto_region 1 with fail
  rw [← HW.out]
  go_quiet (fail)
  rcases hyz : (Y == Z) with _ | _
  · have hne : ¬ lab L s = lab L t := by rw [← HY.out, ← HZ.out]; simpa using hyz
    have HMID := Lib.hid (show Mid n m xss s t L 0 (mergeL L Z Y) by rw [HY.out, HZ.out]; exact Mid.start HLA.out hs ht hne)
    obtain ⟨w2, hw2⟩ : ∃ w2, w2 = w1.drewN nq := ⟨_, rfl⟩
    have b2 : Below w1.heap.size w1 w2 := by rw [hw2]; exact below_drewN' (Below.refl _ _) _
    have X2 := Lib.hid (Box.below X1.out b2)
    have HO2 := Lib.hid (own_below HO.out b2)
    have HB2 := Lib.hid (below_then HB.out b2)
    have HON2 := Lib.hid (HON1.out.trans (Only.of_below b2 G (G + 1)))
    have HS2 := Lib.hid (show w.heap.size < w2.heap.size by have := (HO2.out.lt G rfl).2; have h1 := b2.size; rw [hw2]; show w.heap.size < w1.heap.size; rw [HW.out, World.size_alloc]; exact Nat.lt_succ_self _)
    clear hcs hct hne
    go_wp2_with fail
    rw [← hw2]
    clear hw2 b2
    go_loopw [26] (fun iv wr => ∃ (k : Nat) (V : List Int), k ≤ n ∧ iv = .int .i64 k ∧ PartM n L Z Y k V ∧ wr.ownsRow W.heap.size 2 1 (.slice (some ⟨G, 0, none⟩) n c2) n (V.map (Value.int .i64)) ∧ Only G (G + 1) w2 wr) (fun iv _ => n - (intOf iv).toNat)
    case atStart => exact ⟨0, L, Nat.zero_le _, rfl, PartM.start HLA.out.len, HO2.out, Only.refl _ _ _⟩
    case round =>
      obtain ⟨k, V, hk, rfl, hp, hown, hon⟩ := hrel
      obtain ⟨wi, hwi⟩ : ∃ wi, wi = wr := ⟨_, rfl⟩
      rw [← hwi] at hown hon ⊢
      clear hwi
      have HP := Lib.hid hp
      have HOW := Lib.hid hown
      have HON := Lib.hid hon
      have hk0 : (0 : Int) ≤ (k : Int) := by omega
      clear hp hon
      by_cases hlt : k < n
      · have hkn : (k : Int) < (n : Int) := by omega
        obtain ⟨U, hU⟩ : ∃ U, U = lab L k := ⟨_, rfl⟩
        have hc : wi.cell? ⟨G, k, none⟩ = some (.int .i64 U) := by
          rw [hown.cellAt k (by omega), List.getElem?_map, lab_at (by rw [HP.out.1]; exact hlt), HP.out.here hlt, hU]; rfl
        have hf : wi.frozen? ⟨G, k, none⟩ = false := hown.frozenAt k
        have HU := Lib.hid hU
        clear hown hU
        rcases hyp : (U == Z) with _ | _
        · have HNE := Lib.hid (show ¬ lab L k = Z by rw [← HU.out]; simpa using hyp)
          go_wp2_with fail
          go_roundw
          case rel => exact ⟨k + 1, V, by omega, by go_num, HP.out.pass HNE.out, HOW.out, HON.out⟩
          case measure => simp [intOf]; omega
        · have HEQ := Lib.hid (show lab L k = Z by rw [← HU.out]; simpa using hyp)
          have HST := Lib.hid (own_storeL HOW.out k Y)
          have HO3 := Lib.hid (HON.out.trans (only_setCell wi G k (.int .i64 Y)))
          go_wp2_with fail
          go_roundw
          case rel => exact ⟨k + 1, V.set k Y, by omega, by go_num, HP.out.put hlt HEQ.out, HST.out, HO3.out⟩
          case measure => simp [intOf]; omega
      · have hkn : k = n := by omega
        have HF := Lib.hid (show V = mergeL L Z Y from PartM.all HLA.out.len (by rw [hkn] at HP; exact HP.out))
        have X3 := Lib.hid (Box.only X2.out HON.out (.inr (by omega)))
        have HO3 := Lib.hid (show wi.ownsRow W.heap.size 2 1 (.slice (some ⟨G, 0, none⟩) n c2) n ((mergeL L Z Y).map (Value.int .i64)) by rw [← HF.out]; exact hown)
        have HB3 := Lib.hid (Only.below HB2.out HON.out HWG.out HB2.out.size)
        have HON3 := Lib.hid (HON2.out.trans HON.out)
        have q0 := X3.out 0 _ rfl
        have q1 := X3.out 1 _ rfl
        clear hkn hown
        go_wp2_with fail
        go_loopw [43] (fun xv wr => ∃ (x : Nat) (V : List Int), x ≤ m ∧ xv = .int .i64 x ∧ Mid n m xss s t L x V ∧ wr.ownsRow W.heap.size 2 1 (.slice (some ⟨G, 0, none⟩) n c2) n (V.map (Value.int .i64)) ∧ Only G (G + 1) wi wr) (fun xv _ => m - (intOf xv).toNat)
        case atStart => exact ⟨0, _, Nat.zero_le _, rfl, HMID.out, HO3.out, Only.refl _ _ _⟩
        case round =>
          obtain ⟨x, V, hx, rfl, hmid, hown, hon⟩ := hrel
          obtain ⟨wj, hwj⟩ : ∃ wj, wj = wr := ⟨_, rfl⟩
          rw [← hwj] at hown hon ⊢
          clear hwj
          have HM := Lib.hid hmid
          have HOW := Lib.hid hown
          have HONJ := Lib.hid hon
          have hx0 : (0 : Int) ≤ (x : Int) := by omega
          clear hmid hon
          by_cases hlt : x < m
          · have hxm : (x : Int) < (m : Int) := by omega
            have HBJ := Lib.hid (Only.below HB3.out HONJ.out HWG.out HB3.out.size)
            have XJ := Lib.hid (Box.only X3.out HONJ.out (.inr (by omega)))
            obtain ⟨row, Bx, ox, Ar, cr, hr1, hAe, hcr0, hnr⟩ := (HX.out.below HBJ.out).at_ hlt
            subst hAe
            have hgr := HG.out.rows x row hr1
            have e : xss.getD x [] = row := by rw [List.getD_eq_getElem?_getD, hr1]; rfl
            have hval : ∀ u, u < n → row[u]? = some ((nx xss x u : Nat) : Int) := by
              intro u hu
              have h1 : u < row.length := by rw [hgr.1]; exact hu
              have h2 := hgr.2 row[u] (List.getElem_mem h1)
              rw [List.getElem?_eq_getElem h1]
              unfold nx
              rw [e, List.getD_eq_getElem?_getD, List.getElem?_eq_getElem h1, Option.getD_some]
              congr 1
              omega
            obtain ⟨y1, b3, off3, hy1, rfl, hcy1⟩ := hnr.at_ (show s < row.length by rw [hgr.1]; exact HS.out)
            obtain ⟨y2, b4, off4, hy2, hA4, hcy2⟩ := hnr.at_ (show t < row.length by rw [hgr.1]; exact HT.out)
            obtain ⟨rfl, rfl⟩ : b3 = b4 ∧ off3 = off4 := by simpa using hA4
            have e1 : y1 = ((nx xss x s : Nat) : Int) := by have h9 := hval s HS.out; rw [hy1] at h9; exact Option.some.inj h9
            have e2 : y2 = ((nx xss x t : Nat) : Int) := by have h9 := hval t HT.out; rw [hy2] at h9; exact Option.some.inj h9
            subst e1
            subst e2
            rw [hgr.1] at hcr0
            have hin : ∀ u, u < n → nx xss x u < n := fun u hu => HG.out.to [(x : Int)] u (fun z hz => by rw [List.mem_singleton.1 hz]; omega) hu
            have HI1 := Lib.hid (hin s HS.out)
            have HI2 := Lib.hid (hin t HT.out)
            have HXM := Lib.hid hlt
            obtain ⟨s', hs'⟩ : ∃ s', s' = nx xss x s := ⟨_, rfl⟩
            obtain ⟨t', ht'⟩ : ∃ t', t' = nx xss x t := ⟨_, rfl⟩
            rw [← hs'] at hcy1 HI1
            rw [← ht'] at hcy2 HI2
            have HS' := Lib.hid hs'
            have HT' := Lib.hid ht'
            have r0 := XJ.out 0 _ rfl
            have r1 := XJ.out 1 _ rfl
            clear q0 q1 hr1 hgr e hval hnr hy1 hy2 hA4 hin hs' ht' hown
            go_wp2_with fail
            go_region_law
              (first
                | (go_simp; go_at_call 83
                   refine (IH.out (cntL n V) (Nat.lt_of_lt_of_le HM.out.less HCN.out) V s' t' _ (Nat.le_refl _) HM.out.labs HI1.out HI2.out (below_drewN' HBJ.out 1) (own_below HOW.out (below_drewN' (Below.refl _ _) 1))).mono ?_
                   rintro e' w5 ⟨rfl, L5, j5, o5, on5⟩
                   have J5 := Lib.hid j5
                   have O5 := Lib.hid o5
                   have ON5 : Hid (Only G (G + 1) wj w5) := Lib.hid ((Only.of_below (below_drewN' (Below.refl _ _) 1) G (G + 1)).trans on5)
                   clear j5 o5 on5)
                | fail)
            all_goals
              go_simp
              go_wp2_with fail
              go_roundw
              case rel => exact ⟨x + 1, L5, by omega, by go_num, Mid.step HG.out HXM.out HS.out HT.out HM.out (by rw [← HS'.out, ← HT'.out]; exact J5.out), O5.out, HONJ.out.trans ON5.out⟩
              case measure => simp [intOf]; omega
          · have hxe : x = m := by omega
            have HJ := Lib.hid (show Join n m xss s t L V from Mid.stop HG.out HS.out HT.out (by rw [← hxe]; rw [hxe]; rw [hxe] at HM; exact HM.out))
            clear hxe q0 q1 hown
            go_wp2_with fail
            exact ⟨rfl, _, results_none rfl _ _ _, rfl, V, HJ.out, HOW.out, HON3.out.trans HONJ.out⟩
  · have HJ := Lib.hid (show Join n m xss s t L L from Join.refl HLA.out (by rw [← HY.out, ← HZ.out]; simpa using hyz))
    have HO2 := Lib.hid (own_below HO.out (below_drewN' (Below.refl _ _) nq))
    have HON2 := Lib.hid (HON1.out.trans (Only.of_below (below_drewN' (Below.refl _ _) nq) G (G + 1)))
    go_wp2_with fail
    (try simp only [Exit.inBlock, Exit.then]); refine bodyPost_ret (results_none rfl _ _ _) rfl ?_
    exact ⟨rfl, L, HJ.out, HO2.out, HON2.out⟩

end Go.Proofs.Ytcglncepmieaaaa
