/-
  The table of the lengths of all merging words: the contracts of both PairTable.
-/
import Derived.Test.YtcglncepmieaaaaPtL
import Derived.Test.YtcglncepmieaaaaTrap
import Derived.StillTailTactics
namespace Go.Proofs.Ytcglncepmieaaaa
open Go.RowKit Go.Deep Go.ChangeShapes Go.WideShapes
open Hunt Srch From Moved

def TabsTo2 (r : List (List Int) × Int) (w : World) (e : Ending) (w' : World) : Prop := ∃ v, e = .returned (.tuple #[v, .int .i64 r.2]) ∧ TabIn w.heap.size w'.heap.size w' v r.1 ∧ Below w.heap.size w w'
theorem tabsTo2_mk {r : List (List Int) × Int} {w w' : World} {xss : List (List Int)} {v : Value} {c : Int} (h : r = (xss, c)) (ht : TabIn w.heap.size w'.heap.size w' v xss) (hb : Below w.heap.size w w') : TabsTo2 r w (.returned (.tuple #[v, .int .i64 c])) w' := by
  subst h; exact ⟨v, rfl, ht, hb⟩
theorem tabV_made (w : World) (lo : Nat) (h : lo ≤ w.heap.size) : TabV lo (w.heap.size + 1) (w.alloc (.cells #[] 35)) (.slice (some ⟨w.heap.size, 0, none⟩) 0 0) [] [] := by
  refine ⟨rfl, World.ownsRow_lit (e := 35) w #[] 0 h (Nat.zero_le _) rfl, fun g hg => ?_, fun r u xs hu => ?_, fun r r' u u' g hu => ?_, fun r u g hu => ?_⟩
  · simp [Value.ownBlock] at hg; omega
  · simp at hu
  · simp at hu
  · simp at hu
theorem sumLens_leC {k : Nat} : ∀ {xss : List (List Int)}, (∀ x ∈ xss, x.length ≤ k) → sumLens xss ≤ k * xss.length
  | [], _ => by simp [sumLens]
  | x :: xs, h => by
    have h1 := h x List.mem_cons_self
    have h2 := sumLens_leC (xss := xs) (fun y hy => h y (List.mem_cons_of_mem _ hy))
    simp only [sumLens, List.map_cons, List.sum_cons, List.length_cons] at h2 ⊢
    rw [Nat.mul_succ]
    omega

/-- What PairTable answers. -/
noncomputable def pairTable (s : Int) (xss : List (List Int)) : List (List Int) × Int := if okA s xss = true then (tabK s.toNat xss.length xss s.toNat, 0) else ([], 1)
theorem pairTable_1 {s : Int} {xss : List (List Int)} (h : okA s xss = false) : pairTable s xss = ([], 1) := by unfold pairTable; rw [if_neg (by simp [h])]
theorem pairTable_0 {n m : Nat} {xss : List (List Int)} (h : okA (n : Int) xss = true) (hm : xss.length = m) : pairTable (n : Int) xss = (tabK n m xss n, 0) := by unfold pairTable; rw [if_pos h, Int.toNat_natCast, hm]
theorem pairTable_len (s : Int) (xss : List (List Int)) : (pairTable s xss).1.length ≤ 10 := by
  rcases hok : okA s xss with _ | _
  · rw [pairTable_1 hok]; simp
  · obtain ⟨n, rfl, hg⟩ := good_of hok rfl
    rw [pairTable_0 hok rfl]
    show (tabK _ _ _ _).length ≤ 10
    rw [tabK_len]
    exact hg.n10
theorem pairTable_sum (s : Int) (xss : List (List Int)) : sumLens (pairTable s xss).1 ≤ 100 := by
  rcases hok : okA s xss with _ | _
  · rw [pairTable_1 hok]; simp [sumLens]
  · obtain ⟨n, rfl, hg⟩ := good_of hok rfl
    rw [pairTable_0 hok rfl]
    have h10 := hg.n10
    have h1 := sumLens_leC (k := n) (xss := tabK n xss.length xss n) (fun x hx => by
      unfold tabK at hx
      obtain ⟨a, _, rfl⟩ := List.mem_map.1 hx
      rw [rowK_len]; exact Nat.le_refl _)
    rw [tabK_len] at h1
    have h2 : n * n ≤ 10 * 10 := Nat.mul_le_mul h10 h10
    show sumLens (tabK _ _ _ _) ≤ 100
    omega

set_option maxRecDepth 100000 in
set_option maxHeartbeats 4000000 in
theorem specPairTable_any (s : Int) (A : Option Addr) (m cap : Nat) (xss : List (List Int)) (w : World) (h : RowsAt w A m xss) (hm : m ≤ 4611686018427387904)
    (hrows : ∀ (r : Nat) (xs : List Int), xss[r]? = some xs → xs.length ≤ 4611686018427387904) :
    Calls Try.prog 12 #[.agg #[.int .i64 s, .slice A m cap]] w (TabsTo2 (pairTable s xss) w) := by
  have HR := Lib.hid hrows
  have HM := Lib.hid h.1
  have b0 : Below w.heap.size w (w.alloc (.cells #[.int .i64 s, .slice A m cap] 28)) := (Below.refl _ _).alloc (Nat.le_refl _) _
  have H0 := Lib.hid (h.below b0)
  have B0 := Lib.hid b0
  have HBX := Lib.hid (show Box (w.alloc (.cells #[.int .i64 s, .slice A m cap] 28)) w.heap.size [.int .i64 s, .slice A m cap] from Box.new _ _ _)
  clear hrows b0
  go_enter Try.func12, Try.ntmps12
  go_wp2_with fail
  refine (l01Ok_any w.heap.size s A m cap xss _ (by go_cell) (by go_cell) H0.out hm HR.out).mono ?_
  rintro e w' ⟨rfl, d, hd⟩
  have B1 := Lib.hid (show Below w.heap.size w w' by rw [hd]; exact below_drewN' B0.out d)
  have HB1 := Lib.hid (show Box w' w.heap.size [.int .i64 s, .slice A m cap] by rw [hd]; exact Box.below HBX.out (below_drewN' (Below.refl _ _) d))
  have H1 := Lib.hid (show RowsAt w' A m xss by rw [hd]; exact H0.out.below (below_drewN' (Below.refl _ _) d))
  clear hd
  rcases hok : okA s xss with _ | _
  · go_wp2_with fail
    go_ret2
    exact tabsTo2_mk (pairTable_1 hok) ⟨[], (tabV_made w' w.heap.size B1.out.size).wide (Nat.le_refl _) (by simp)⟩ (B1.out.alloc B1.out.size _)
  · obtain ⟨n, hsn, hg⟩ := good_of hok HM.out
    subst hsn
    go_wp2_with fail
    refine (l02Table_any w.heap.size n m cap A xss w' hg H1.out HB1.out).mono ?_
    rintro e w3 ⟨u, rfl, t3, b3⟩
    go_wp2_with fail
    go_ret2
    exact tabsTo2_mk (pairTable_0 hok HM.out) (t3.wide B1.out.size (Nat.le_refl _)) (below_then B1.out b3)

theorem pwL_full {n m : Nat} {xss : List (List Int)} (hn : n ≤ 10) : pwL n m xss = (prL n n).map fun g => pwO n m xss (pairB g.1 g.2) := by
  unfold pwL
  rw [prsS_full hn, List.map_map]
  rfl
theorem pwO_len {n m s t : Nat} {xss : List (List Int)} (hg : Good n m xss) (hs : s < n) (ht : t < n) : (if (pwO n m xss (pairB s t)).ok = true then (((pwO n m xss (pairB s t)).word.length : Nat) : Int) else -1) = lenP n m xss s t := by
  unfold lenP lenO pwO cutW
  rw [pair_same hg hs ht]

/-- The rows of the first k states are made. -/
def madeN (n k : Nat) : List (List Int) := List.replicate k (List.replicate n 0) ++ List.replicate (n - k) []
theorem madeN_len {n k : Nat} (hk : k ≤ n) : (madeN n k).length = n := by unfold madeN; rw [List.length_append, List.length_replicate, List.length_replicate]; omega
theorem madeN_step {n k : Nat} (hk : k < n) : (madeN n k).set k (List.replicate n 0) = madeN n (k + 1) := by
  unfold madeN
  rw [List.set_append_right _ _ (by simp), List.length_replicate, Nat.sub_self, show n - k = (n - (k + 1)) + 1 by omega, List.replicate_succ, List.set_cons_zero, List.replicate_succ', List.append_assoc]
  rfl
theorem tabV_blank (w : World) (lo n : Nat) (h : lo ≤ w.heap.size) (hn : n ≤ 10) : TabV lo (w.heap.size + 1) (w.alloc (.cells (madeCells #[.slice none 0 0] n) 35)) (.slice (some ⟨w.heap.size, 0, none⟩) n n) (List.replicate n (.slice none 0 0)) (madeN n 0) := by
  have e : madeN n 0 = List.replicate n [] := by unfold madeN; rw [List.replicate_zero, List.nil_append, Nat.sub_zero]
  have hv : ∀ (r : Nat) (u : Value), (List.replicate n (Value.slice none 0 0))[r]? = some u → u = .slice none 0 0 := fun r u hu => (List.mem_replicate.1 (List.mem_of_getElem? hu)).2
  rw [e]
  refine ⟨by simp, ?_, fun g hg => ?_, fun r u xs hu hx => ?_, fun r r' u u' g hu _ hg => ?_, fun r u g hu hg => ?_⟩
  · rw [List.length_replicate]
    have h1 := World.ownsRow_lit (e := 35) w (madeCells #[.slice none 0 0] n) n h (by unfold maxLen; omega) (by rw [size_madeCells, Nat.mul_one])
    rw [toList_madeCells_one] at h1
    exact h1
  · simp [Value.ownBlock] at hg; omega
  · obtain rfl := hv r u hu
    obtain rfl := (List.mem_replicate.1 (List.mem_of_getElem? hx)).2
    exact ⟨World.ownsRow_nil _ _ _ _, fun g hg => by simp [Value.ownBlock] at hg⟩
  · obtain rfl := hv r u hu
    simp [Value.ownBlock] at hg
  · obtain rfl := hv r u hu
    simp [Value.ownBlock] at hg

theorem tab_store {lo hi : Nat} {w : World} {G n c s t : Nat} {vs : List Value} {f : Nat → Nat → Int} (h : TabV lo hi w (.slice (some ⟨G, 0, none⟩) n c) vs (sqT n f)) (hs : s < n) (ht : t < n) :
    ∃ gs cs, lo ≤ gs ∧ gs + 1 ≤ hi ∧ w.cell? ⟨G, s, none⟩ = some (.slice (some ⟨gs, 0, none⟩) n cs) ∧ (∃ z, w.cell? ⟨gs, t, none⟩ = some z) ∧ w.frozen? ⟨gs, t, none⟩ = false ∧
      ∀ (w' : World) (x : Int), Below w.heap.size w w' → TabV lo hi (w'.setCell ⟨gs, t, none⟩ (.int .i64 x)) (.slice (some ⟨G, 0, none⟩) n c) vs (sqT n fun a b => if a = s ∧ b = t then x else f a b) := by
  obtain ⟨g, u, hG, hu, hc⟩ := h.cell (r := s) (by rw [sqT_len]; exact hs)
  obtain rfl : g = G := by simpa using hG.symm
  have hrow := h.row s u _ hu (sqT_at f hs)
  have hl : ((List.range n).map (f s)).length = n := by simp
  rw [show IntsIn lo hi w u ((List.range n).map (f s)) = (w.ownsRow lo 2 1 u ((List.range n).map (f s)).length (((List.range n).map (f s)).map (Value.int .i64)) ∧ ∀ g, u.ownBlock = some g → g < hi) from rfl, hl] at hrow
  obtain ⟨hrow, htop⟩ := hrow
  rcases hrow.2 with ⟨hv, h0⟩ | ⟨gs, cap, cur, rfl, hg, hh, hnc, hcap, hsz, htake⟩
  · omega
  · have hlt := htop gs rfl
    refine ⟨gs, cap, hg, hlt, hc, ⟨_, (hrow.cellAt t (by omega)).trans (List.getElem?_eq_getElem (by simp; exact ht))⟩, hrow.frozenAt t, fun w' x hb => ?_⟩
    have hst := (own_below hrow hb).stored t (.int .i64 x)
    rw [← sqT_set f x hs ht]
    refine (h.below hb).set hu (sqT_at f hs) hst.2 ⟨?_, fun q hq => ?_⟩
    · rw [List.length_set, hl, List.map_set]; exact hst.1
    · exact htop q hq

set_option maxRecDepth 100000 in
set_option maxHeartbeats 4000000 in
theorem implPairTable_any (s : Int) (A : Option Addr) (m cap : Nat) (xss : List (List Int)) (w : World) (h : RowsAt w A m xss) (hm : m ≤ 4611686018427387904)
    (hrows : ∀ (r : Nat) (xs : List Int), xss[r]? = some xs → xs.length ≤ 4611686018427387904) :
    Calls Try.prog 14 #[.agg #[.int .i64 s, .slice A m cap]] w (TabsTo2 (pairTable s xss) w) := by
  have HR := Lib.hid hrows
  have HM := Lib.hid h.1
  obtain ⟨w1, hw1⟩ : ∃ w1, w1 = w.alloc (.cells #[.int .i64 s, .slice A m cap] 28) := ⟨_, rfl⟩
  have b1 : Below w.heap.size w w1 := by rw [hw1]; exact (Below.refl _ _).alloc (Nat.le_refl _) _
  have HBX := Lib.hid (show Box w1 w.heap.size [.int .i64 s, .slice A m cap] by rw [hw1]; exact Box.new _ _ _)
  have HX := Lib.hid (h.below b1)
  have HB1 := Lib.hid b1
  have HW := Lib.hid hw1
  clear h b1 hw1 hrows
  go_enter Try.func14, Try.ntmps14
  go_wp2_with fail
  rw [← HW.out]
  refine (implValid_any s A m cap xss w1 HX.out hm HR.out).mono ?_
  rintro e w2 ⟨rfl, b2⟩
  have HB2 := Lib.hid (below_then HB1.out b2)
  have HX2 := Lib.hid (HX.out.below b2)
  have HBX2 := Lib.hid (Box.below HBX.out b2)
  clear b2 HBX HX HW HB1
  rcases hok : okA s xss with _ | _
  · go_wp2_with fail
    go_ret2
    exact tabsTo2_mk (pairTable_1 hok) ⟨[], tabV_none _ _ _⟩ HB2.out
  · obtain ⟨n, hsn, hg⟩ := good_of hok HM.out
    subst hsn
    have HF := Lib.hid (pairTable_0 hok HM.out)
    have hn10 : n ≤ 10 := hg.n10
    have HG := Lib.hid hg
    have hmk := run_make_row' (P := Try.prog) 22 35 (.slice none 0 0) 24 Try.underlying22 info_ints rfl .i64 .i64 n (by omega) (by omega)
    have hmk2 := run_make_row' (P := Try.prog) 35 2 (.int .i64 0) 8 Try.underlying35 info_int64 rfl .i64 .i64 n (by omega) (by omega)
    have q0 := HBX2.out 0 _ rfl
    clear hg hok
    have HT0 := Lib.hid (tabV_blank w2 w2.heap.size n (Nat.le_refl _) hn10)
    have B20 : Below w2.heap.size w2 (w2.alloc (.cells (madeCells #[.slice none 0 0] n) 35)) := (Below.refl _ _).alloc (Nat.le_refl _) _
    have HB20 := Lib.hid B20
    clear B20
    go_wp2_with fail
    go_loopw [18] (fun iv wr => ∃ (k : Nat) (vs : List Value), k ≤ n ∧ iv = .int .i64 k ∧ TabV w2.heap.size wr.heap.size wr (.slice (some ⟨w2.heap.size, 0, none⟩) n n) vs (madeN n k) ∧ (∀ j, k ≤ j → j < n → vs[j]? = some (.slice none 0 0)) ∧ Below w2.heap.size w2 wr) (fun iv _ => n - (intOf iv).toNat)
    case atStart => exact ⟨0, List.replicate n (.slice none 0 0), Nat.zero_le _, rfl, HT0.out.wide (Nat.le_refl _) (by rw [World.size_alloc]; exact Nat.le_refl _), fun j _ hj => by simp [hj], HB20.out⟩
    case round =>
      obtain ⟨k, vs, hk, rfl, htab, hnil, hbel⟩ := hrel
      have HT := Lib.hid htab
      have HB := Lib.hid hbel
      have HNL := Lib.hid hnil
      have hk0 : (0 : Int) ≤ (k : Int) := by omega
      have q0 := (Box.below HBX2.out hbel) 0 _ rfl
      by_cases hlt : k < n
      · have hkn : (k : Int) < (n : Int) := by omega
        have hck : wr.cell? ⟨w2.heap.size, k, none⟩ = some (.slice none 0 0) := by
          have h9 := htab.out
          rw [madeN_len hk] at h9
          exact (h9.cellAt k (by omega)).trans (hnil k (Nat.le_refl _) hlt)
        have hfk : wr.frozen? ⟨w2.heap.size, k, none⟩ = false := by
          have h9 := htab.out
          rw [madeN_len hk] at h9
          exact h9.frozenAt k
        obtain ⟨wa, hwa⟩ : ∃ wa, wa = wr.alloc (.cells (madeCells #[.int .i64 0] n) 2) := ⟨_, rfl⟩
        have ba : Below wr.heap.size wr wa := by rw [hwa]; exact (Below.refl _ _).alloc (Nat.le_refl _) _
        have hca := (ba.cell (cell_lt hck)).trans hck
        have hfa : wa.frozen? ⟨w2.heap.size, k, none⟩ = false := by
          have h9 := own_below htab.out ba
          rw [madeN_len hk] at h9
          exact h9.frozenAt k
        have HOA := Lib.hid (show wa.ownsRow w2.heap.size 2 1 (.slice (some ⟨wr.heap.size, 0, none⟩) n n) (List.replicate n (0 : Int)).length ((List.replicate n (0 : Int)).map (Value.int .i64)) by
          rw [← made_zeros, List.length_replicate, hwa]
          exact World.ownsRow_lit wr _ n hbel.size (by unfold maxLen; omega) (by rw [size_madeCells, Nat.mul_one]))
        have HWA := Lib.hid hwa
        have HBA := Lib.hid ba
        rw [hwa] at hca hfa
        clear htab hnil hbel hwa ba
        go_wp2_with fail
        rw [← HWA.out]
        clear hca hfa hck hfk q0
        go_roundw
        case rel =>
          have hT := HT.out
          have hb := HB.out
          have hba := HBA.out
          have hre := TabV.regrow hT (madeN_len hk) hlt (HNL.out k (Nat.le_refl _) hlt) (Below.refl _ _) (⟨hba.os, hba.tape, hba.output, hba.size, fun j hj _ => hba.block j hj⟩) HOA.out rfl (.inr rfl)
          rw [madeN_step hlt] at hre
          refine ⟨k + 1, _, by omega, by go_num, hre, fun j hj hjn => ?_, (below_then hb hba).setCell (Nat.le_refl _) _⟩
          rw [List.getElem?_set, if_neg (by omega)]
          exact HNL.out j (by omega) hjn
        case measure => simp [intOf]; omega
      · have hke : k = n := by omega
        have hkn : ¬ (k : Int) < (n : Int) := by omega
        have q1 := (Box.below HBX2.out hbel) 1 _ rfl
        have HTT := Lib.hid (show TabV w2.heap.size wr.heap.size wr (.slice (some ⟨w2.heap.size, 0, none⟩) n n) vs (sqT n (tabP n m xss 0)) by
          have h9 := htab
          rw [hke] at h9
          rw [tabP_0]
          unfold madeN at h9
          rw [Nat.sub_self, List.replicate_zero, List.append_nil] at h9
          exact h9)
        obtain ⟨wt, hwt⟩ : ∃ wt, wt = wr := ⟨_, rfl⟩
        rw [← hwt] at HB HTT q0 q1 ⊢
        clear HT hke hnil htab hbel hlt HNL hwt
        go_wp2_with fail
        refine (pairWords_any A n m cap xss wt HG.out (HX2.out.below HB.out)).mono ?_
        rintro e w3 ⟨u, rfl, ⟨ws, hpw⟩, b3⟩
        obtain ⟨P, hP⟩ : ∃ P, P = pwL n m xss := ⟨_, rfl⟩
        rw [← hP] at hpw
        obtain ⟨A3, C3, rfl⟩ := own2_form hpw.out
        obtain ⟨N, hN⟩ : ∃ N, N = P.length := ⟨_, rfl⟩
        have HPW := Lib.hid hpw
        have HNL2 := Lib.hid (show N = (prL n n).length by rw [hN, hP, pwL_full hn10, List.length_map])
        have hN100 : N ≤ 100 := by
          rw [HNL2.out]
          have h8 := prL_len n n
          have h9 : n * n ≤ 10 * 10 := Nat.mul_le_mul hn10 hn10
          omega
        rw [← hN]
        have HN := Lib.hid hN
        have HP := Lib.hid hP
        have HT3 := Lib.hid (HTT.out.below b3)
        have HB3 := Lib.hid (below_then HB.out b3)
        have HSZ3 := Lib.hid b3.size
        clear hpw b3 hN hP q0 q1 HTT
        go_wp2_with fail
        go_loopw [31] (fun iv wr => ∃ (k : Nat) (T : List (List Int)), k ≤ N ∧ iv = .int .i64 k ∧ T = sqT n (tabP n m xss k) ∧ TabV w2.heap.size wt.heap.size wr (.slice (some ⟨w2.heap.size, 0, none⟩) n n) vs T ∧ Only w2.heap.size wt.heap.size w3 wr) (fun iv _ => N - (intOf iv).toNat)
        case atStart => exact ⟨0, _, Nat.zero_le _, rfl, rfl, HT3.out, Only.refl _ _ _⟩
        case round =>
          obtain ⟨k, T, hk, rfl, hTk, htab, hon⟩ := hrel
          have HT := Lib.hid htab
          have HON := Lib.hid hon
          have HTK := Lib.hid hTk
          have hk0 : (0 : Int) ≤ (k : Int) := by omega
          clear htab hon hTk
          by_cases hlt : k < N
          · have hkn : (k : Int) < (N : Int) := by omega
            obtain ⟨⟨s, t⟩, hst⟩ : ∃ g, (prL n n)[k]? = some g := ⟨_, List.getElem?_eq_getElem (by rw [← HNL2.out]; exact hlt)⟩
            have hlim := prL_mem (List.mem_of_getElem? hst)
            obtain ⟨p, hp⟩ : ∃ p, p = pwO n m xss (pairB s t) := ⟨_, rfl⟩
            have hPk : P[k]? = some p := by rw [HP.out, pwL_full hn10, List.getElem?_map, hst, hp]; rfl
            obtain ⟨g, A', c', rfl, e1, e2, e3, hus⟩ := PwV.cells HPW.out hPk
            have hgg : wt.heap.size ≤ g := (HPW.out.out.lt g rfl).1
            have e1 := (HON.out.cell (cell_lt e1) (.inr hgg)).trans e1
            have e2 := (HON.out.cell (cell_lt e2) (.inr hgg)).trans e2
            have e3 := (HON.out.cell (cell_lt e3) (.inr hgg)).trans e3
            have HLEN := Lib.hid (pwO_len (xss := xss) HG.out (show s < n by omega) (show t < n by omega))
            rw [← hp] at HLEN
            obtain ⟨b, hb⟩ : ∃ b, b = p.pair := ⟨_, rfl⟩
            obtain ⟨l, hl⟩ : ∃ l, l = p.word.length := ⟨_, rfl⟩
            obtain ⟨ok, hok⟩ : ∃ ok, ok = p.ok := ⟨_, rfl⟩
            have HBP := Lib.hid (show b = pairB s t by rw [hb, hp]; rfl)
            rw [← hb] at e1
            rw [← hl] at e2 HLEN
            rw [← hok] at e3 HLEN
            have HST := Lib.hid hst
            have HLIM := Lib.hid hlim
            clear hb hl hok hp hus hst hlim
            have hVV : ∃ V, V = lenP n m xss s t := ⟨_, rfl⟩
            obtain ⟨V, hV⟩ := hVV
            rw [← hV] at HLEN
            have HV := Lib.hid hV
            clear hV
            rcases ok with _ | _
            · have hV1 : -1 = V := by have h9 := HLEN.out; rwa [if_neg (by simp)] at h9
              have HV1 := Lib.hid hV1
              clear hV1
              go_wp2_with fail
              rw [HV1.out]
              obtain ⟨wb, hwb⟩ : ∃ wb, wb = wr.alloc (.cells #[.int .u16 (b : Int), .slice A' l c', .bool false] 76) := ⟨_, rfl⟩
              have HONB := Lib.hid (show Only w2.heap.size wt.heap.size w3 wb by rw [hwb]; exact HON.out.trans (Only.of_below ((Below.refl _ _).alloc (Nat.le_refl _) _) _ _))
              have HTB := Lib.hid (show TabV w2.heap.size wt.heap.size wb _ vs T by rw [hwb]; exact HT.out.below ((Below.refl _ _).alloc (Nat.le_refl _) _))
              rw [← hwb]
              have hlim := HLIM.out
              clear hwb e1 e2 e3
              refine (setList_any b wb (by rw [HBP.out]; exact pair_lt s (by omega) t (by omega))).mono ?_
              rintro e w4 ⟨u, rfl, o4, b4⟩
              rw [HBP.out, list_pair s (by omega) t (by omega) hlim.2.1] at o4
              obtain ⟨A9, C9, rfl⟩ := own_form o4
              obtain ⟨g9, rfl, hNC9, hcells⟩ := own_cells (n := 2) o4 rfl (by omega)
              have hg9 : wb.heap.size ≤ g9 := (o4.lt g9 rfl).1
              have hg9' : wt.heap.size ≤ g9 := by have h1 := HONB.out.size; have h2 := HSZ3.out; omega
              have d0 : w4.cell? ⟨g9, 0, none⟩ = some (.int .i64 ((s : Nat) : Int)) := hcells 0 (by omega)
              have d1 : w4.cell? ⟨g9, 1, none⟩ = some (.int .i64 ((t : Nat) : Int)) := hcells 1 (by omega)
              have HT4 := Lib.hid (show TabV w2.heap.size wt.heap.size w4 (.slice (some ⟨w2.heap.size, 0, none⟩) n n) vs (sqT n (tabP n m xss k)) by rw [← HTK.out]; exact HTB.out.below b4)
              have HON4 := Lib.hid (HONB.out.trans (Only.of_below b4 _ _))
              obtain ⟨gs, cs, hgs, hgsh, d3, ⟨z3, z3'⟩, f3, hst3⟩ := tab_store HT4.out (show s < n by omega) (show t < n by omega)
              have HG9 := Lib.hid hg9'
              have i1 : (0 : Int) ≤ (s : Int) := by omega
              have i2 : (s : Int) < (n : Int) := by omega
              have i3 : (0 : Int) ≤ (t : Int) := by omega
              have i4 : (t : Int) < (n : Int) := by omega
              clear hcells hg9 hg9' o4 b4 hlim
              go_wp2_with fail
              go_still_tail 11, (by decide +kernel)
              obtain ⟨W5, hW5⟩ : ∃ W5, W5 = w4.drew := ⟨_, rfl⟩
              have b5 : Below w4.heap.size w4 W5 := by rw [hW5]; exact below_drewN' (Below.refl _ _) 1
              have hz5 := (b5.cell (cell_lt z3')).trans z3'
              have hf5 : W5.frozen? ⟨gs, t, none⟩ = false := by rw [hW5]; exact f3
              have hst5 : TabV w2.heap.size wt.heap.size (W5.setCell ⟨gs, t, none⟩ (.int .i64 V)) (.slice (some ⟨w2.heap.size, 0, none⟩) n n) vs (sqT n fun a b => if a = s ∧ b = t then V else tabP n m xss k a b) := hst3 W5 V b5
              have HON5 := Lib.hid ((HON4.out.trans (Only.of_below b5 _ _)).trans ((only_setCell W5 gs t (.int .i64 V)).wide hgs hgsh))
              have on5 := (Only.of_below b5 w2.heap.size wt.heap.size).trans ((only_setCell W5 gs t (.int .i64 V)).wide hgs hgsh)
              have d0 := (on5.cell (cell_lt d0) (.inr HG9.out)).trans d0
              have d1 := (on5.cell (cell_lt d1) (.inr HG9.out)).trans d1
              have HT5 := Lib.hid hst5
              change wpList _ _ _ _ _ w4.drew
              rw [← hW5]
              clear hW5 b5 z3' f3 d3 hst3 hst5 hgs hgsh on5
              go_wp2_with fail
              obtain ⟨w6, hw6⟩ : ∃ w6, w6 = W5.setCell ⟨gs, t, none⟩ (.int .i64 V) := ⟨_, rfl⟩
              rw [← hw6] at HT5 HON5 d0 d1 ⊢
              obtain ⟨gt, ct, hgt, hgth, d4, ⟨z4, z4'⟩, f4, hst4⟩ := tab_store HT5.out (show t < n by omega) (show s < n by omega)
              clear hz5 hf5 hw6
              go_wp2_with fail
              go_still_tail 11, (by decide +kernel)
              obtain ⟨W7, hW7⟩ : ∃ W7, W7 = w6.drew := ⟨_, rfl⟩
              have b7 : Below w6.heap.size w6 W7 := by rw [hW7]; exact below_drewN' (Below.refl _ _) 1
              have hz7 := (b7.cell (cell_lt z4')).trans z4'
              have hf7 : W7.frozen? ⟨gt, s, none⟩ = false := by rw [hW7]; exact f4
              have hst7 : TabV w2.heap.size wt.heap.size (W7.setCell ⟨gt, s, none⟩ (.int .i64 V)) (.slice (some ⟨w2.heap.size, 0, none⟩) n n) vs (sqT n fun a b => if a = t ∧ b = s then V else (if a = s ∧ b = t then V else tabP n m xss k a b)) := hst4 W7 V b7
              have HON7 := Lib.hid ((HON5.out.trans (Only.of_below b7 _ _)).trans ((only_setCell W7 gt s (.int .i64 V)).wide hgt hgth))
              have HT7 := Lib.hid hst7
              change wpList _ _ _ _ _ w6.drew
              rw [← hW7]
              clear hW7 b7 z4' f4 d4 hst4 hst7 hgt hgth d0 d1
              go_wp2_with fail
              go_roundw
              case rel =>
                refine ⟨k + 1, _, by omega, by go_num, rfl, ?_, HON7.out⟩
                have h9 := HT7.out
                rw [HV.out, tabP_step HST.out] at h9
                rw [HV.out]
                exact h9
              case measure => simp [intOf]; omega
            · have hV1 : ((l : Nat) : Int) = V := by have h9 := HLEN.out; rwa [if_pos rfl] at h9
              have HV1 := Lib.hid hV1
              clear hV1
              go_wp2_with fail
              rw [HV1.out]
              obtain ⟨wb, hwb⟩ : ∃ wb, wb = wr.alloc (.cells #[.int .u16 (b : Int), .slice A' l c', .bool true] 76) := ⟨_, rfl⟩
              have HONB := Lib.hid (show Only w2.heap.size wt.heap.size w3 wb by rw [hwb]; exact HON.out.trans (Only.of_below ((Below.refl _ _).alloc (Nat.le_refl _) _) _ _))
              have HTB := Lib.hid (show TabV w2.heap.size wt.heap.size wb _ vs T by rw [hwb]; exact HT.out.below ((Below.refl _ _).alloc (Nat.le_refl _) _))
              rw [← hwb]
              have hlim := HLIM.out
              clear hwb e1 e2 e3
              refine (setList_any b wb (by rw [HBP.out]; exact pair_lt s (by omega) t (by omega))).mono ?_
              rintro e w4 ⟨u, rfl, o4, b4⟩
              rw [HBP.out, list_pair s (by omega) t (by omega) hlim.2.1] at o4
              obtain ⟨A9, C9, rfl⟩ := own_form o4
              obtain ⟨g9, rfl, hNC9, hcells⟩ := own_cells (n := 2) o4 rfl (by omega)
              have hg9 : wb.heap.size ≤ g9 := (o4.lt g9 rfl).1
              have hg9' : wt.heap.size ≤ g9 := by have h1 := HONB.out.size; have h2 := HSZ3.out; omega
              have d0 : w4.cell? ⟨g9, 0, none⟩ = some (.int .i64 ((s : Nat) : Int)) := hcells 0 (by omega)
              have d1 : w4.cell? ⟨g9, 1, none⟩ = some (.int .i64 ((t : Nat) : Int)) := hcells 1 (by omega)
              have HT4 := Lib.hid (show TabV w2.heap.size wt.heap.size w4 (.slice (some ⟨w2.heap.size, 0, none⟩) n n) vs (sqT n (tabP n m xss k)) by rw [← HTK.out]; exact HTB.out.below b4)
              have HON4 := Lib.hid (HONB.out.trans (Only.of_below b4 _ _))
              obtain ⟨gs, cs, hgs, hgsh, d3, ⟨z3, z3'⟩, f3, hst3⟩ := tab_store HT4.out (show s < n by omega) (show t < n by omega)
              have HG9 := Lib.hid hg9'
              have i1 : (0 : Int) ≤ (s : Int) := by omega
              have i2 : (s : Int) < (n : Int) := by omega
              have i3 : (0 : Int) ≤ (t : Int) := by omega
              have i4 : (t : Int) < (n : Int) := by omega
              clear hcells hg9 hg9' o4 b4 hlim
              go_wp2_with fail
              go_still_tail 11, (by decide +kernel)
              obtain ⟨W5, hW5⟩ : ∃ W5, W5 = w4.drew := ⟨_, rfl⟩
              have b5 : Below w4.heap.size w4 W5 := by rw [hW5]; exact below_drewN' (Below.refl _ _) 1
              have hz5 := (b5.cell (cell_lt z3')).trans z3'
              have hf5 : W5.frozen? ⟨gs, t, none⟩ = false := by rw [hW5]; exact f3
              have hst5 : TabV w2.heap.size wt.heap.size (W5.setCell ⟨gs, t, none⟩ (.int .i64 V)) (.slice (some ⟨w2.heap.size, 0, none⟩) n n) vs (sqT n fun a b => if a = s ∧ b = t then V else tabP n m xss k a b) := hst3 W5 V b5
              have HON5 := Lib.hid ((HON4.out.trans (Only.of_below b5 _ _)).trans ((only_setCell W5 gs t (.int .i64 V)).wide hgs hgsh))
              have on5 := (Only.of_below b5 w2.heap.size wt.heap.size).trans ((only_setCell W5 gs t (.int .i64 V)).wide hgs hgsh)
              have d0 := (on5.cell (cell_lt d0) (.inr HG9.out)).trans d0
              have d1 := (on5.cell (cell_lt d1) (.inr HG9.out)).trans d1
              have HT5 := Lib.hid hst5
              change wpList _ _ _ _ _ w4.drew
              rw [← hW5]
              clear hW5 b5 z3' f3 d3 hst3 hst5 hgs hgsh on5
              go_wp2_with fail
              obtain ⟨w6, hw6⟩ : ∃ w6, w6 = W5.setCell ⟨gs, t, none⟩ (.int .i64 V) := ⟨_, rfl⟩
              rw [← hw6] at HT5 HON5 d0 d1 ⊢
              obtain ⟨gt, ct, hgt, hgth, d4, ⟨z4, z4'⟩, f4, hst4⟩ := tab_store HT5.out (show t < n by omega) (show s < n by omega)
              clear hz5 hf5 hw6
              go_wp2_with fail
              go_still_tail 11, (by decide +kernel)
              obtain ⟨W7, hW7⟩ : ∃ W7, W7 = w6.drew := ⟨_, rfl⟩
              have b7 : Below w6.heap.size w6 W7 := by rw [hW7]; exact below_drewN' (Below.refl _ _) 1
              have hz7 := (b7.cell (cell_lt z4')).trans z4'
              have hf7 : W7.frozen? ⟨gt, s, none⟩ = false := by rw [hW7]; exact f4
              have hst7 : TabV w2.heap.size wt.heap.size (W7.setCell ⟨gt, s, none⟩ (.int .i64 V)) (.slice (some ⟨w2.heap.size, 0, none⟩) n n) vs (sqT n fun a b => if a = t ∧ b = s then V else (if a = s ∧ b = t then V else tabP n m xss k a b)) := hst4 W7 V b7
              have HON7 := Lib.hid ((HON5.out.trans (Only.of_below b7 _ _)).trans ((only_setCell W7 gt s (.int .i64 V)).wide hgt hgth))
              have HT7 := Lib.hid hst7
              change wpList _ _ _ _ _ w6.drew
              rw [← hW7]
              clear hW7 b7 z4' f4 d4 hst4 hst7 hgt hgth d0 d1
              go_wp2_with fail
              go_roundw
              case rel =>
                refine ⟨k + 1, _, by omega, by go_num, rfl, ?_, HON7.out⟩
                have h9 := HT7.out
                rw [HV.out, tabP_step HST.out] at h9
                rw [HV.out]
                exact h9
              case measure => simp [intOf]; omega
          · have hke : k = N := by omega
            have hkn : ¬ (k : Int) < (N : Int) := by omega
            have HTE := Lib.hid (show T = tabK n m xss n by rw [HTK.out, hke, HNL2.out, tabP_all HG.out])
            clear hke hlt
            go_wp2_with fail
            go_ret2
            have h9 := HT.out
            have hon := HON.out
            have hs3 := HSZ3.out
            have hb3 := HB3.out.size
            have hb2 := HB2.out.size
            have hos := hon.size
            rw [HTE.out] at h9
            exact tabsTo2_mk HF.out ⟨vs, h9.wide hb2 (by omega)⟩ (below_then HB2.out (Only.below HB3.out hon (Nat.le_refl _) (by omega)))

end Go.Proofs.Ytcglncepmieaaaa
