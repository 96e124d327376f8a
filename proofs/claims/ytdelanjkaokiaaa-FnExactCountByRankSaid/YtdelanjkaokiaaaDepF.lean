/-
  Depths of sets, the model's: the contract of l08Depths.
-/
import Derived.Test.YtdelanjkaokiaaaDepS
import Derived.Test.YtdelanjkaokiaaaDepD
namespace Go.Proofs.Ytdelanjkaokiaaa
open Go.RowKit Go.Deep Go.ChangeShapes Go.WideShapes

/-- The numbers f 0 .. f (N - 1). -/
def rowF (N : Nat) (f : Nat → Int) : List Int := (List.range N).map f
theorem rowF_len (N : Nat) (f : Nat → Int) : (rowF N f).length = N := by simp [rowF]
theorem rowF_at {N : Nat} (f : Nat → Int) {k : Nat} (h : k < N) : (rowF N f)[k]? = some (f k) := by simp [rowF, h]
theorem rowF_congr {N : Nat} {f g : Nat → Int} (h : ∀ b, b < N → f b = g b) : rowF N f = rowF N g := List.map_congr_left (fun b hb => h b (List.mem_range.1 hb))
theorem rowF_set (N : Nat) (f : Nat → Int) (k : Nat) (v : Int) : (rowF N f).set k v = rowF N (fun b => if b = k then v else f b) := by
  apply List.ext_getElem?
  intro r
  rw [List.getElem?_set]
  unfold rowF
  by_cases hk : k = r
  · subst hk
    rw [if_pos rfl, List.getElem?_map, List.length_map, List.length_range]
    rcases Nat.lt_or_ge k N with h | h
    · rw [if_pos h, List.getElem?_range h]; simp
    · rw [if_neg (by omega), List.getElem?_eq_none (by simpa using h)]; rfl
  · rw [if_neg hk, List.getElem?_map, List.getElem?_map]
    rcases Nat.lt_or_ge r N with h | h
    · rw [List.getElem?_range h]; simp; intro e; exact absurd e.symm hk
    · rw [List.getElem?_eq_none (by simpa using h)]; rfl
theorem rowF_zero (N : Nat) : (madeCells #[Value.int .i64 0] (N * 1)).toList = (rowF N (fun _ => 0)).map (Value.int .i64) := by
  rw [Nat.mul_one, toList_madeCells_one]
  unfold rowF
  rw [List.map_map]
  exact (List.map_const' ..  |>.trans (by simp)).symm

theorem own_storeF {w : World} {base g c N : Nat} {f : Nat → Int} (h : w.ownsRow base 2 1 (.slice (some ⟨g, 0, none⟩) N c) N ((rowF N f).map (Value.int .i64))) (k : Nat) (v : Int) :
    (w.setCell ⟨g, k, none⟩ (.int .i64 v)).ownsRow base 2 1 (.slice (some ⟨g, 0, none⟩) N c) N ((rowF N (fun b => if b = k then v else f b)).map (Value.int .i64)) := by
  have h1 := (h.stored k (.int .i64 v)).1
  rw [← List.map_set, rowF_set] at h1
  exact h1

section
variable {mm : Nat} {bel : Nat → Nat → Nat → Nat}
/-- Some letter below x leads from b to known sets alone. -/
theorem lead_worst {f : Nat → Int} {be : Nat → Nat} : 0 ≤ worstS f be ↔ ∀ v, v < 4 → 0 ≤ f (be v) := by
  constructor
  · intro h v hv
    rcases Int.lt_or_le (f (be v)) 0 with h1 | h1
    · rw [worstS_no hv h1] at h; omega
    · exact h1
  · intro h
    rw [worstS_all h]
    have h0 : ∀ k, k ≤ 4 → 0 ≤ worstN f be k := by
      intro k
      induction k with
      | zero => intro _; exact Int.le_refl _
      | succ k ih =>
        intro hk
        have := ih (by omega)
        have h2 := h k (by omega)
        unfold worstN
        split <;> omega
    exact h0 4 (Nat.le_refl _)
/-- The sets below k that come new at d + 1. -/
def newN (mm : Nat) (bel : Nat → Nat → Nat → Nat) (d k : Nat) : List Nat := (List.range k).filter fun b => decide (¬ 0 ≤ depN mm bel d b) && decide (0 ≤ depN mm bel (d + 1) b)
theorem newN_mem {d k b : Nat} : b ∈ newN mm bel d k ↔ b < k ∧ ¬ 0 ≤ depN mm bel d b ∧ leadN mm bel d b := by
  unfold newN
  rw [List.mem_filter, List.mem_range, Bool.and_eq_true, decide_eq_true_eq, decide_eq_true_eq]
  constructor
  · rintro ⟨h1, h2, h3⟩
    refine ⟨h1, h2, ?_⟩
    rcases Classical.em (leadN mm bel d b) with h4 | h4
    · exact h4
    · rw [depN_no h2 h4] at h3; omega
  · rintro ⟨h1, h2, h3⟩
    exact ⟨h1, h2, by rw [depN_new h2 h3]; omega⟩
theorem newN_succ (d k : Nat) : newN mm bel d (k + 1) = newN mm bel d k ++ if ¬ 0 ≤ depN mm bel d k ∧ 0 ≤ depN mm bel (d + 1) k then [k] else [] := by
  unfold newN
  rw [List.range_succ, List.filter_append]
  congr 1
  split
  · rename_i h; rw [List.filter_cons_of_pos (by simp [h])]; rfl
  · rename_i h
    rw [List.filter_cons_of_neg]
    · rfl
    · simp only [Bool.and_eq_true, decide_eq_true_eq]
      exact h
theorem newN_len (d k : Nat) : (newN mm bel d k).length ≤ k := by
  unfold newN
  exact Nat.le_trans (List.length_filter_le _ _) (by simp)
/-- The depths when the first i of the new sets have theirs. -/
def stepF (mm : Nat) (bel : Nat → Nat → Nat → Nat) (d N i : Nat) : Nat → Int := fun b => if b ∈ (newN mm bel d N).take i then ((d + 1 : Nat) : Int) else depN mm bel d b
theorem stepF_0 (d N : Nat) : stepF mm bel d N 0 = depN mm bel d := by funext b; simp [stepF]
theorem stepF_succ {d N i b : Nat} (h : (newN mm bel d N)[i]? = some b) : (fun c => if c = b then ((d + 1 : Nat) : Int) else stepF mm bel d N i c) = stepF mm bel d N (i + 1) := by
  funext c
  unfold stepF
  rw [List.take_add_one, h]
  by_cases hc : c = b
  · subst hc; simp
  · simp [hc]
theorem stepF_all {d N : Nat} : ∀ b, b < N → stepF mm bel d N (newN mm bel d N).length b = depN mm bel (d + 1) b := by
  intro b hb
  unfold stepF
  rw [List.take_length]
  by_cases h : 0 ≤ depN mm bel d b
  · rw [if_neg (fun k => (newN_mem.1 k).2.1 h), depN_old h]
  · by_cases hl : leadN mm bel d b
    · rw [if_pos (newN_mem.2 ⟨hb, h, hl⟩), depN_new h hl]
    · rw [if_neg (fun k => hl (newN_mem.1 k).2.2), depN_no h hl, depN_neg h]
end

theorem info_intD : (Try.prog.info? 3).map (fun i => (i.zero, i.size, i.bytes)) = some (some (.int .i64 0), 1, 8) := by kernel_rfl
def natV (b : Nat) : Value := .int .i64 (b : Int)
/-- An automaton with lamps, as the model's functions are handed it, in whatever world. -/
structure LitAt (w : World) (p : Nat) (A : Option Addr) (n mm c : Nat) (xss : List (List Int)) (B : Option Addr) (d : Nat) (ls : List Int) : Prop where
  good : GoodL n mm xss ls
  box : LBox w p (n : Int) A mm c B n d
  rows : RowsAt w A mm xss
  lamps : NumsAt w B n ls
theorem LitAt.below {w w' : World} {p : Nat} {A : Option Addr} {n mm c : Nat} {xss : List (List Int)} {B : Option Addr} {d : Nat} {ls : List Int} (h : LitAt w p A n mm c xss B d ls) (hb : Below w.heap.size w w') : LitAt w' p A n mm c xss B d ls :=
  ⟨h.good, Box.below h.box hb, h.rows.below hb, h.lamps.below hb⟩

theorem Moved.wrap_512' {x : Nat} (h : x ≤ 1048576) : wrap64 (x : Int) = (x : Int) := by unfold wrap64; omega

set_option maxRecDepth 100000 in
set_option maxHeartbeats 8000000 in
theorem l08Depths_any (p : Nat) (A : Option Addr) (n mm c : Nat) (xss : List (List Int)) (B : Option Addr) (d : Nat) (ls : List Int) (w : World) (hL : LitAt w p A n mm c xss B d ls) :
    Calls Try.prog 50 #[.pointer (some ⟨p, 0, none⟩)] w fun e w' => ∃ g : Nat, e = .returned (.slice (some ⟨g, 0, none⟩) (2 ^ n) (2 ^ n)) ∧ w'.ownsRow w.heap.size 2 1 (.slice (some ⟨g, 0, none⟩) (2 ^ n) (2 ^ n)) (2 ^ n) ((rowF (2 ^ n) (depF mm (belB n xss ls))).map (Value.int .i64)) ∧ Below w.heap.size w w' := by
  obtain ⟨iI0, iI1, iI2, iI3, iI4⟩ := info_parts info_intD
  have HLI := Lib.hid hL
  have hn10 : n ≤ 10 := hL.good.good.n10
  have hm3 : mm ≤ 3 := hL.good.good.m3
  have hN : 2 ^ n ≤ 1024 := pow_le hn10
  obtain ⟨N, hNe⟩ : ∃ N, N = 2 ^ n := ⟨_, rfl⟩
  rw [← hNe] at hN ⊢
  have HNE := Lib.hid hNe
  obtain ⟨bel, hbel⟩ : ∃ bel, bel = belB n xss ls := ⟨_, rfl⟩
  rw [← hbel]
  have HBE := Lib.hid hbel
  have m0 := hL.box 0 _ rfl
  have hmk := run_make_row' (P := Try.prog) 25 2 (.int .i64 0) 8 Try.underlying25 info_int64 rfl .i64 .i64 N (by omega) (by omega)
  have hw2 : wrap64 ((2 : Int) ^ n) = (N : Int) := by
    rw [hNe, show ((2 : Int) ^ n) = ((2 ^ n : Nat) : Int) by push_cast; rfl]
    exact Moved.wrap_512' (by omega)
  have hNn : 0 ≤ (N : Int) := by omega
  clear hL hbel hNe
  go_enter Try.func50, Try.ntmps50
  go_wp2_with fail
  clear hmk hw2 m0
  obtain ⟨w1, hw1⟩ : ∃ w1, w1 = w.alloc (.cells (madeCells #[.int .i64 0] N) 2) := ⟨_, rfl⟩
  have o1 : w1.ownsRow w.heap.size 2 1 (.slice (some ⟨w.heap.size, 0, none⟩) N N) N ((rowF N (fun _ => 0)).map (Value.int .i64)) := by
    rw [← rowF_zero, hw1, Nat.mul_one]
    exact World.ownsRow_lit w _ N (Nat.le_refl _) (by unfold maxLen; omega) (by rw [size_madeCells, Nat.mul_one])
  have b1 : Below w.heap.size w w1 := by rw [hw1]; exact (Below.refl _ _).alloc (Nat.le_refl _) _
  rw [← hw1]
  have O1 := Lib.hid o1
  have B1 := Lib.hid b1
  obtain ⟨G, hG⟩ : ∃ G, G = w.heap.size := ⟨_, rfl⟩
  have HG := Lib.hid hG
  clear hw1 o1 b1
  rw [← hG] at O1 ⊢
  clear hG
  go_loopw [4] (fun kv wr => ∃ k : Nat, k ≤ N ∧ kv = .int .i64 k ∧ wr.ownsRow G 2 1 (.slice (some ⟨G, 0, none⟩) N N) N ((rowF N (fun b => if b < k then depN mm bel 0 b else 0)).map (Value.int .i64)) ∧ Below w.heap.size w wr) (fun kv _ => N - (intOf kv).toNat)
  case atStart => exact ⟨0, Nat.zero_le _, rfl, O1.out, B1.out⟩
  case round =>
    obtain ⟨k, hk, rfl, hown, hbel⟩ := hrel
    have HO := Lib.hid hown
    have HB := Lib.hid hbel
    have hk0 : (0 : Int) ≤ (k : Int) := by omega
    by_cases hlt : k < N
    · have hkN : (k : Int) < (N : Int) := by omega
      have hu : wr.cell? ⟨G, k, none⟩ = some (.int .i64 0) := by
        rw [hown.cellAt k (by omega), List.getElem?_map, rowF_at _ hlt]; simp
      have hf : wr.frozen? ⟨G, k, none⟩ = false := hown.frozenAt k
      have hst := own_storeF hown k (-1)
      have HS := Lib.hid hst
      clear hown hbel hst
      by_cases h1 : Lib.onesCount k ≤ 1
      · go_wp2_with fail
        refine (Moved.l02Single_any k wr (by omega)).mono ?_
        rw [decide_eq_true h1]
        rintro e w2 ⟨rfl, rfl⟩
        have H1 := Lib.hid h1
        clear h1
        go_wp2_with fail
        go_roundw
        case rel =>
          refine ⟨k + 1, by omega, by go_num, ?_, HB.out⟩
          rw [rowF_congr (g := fun b => if b < k then depN mm bel 0 b else 0)]
          · exact HO.out
          · intro b hb
            by_cases e : b = k
            · subst e; simp [depN_0, H1.out]
            · simp only [show b < k + 1 ↔ b < k from by omega]
        case measure => simp [intOf]; omega
      · go_wp2_with fail
        refine (Moved.l02Single_any k wr (by omega)).mono ?_
        rw [decide_eq_false h1]
        rintro e w2 ⟨rfl, rfl⟩
        have H1 := Lib.hid h1
        clear h1
        go_wp2_with fail
        go_roundw
        case rel =>
          refine ⟨k + 1, by omega, by go_num, ?_, HB.out.setCell (by rw [HG.out]; exact Nat.le_refl _) _⟩
          rw [rowF_congr (g := fun b => if b = k then -1 else (if b < k then depN mm bel 0 b else 0))]
          · exact HS.out
          · intro b hb
            by_cases e : b = k
            · subst e; simp [depN_0, H1.out]
            · simp only [show b < k + 1 ↔ b < k from by omega, if_neg e]
        case measure => simp [intOf]; omega
    · have hkN : k = N := by omega
      have HKN := Lib.hid hkN
      have HI := Lib.hid (show wr.ownsRow G 2 1 (.slice (some ⟨G, 0, none⟩) N N) N ((rowF N (depN mm bel 0)).map (Value.int .i64)) by
        rw [rowF_congr (g := fun b => if b < k then depN mm bel 0 b else 0)]
        · exact hown
        · intro b hb; rw [if_pos (by omega)])
      clear hkN hown hbel HO
      go_wp2_with fail
      have HB0 := Lib.hid HB.out
      clear HB
      go_loopw [5] (fun dv wo => ∃ (dd : Nat) (DI : Int), dv = .int .i64 DI ∧ DI = ((dd + 1 : Nat) : Int) ∧ dd ≤ knownN mm bel N dd ∧ wo.ownsRow G 2 1 (.slice (some ⟨G, 0, none⟩) N N) N ((rowF N (depN mm bel dd)).map (Value.int .i64)) ∧ Below w.heap.size w wo) (fun dv _ => 1026 - (intOf dv).toNat)
      case atStart => exact ⟨0, 1, rfl, rfl, Nat.zero_le _, HI.out, HB0.out⟩
      case round =>
        obtain ⟨dd, DI, rfl, hDI, hkn, hown, hbel⟩ := hrel
        have HDI := Lib.hid hDI
        have hdN : dd ≤ N := Nat.le_trans hkn (knownN_le N dd)
        have hDI1 : 1 ≤ DI := by omega
        have hDI2 : DI ≤ 1025 := by omega
        clear hDI
        have HKN := Lib.hid hkn
        have HO := Lib.hid hown
        have HB := Lib.hid hbel
        have HGL := Lib.hid (hown.lt G rfl).2
        obtain ⟨wo, hwo⟩ : ∃ wo, wo = wr := ⟨_, rfl⟩
        rw [← hwo] at HO HB HGL ⊢
        clear hkn hown hbel HI HB0 hwo
        go_wp2_with fail
        have HL0 := Lib.hid (HLI.out.below HB.out)
        go_loopw [6, 7] (fun fv kv wi => ∃ (k : Nat) (L : List Nat), k ≤ N ∧ kv = .int .i64 k ∧ L = newN mm bel dd k ∧ wi.ownsRow wo.heap.size 3 1 fv L.length (L.map natV) ∧ Below wo.heap.size wo wi) (fun _ kv _ => N - (intOf kv).toNat)
        case atStart => exact ⟨0, [], Nat.zero_le _, rfl, rfl, World.ownsRow_lit (e := 3) wo #[] 0 (Nat.le_refl _) (Nat.zero_le _) rfl, (Below.refl _ _).alloc (Nat.le_refl _) _⟩
        case round =>
          obtain ⟨k, L, hk, rfl, hL, hfo, hbel⟩ := hrel
          obtain ⟨wi, hwi⟩ : ∃ wi, wi = wr := ⟨_, rfl⟩
          rw [← hwi] at hfo hbel ⊢
          clear hwi
          obtain ⟨A6, c6, rfl⟩ := own_form hfo
          have HFO := Lib.hid hfo
          have HB1 := Lib.hid hbel
          have HLE := Lib.hid hL
          have hLl : L.length ≤ 1024 := by rw [hL]; exact Nat.le_trans (newN_len _ _) (by omega)
          have hk0 : (0 : Int) ≤ (k : Int) := by omega
          clear hfo hbel hL
          by_cases hlt : k < N
          · have hkN : (k : Int) < (N : Int) := by omega
            go_wp2_with fail
            go_loopw [6, 8] (fun fv xv wj => ∃ x : Nat, x ≤ mm ∧ xv = .int .i64 x ∧ fv = .slice A6 L.length c6 ∧ (∀ y, y < x → ¬ ∀ v, v < 4 → 0 ≤ depN mm bel dd (bel k y v)) ∧ Below wi.heap.size wi wj) (fun _ xv _ => mm - (intOf xv).toNat)
            case atStart => exact ⟨0, Nat.zero_le _, rfl, rfl, fun y hy => absurd hy (Nat.not_lt_zero _), Below.refl _ _⟩
            case round =>
              obtain ⟨x, hx, rfl, rfl, hno, hbel⟩ := hrel
              obtain ⟨wj, hwj⟩ : ∃ wj, wj = wr := ⟨_, rfl⟩
              rw [← hwj] at hbel ⊢
              clear hwj
              have HNO := Lib.hid hno
              have HBJ := Lib.hid hbel
              have HB2 := Lib.hid (below_then HB1.out hbel)
              have HFJ := Lib.hid (own_below HFO.out hbel)
              have HLJ := Lib.hid (HL0.out.below (below_then HB1.out hbel))
              have hoj := own_below HO.out (below_then HB1.out hbel)
              have HOJ := Lib.hid hoj
              have hx0 : (0 : Int) ≤ (x : Int) := by omega
              have q1 := HLJ.out.box 1 _ rfl
              obtain ⟨V, hV⟩ : ∃ V, V = depN mm bel dd k := ⟨_, rfl⟩
              have HV := Lib.hid hV
              have hck : wj.cell? ⟨G, k, none⟩ = some (.int .i64 V) := by
                rw [hoj.cellAt k (by omega), List.getElem?_map, rowF_at _ hlt, hV]; rfl
              clear hno hbel hoj hV
              by_cases hxm : x < mm
              · have hxmi : (x : Int) < (mm : Int) := by omega
                by_cases hneg : V < 0
                · have HNEG := Lib.hid hneg
                  have hnd : NumsAt wj (some ⟨G, 0, none⟩) N (rowF N (depN mm bel dd)) := NumsAt.own HOJ.out (rowF_len _ _) rfl
                  have HND := Lib.hid hnd
                  have HBND := Lib.hid (show ∀ b, b < 2 ^ n → (rowF N (depN mm bel dd))[b]? = some (depN mm bel dd b) from fun b hb => rowF_at _ (by rw [HNE.out]; exact hb))
                  have HKN2 := Lib.hid (show k < 2 ^ n by rw [← HNE.out]; exact hlt)
                  clear hnd
                  go_wp2_with fail
                  refine (l08Worst_any p A n mm c xss B n d ls (some ⟨G, 0, none⟩) N N (rowF N (depN mm bel dd)) (depN mm bel dd) k x wj HLJ.out.good HLJ.out.box HLJ.out.rows HLJ.out.lamps HND.out HNE.out HBND.out HKN2.out hxm).mono ?_
                  rw [← HBE.out]
                  rintro e w5 ⟨rfl, b5⟩
                  obtain ⟨WO, hWO⟩ : ∃ WO, WO = worstS (depN mm bel dd) (bel k x) := ⟨_, rfl⟩
                  rw [← hWO]
                  have HWO := Lib.hid hWO
                  have HB5 := Lib.hid (below_then HB2.out b5)
                  have HB25 := Lib.hid b5
                  have HF5 := Lib.hid (own_below HFJ.out b5)
                  clear b5 hWO hck q1
                  by_cases hw0 : 0 ≤ WO
                  · have HLD := Lib.hid (show leadN mm bel dd k from ⟨x, hxm, lead_worst.1 (by rw [← HWO.out]; exact hw0)⟩)
                    have hLE := Lib.hid (show wo.heap.size ≤ w5.heap.size from HB5.out.size)
                    have hnn : ¬ 0 ≤ depN mm bel dd k := by rw [← HV.out]; omega
                    have HNW := Lib.hid (show newN mm bel dd (k + 1) = L ++ [k] by rw [newN_succ, if_pos ⟨hnn, by rw [depN_new hnn HLD.out]; omega⟩, HLE.out])
                    clear hnn
                    go_wp2_with (at_builtin; refine wpList_append_own _ rfl _ _ 96 rfl wo.heap.size 3 iI0 (.int .i64 0) 1 8 Try.underlying96 iI1 iI2 iI3 iI4 rfl (by decide) _ _ _ rfl (World.ownsRow.alloc (HF5.out) _) ⟨_, 0, none⟩ 1 1 [.int .i64 (k : Int)] rfl rfl (cell_one_new _ _ _) (ones_i64 [(k : Int)]) (by unfold maxLen; omega) (by omega) (by rw [World.size_alloc]; exact Nat.le_succ_of_le hLE.out) ?_)
                    intro v' w6 hown' hgrow _
                    have ba : Below w5.heap.size w5 (w5.alloc (.cells #[.int .i64 (k : Int)] 3)) := (Below.refl _ _).alloc (Nat.le_refl _) _
                    have HB6 := Lib.hid (below_grown (below_then HB5.out ba) hgrow (fun g hg => (HF5.out.lt g hg).1))
                    have HO6 := Lib.hid hown'
                    clear hown' hgrow ba
                    go_wp2_with fail
                    go_roundw
                    case rel => exact ⟨k + 1, L ++ [k], by omega, by go_num, HNW.out.symm, by rw [List.length_append, List.map_append]; exact HO6.out, HB6.out⟩
                    case measure => simp [intOf]; omega
                  · have HNL := Lib.hid (show ¬ ∀ v, v < 4 → 0 ≤ depN mm bel dd (bel k x v) from fun h => hw0 (by rw [HWO.out]; exact lead_worst.2 h))
                    go_wp2_with fail
                    go_roundw
                    case rel =>
                      refine ⟨x + 1, by omega, by go_num, rfl, fun y hy => ?_, HBJ.out.trans (HB25.out.mono HBJ.out.size)⟩
                      by_cases e : y < x
                      · exact HNO.out y e
                      · obtain rfl : y = x := by omega
                        exact HNL.out
                    case measure => simp [intOf]; omega
                · go_wp2_with fail
                  go_roundw
                  case rel => exact ⟨k + 1, L, by omega, by go_num, by rw [newN_succ, if_neg (fun h => h.1 (by rw [← HV.out]; omega)), List.append_nil]; exact HLE.out, HFJ.out, HB2.out⟩
                  case measure => simp [intOf]; omega
              · have hxmi : ¬ (x : Int) < (mm : Int) := by omega
                have HXE := Lib.hid (show x = mm by omega)
                go_wp2_with fail
                go_roundw
                case rel =>
                  refine ⟨k + 1, L, by omega, by go_num, ?_, HFJ.out, HB2.out⟩
                  rw [newN_succ, if_neg, List.append_nil]
                  · exact HLE.out
                  · rintro ⟨h1, h2⟩
                    have h3 : ¬ leadN mm bel dd k := by rintro ⟨y, hy, hv⟩; exact HNO.out y (by rw [HXE.out]; exact hy) hv
                    rw [depN_no h1 h3] at h2
                    omega
                case measure => simp [intOf]; omega
          · have hkN : k = N := by omega
            have HKE := Lib.hid hkN
            clear hkN
            have HB2 := Lib.hid (HB.out.trans (HB1.out.mono HB.out.size))
            have HO1' := Lib.hid (own_below HO.out HB1.out)
            go_wp2_with fail
            go_loopw [9] (fun iv wj => ∃ i : Nat, i ≤ L.length ∧ iv = .int .i64 i ∧ wj.ownsRow G 2 1 (.slice (some ⟨G, 0, none⟩) N N) N ((rowF N (stepF mm bel dd N i)).map (Value.int .i64)) ∧ wj.ownsRow wo.heap.size 3 1 (.slice A6 L.length c6) L.length (L.map natV) ∧ Below w.heap.size w wj) (fun iv _ => L.length - (intOf iv).toNat)
            case atStart => exact ⟨0, Nat.zero_le _, rfl, by rw [stepF_0]; exact HO1'.out, HFO.out, HB2.out⟩
            case round =>
              obtain ⟨i, hi, rfl, hout, hfnd, hbel⟩ := hrel
              obtain ⟨wj, hwj⟩ : ∃ wj, wj = wr := ⟨_, rfl⟩
              rw [← hwj] at hout hfnd hbel ⊢
              clear hwj
              have HOU := Lib.hid hout
              have HFD := Lib.hid hfnd
              have HBJ := Lib.hid hbel
              have hi0 : (0 : Int) ≤ (i : Int) := by omega
              clear hbel
              by_cases hil : i < L.length
              · have hii : (i : Int) < (L.length : Int) := by omega
                obtain ⟨b, hb⟩ : ∃ b, L[i]? = some b := ⟨L[i], List.getElem?_eq_getElem hil⟩
                obtain ⟨g6, rfl⟩ := own_addr hfnd (by omega)
                have hbN : b < N := by
                  have h1 := List.mem_of_getElem? hb
                  rw [HLE.out, newN_mem, HKE.out] at h1
                  exact h1.1
                have c1 : wj.cell? ⟨g6, i, none⟩ = some (.int .i64 (b : Int)) := by
                  rw [hfnd.cellAt i (by omega), List.getElem?_map, hb]; rfl
                have hb0 : (0 : Int) ≤ (b : Int) := by omega
                have hbN' : (b : Int) < (N : Int) := by omega
                obtain ⟨u, hu⟩ : ∃ u, wj.cell? ⟨G, b, none⟩ = some u := by
                  rw [hout.cellAt b (by omega), List.getElem?_map, rowF_at _ hbN]; exact ⟨_, rfl⟩
                have hf : wj.frozen? ⟨G, b, none⟩ = false := hout.frozenAt b
                have HST := Lib.hid (by have h9 := own_storeF hout b DI; rw [HDI.out, stepF_succ (by rw [← HKE.out, ← HLE.out]; exact hb), ← HDI.out] at h9; exact h9)
                have HF2 := Lib.hid ((only_setCellL wj G b (.int .i64 DI)).own hfnd (fun g' hg' => .inr (by have h1 := HGL.out; have h2 := (hfnd.lt g' hg').1; omega)))
                have HB3 := Lib.hid (HBJ.out.setCell (p := ⟨G, b, none⟩) (by rw [HG.out]; exact Nat.le_refl _) (.int .i64 DI))
                clear hout hfnd hb
                go_wp2_with fail
                go_roundw
                case rel => exact ⟨i + 1, by omega, by go_num, HST.out, HF2.out, HB3.out⟩
                case measure => simp [intOf]; omega
              · have hie : i = L.length := by omega
                have HIE := Lib.hid hie
                have HOUT2 := Lib.hid (by have h9 := hout; rw [hie, HLE.out, HKE.out, rowF_congr stepF_all] at h9; exact h9)
                clear hie hout hfnd
                by_cases hl0 : L.length = 0
                · have hle : ((L.length : Int) == 0) = true := by rw [hl0]; rfl
                  have HL0' := Lib.hid hl0
                  have HOLD := Lib.hid (own_below HO.out HB1.out)
                  have HE0 := Lib.hid (show newN mm bel dd N = [] by rw [← HKE.out, ← HLE.out]; exact List.eq_nil_of_length_eq_zero hl0)
                  have hi00 : i = 0 := by rw [HIE.out]; exact hl0
                  clear hl0
                  go_wp2_with fail
                  go_ret
                  refine ⟨G, rfl, ?_, HBJ.out⟩
                  have h9 := HOUT2.out
                  have hst : ∀ b, b < N → depN mm bel (dd + 1) b = depF mm bel b := by
                    intro b hb
                    have hno : ∀ b, b < N → ¬ 0 ≤ depN mm bel dd b → ¬ leadN mm bel dd b := by
                      intro b hb h1 h2
                      have h3 := newN_mem.2 ⟨hb, h1, h2⟩
                      rw [HE0.out] at h3
                      cases h3
                    have hbl : ∀ b x v, b < N → x < mm → v < 4 → bel b x v < N := by
                      intro b x v _ hx _
                      rw [HBE.out, HNE.out]
                      exact belB_lt HLI.out.good b x v hx
                    have h4 := depF_of hno hbl (Nat.le_trans hdN hN) hb
                    rw [← h4]
                    exact depN_stable hno hbl 1 b hb
                  rw [rowF_congr hst] at h9
                  exact own_base h9 (by rw [HG.out]; exact Nat.le_refl _)
                · have hle : ((L.length : Int) == 0) = false := by rw [beq_eq_false_iff_ne]; omega
                  have HNE0 := Lib.hid hl0
                  have hd0 : dd + 1 ≤ N + 1 := by omega
                  go_wp2_with fail
                  go_roundw
                  case rel =>
                    refine ⟨dd + 1, DI + 1, by go_num, by rw [HDI.out]; push_cast; rfl, ?_, HOUT2.out, HBJ.out⟩
                    obtain ⟨b, hb⟩ : ∃ b, b ∈ newN mm bel dd N := by
                      rw [← HKE.out, ← HLE.out]
                      exact List.exists_mem_of_length_pos (by have := HNE0.out; omega)
                    have h1 := newN_mem.1 hb
                    have h2 := knownN_lt h1.1 h1.2.1 h1.2.2
                    have h3 := HKN.out
                    omega
                  case measure => have := HDI.out; simp [intOf]; omega

end Go.Proofs.Ytdelanjkaokiaaa
