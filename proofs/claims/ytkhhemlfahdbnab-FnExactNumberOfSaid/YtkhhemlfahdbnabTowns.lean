/-
  Towns with their arrangements and units: the contracts of townsOf and countColourings; both CountColourings.
-/
import Derived.Test.YtkhhemlfahdbnabChs
import Derived.Test.YtkhhemlfahdbnabOwn2
namespace Go.Proofs.Ytkhhemlfahdbnab
open Go.RowKit Go.Deep Go.ChangeShapes Go.WideShapes

/-- How many colourings the last d of n towns have. -/
def uD (X : List (List (List Int))) (n : Nat) : Nat → Nat
  | 0 => 1
  | d + 1 => uD X n d * (X.getD (n - 1 - d) []).length
theorem uD_le {X : List (List (List Int))} (h : ∀ x ∈ X, x.length ≤ 6) (n : Nat) : ∀ d, uD X n d ≤ 6 ^ d
  | 0 => Nat.le_refl _
  | d + 1 => by
    have ih := uD_le h n d
    have h2 : (X.getD (n - 1 - d) []).length ≤ 6 := by
      rw [List.getD_eq_getElem?_getD]
      rcases hx : X[n - 1 - d]? with _ | x
      · exact Nat.zero_le _
      · exact h x (List.mem_of_getElem? hx)
    rw [uD, Nat.pow_succ]
    exact Nat.mul_le_mul ih h2
theorem uD_small {X : List (List (List Int))} (h : ∀ x ∈ X, x.length ≤ 6) {n d : Nat} (hd : d ≤ 7) : uD X n d ≤ 279936 := by
  refine Nat.le_trans (uD_le h n d) ?_
  exact Nat.le_trans (Nat.pow_le_pow_right (by decide) hd) (by decide)
theorem uD_cnt (X : List (List (List Int))) (n : Nat) : ∀ d, d ≤ n → uD X n d * cntC X (n - d) = cntC X n
  | 0, _ => by simp [uD]
  | d + 1, h => by
    have ih := uD_cnt X n d (by omega)
    rw [show n - d = (n - (d + 1)) + 1 by omega, cntC, show n - (d + 1) = n - 1 - d by omega] at ih
    rw [uD, show n - (d + 1) = n - 1 - d by omega, ← ih, Nat.mul_assoc, Nat.mul_comm (cntC X (n - 1 - d))]
theorem uD_all (X : List (List (List Int))) (n : Nat) : uD X n n = cntC X n := by
  have := uD_cnt X n n (Nat.le_refl _)
  rw [Nat.sub_self] at this
  simpa [cntC] using this

theorem info_town : (Try.prog.info? 107).map (fun i => (i.zero, i.size, i.bytes)) = some (some (.agg #[.slice none 0 0, .int .i64 0]), 2, 32) := by kernel_rfl

/-- The towns from the k-th on, in the block G: their arrangements, in blocks behind G, and their units. -/
def TownsAt (G n k : Nat) (X : List (List (List Int))) (w : World) : Prop :=
  ∃ cs : List Value, w.ownsRow G 107 2 (.slice (some ⟨G, 0, none⟩) n n) n cs ∧
    ∀ s, k ≤ s → s < n → ∃ u l h, cs[s * 2]? = some u ∧ cs[s * 2 + 1]? = some (.int .i64 ((uD X n (n - 1 - s) : Nat) : Int)) ∧ G < l ∧ h ≤ w.heap.size ∧ TabIn l h w u (X.getD s [])
theorem TownsAt.below {G n k : Nat} {X : List (List (List Int))} {w w' : World} (h : TownsAt G n k X w) (hb : Below w.heap.size w w') : TownsAt G n k X w' := by
  obtain ⟨cs, h1, h2⟩ := h
  refine ⟨cs, own2_below h1 hb, fun s hs hn => ?_⟩
  obtain ⟨u, l, hh, e1, e2, e3, e4, e5⟩ := h2 s hs hn
  exact ⟨u, l, hh, e1, e2, e3, Nat.le_trans e4 hb.size, e5.below hb⟩
theorem TownsAt.store {G n k l hh : Nat} {X : List (List (List Int))} {w : World} {u : Value} (h : TownsAt G n (k + 1) X w) (hk : k < n) (hl : G < l) (hhs : hh ≤ w.heap.size) (ht : TabIn l hh w u (X.getD k [])) :
    TownsAt G n k X ((w.setCell ⟨G, k * 2, none⟩ u).setCell ⟨G, k * 2 + 1, none⟩ (.int .i64 ((uD X n (n - 1 - k) : Nat) : Int))) := by
  obtain ⟨cs, h1, h2⟩ := h
  have hlen := h1.1
  have g1 := (h1.stored (k * 2) u).1
  have g2 := (g1.stored (k * 2 + 1) (.int .i64 ((uD X n (n - 1 - k) : Nat) : Int))).1
  have ho : Only G (G + 1) w ((w.setCell ⟨G, k * 2, none⟩ u).setCell ⟨G, k * 2 + 1, none⟩ (.int .i64 ((uD X n (n - 1 - k) : Nat) : Int))) := (only_setCell w G _ _).trans (only_setCell _ G _ _)
  have hz : ((w.setCell ⟨G, k * 2, none⟩ u).setCell ⟨G, k * 2 + 1, none⟩ (.int .i64 ((uD X n (n - 1 - k) : Nat) : Int))).heap.size = w.heap.size := by rw [World.size_setCell, World.size_setCell]
  refine ⟨_, g2, fun s hs hn => ?_⟩
  rw [hz]
  by_cases hsk : s = k
  · subst hsk
    refine ⟨u, l, hh, ?_, ?_, hl, hhs, ht.only ho (.inr hl)⟩
    · rw [List.getElem?_set_ne (by omega), List.getElem?_set_self (by omega)]
    · rw [List.getElem?_set_self (by rw [List.length_set]; omega)]
  · obtain ⟨u', l', h', e1, e2, e3, e4, e5⟩ := h2 s (by omega) hn
    refine ⟨u', l', h', ?_, ?_, e3, e4, e5.only ho (.inr e3)⟩
    · rw [List.getElem?_set_ne (by omega), List.getElem?_set_ne (by omega)]
      exact e1
    · rw [List.getElem?_set_ne (by omega), List.getElem?_set_ne (by omega)]
      exact e2
theorem TownsAt.cells {G n k s : Nat} {X : List (List (List Int))} {w : World} (h : TownsAt G n k X w) (hk : k ≤ s) (hs : s < n) :
    ∃ A c, w.cell? ⟨G, s * 2, none⟩ = some (.slice A (X.getD s []).length c) ∧ w.cell? ⟨G, s * 2 + 1, none⟩ = some (.int .i64 ((uD X n (n - 1 - s) : Nat) : Int)) ∧ RowsAt w A (X.getD s []).length (X.getD s []) := by
  obtain ⟨cs, h1, h2⟩ := h
  obtain ⟨u, l, hh, e1, e2, e3, e4, e5⟩ := h2 s hk hs
  obtain ⟨A, c, rfl⟩ := e5.form
  refine ⟨A, c, ?_, ?_, e5.rows rfl⟩
  · rw [h1.cellAt (s * 2) (by omega), e1]
  · rw [h1.cellAt (s * 2 + 1) (by omega), e2]
theorem choF_getD {m k : Nat} {xss : List (List Int)} {xs : List Int} (h : xss[k]? = some xs) : (choF m xss).getD k [] = arrF m xs := by
  unfold choF; rw [List.getD_eq_getElem?_getD, List.getElem?_map, h]; rfl
theorem choF_length (m : Nat) (xss : List (List Int)) : (choF m xss).length = xss.length := by unfold choF; rw [List.length_map]

set_option maxRecDepth 100000 in
theorem count_any (A : Option Addr) (n c : Nat) (w : World) : Calls Try.prog 132 #[.slice A n c] w fun e w' => e = .returned (.int .i64 (n : Int)) ∧ w = w' := by
  go_enter Try.func132, Try.ntmps132
  go_wp2_with fail
  go_ret
  exact ⟨rfl, rfl⟩

set_option maxRecDepth 100000 in
set_option maxHeartbeats 4000000 in
theorem townsOf_any (n m cap : Nat) (A : Option Addr) (xss : List (List Int)) (w : World) (hg : GoodR n m xss) (h : RowsC w A n xss) :
    Calls Try.prog 73 #[.agg #[.int .i64 (n : Int), .slice A n cap]] w fun e w' => ∃ G, e = .returned (.slice (some ⟨G, 0, none⟩) n n) ∧ TownsAt G n 0 (choF m xss) w' ∧ w.heap.size ≤ G ∧ Below w.heap.size w w' := by
  have HG := Lib.hid hg
  have hn1 := hg.n1
  have hn7 := hg.n7
  have hm3 := hg.m3
  obtain ⟨X, hX⟩ : ∃ X, X = choF m xss := ⟨_, rfl⟩
  have HX := Lib.hid hX
  have HXS := Lib.hid (show ∀ x ∈ X, x.length ≤ 6 by rw [hX]; exact choF_le hm3 xss)
  obtain ⟨w1, hw1⟩ : ∃ w1, w1 = w.alloc (.cells #[.int .i64 (n : Int), .slice A n cap] 28) := ⟨_, rfl⟩
  have b1 : Below w.heap.size w w1 := by rw [hw1]; exact (Below.refl _ _).alloc (Nat.le_refl _) _
  have x0 : w1.cell? ⟨w.heap.size, 0, none⟩ = some (.int .i64 (n : Int)) := by rw [hw1]; go_cell
  have x1 : w1.cell? ⟨w.heap.size, 1, none⟩ = some (.slice A n cap) := by rw [hw1]; go_cell
  obtain ⟨i0, hi, hz0, hz1, hz2⟩ := info_parts info_town
  obtain ⟨w2, hmk, hown, hgr⟩ := run_makeSlice_full (P := Try.prog) w1 w1.heap.size 92 107 i0 (.agg #[.slice none 0 0, .int .i64 0]) 2 Try.underlying92 hi hz0 hz1 .i64 .i64 n (by omega) (by rw [hz2]; omega) (by unfold maxLen; omega) (Nat.le_refl _)
  have hs1 : w1.heap.size = w.heap.size + 1 := by rw [hw1]; simp
  have HS1 := Lib.hid hs1
  have b2 : Below w1.heap.size w1 w2 := (Below.refl _ _).grown hgr (Nat.le_refl _) (fun g hg => by cases hg)
  rw [hs1] at hown hmk
  have HT0 := Lib.hid (show TownsAt (w.heap.size + 1) n n X w2 from ⟨_, hown, fun s hs hn => absurd hn (by omega)⟩)
  have HZ := Lib.hid (show w.heap.size + 2 ≤ w2.heap.size by have := (hown.lt (w.heap.size + 1) rfl).2; omega)
  have HH := Lib.hid (h.below b1)
  have HW := Lib.hid hw1
  have W1 := Lib.hid b1
  have B2 := Lib.hid b2
  have X1 := Lib.hid x1
  have hwr : IntKind.i64.wrap ((n : Int) - 1) = (n : Int) - 1 := IntWalk.i64_in _ (by omega)
  rw [← hX]
  rw [hw1] at x0 x1 hmk
  clear hg h hX hw1 b1 b2 hown hgr hs1
  go_enter Try.func73, Try.ntmps73
  go_wp2_with fail
  clear x0 x1 hmk hwr
  go_loopw [4, 5] (fun uv iv wr => ∃ d : Nat, d ≤ n ∧ iv = .int .i64 ((n : Int) - 1 - (d : Int)) ∧ uv = .int .i64 ((uD X n d : Nat) : Int) ∧ TownsAt (w.heap.size + 1) n (n - d) X wr ∧ Below w1.heap.size w1 wr ∧ w.heap.size + 2 ≤ wr.heap.size) (fun _ iv _ => (intOf iv + 1).toNat)
  case atStart => exact ⟨0, Nat.zero_le _, by simp, rfl, by obtain ⟨cs, h1, h2⟩ := HT0.out; exact ⟨cs, h1, fun s hs hn => absurd hn (by omega)⟩, B2.out, HZ.out⟩
  case round =>
    obtain ⟨d, hd, rfl, rfl, htw, hbel, hge⟩ := hrel
    have HT := Lib.hid htw
    have HB := Lib.hid hbel
    have HGE := Lib.hid hge
    have d1 := (hbel.cell (cell_lt X1.out)).trans X1.out
    clear htw hge
    by_cases hlt : d < n
    · obtain ⟨k, hk⟩ : ∃ k, k = n - 1 - d := ⟨_, rfl⟩
      have hik : (n : Int) - 1 - (d : Int) = (k : Int) := by omega
      rw [hik]
      have hkn : k < n := by omega
      have hnd : n - d = k + 1 := by omega
      have htw := HT.out
      rw [hnd] at htw
      have HT := Lib.hid htw
      have HKE := Lib.hid hk
      obtain ⟨row, hrow, hrl, hrb, _⟩ := HG.out.row k hkn
      obtain ⟨b, off, v, hA, hcr, hcv⟩ := (HH.out.below hbel).2 k row hrow
      subst hA
      obtain ⟨A7, c7, rfl, hn7', hc7, hz7⟩ := hcv
      have HCV := Lib.hid (show CapAt wr (.slice A7 row.length c7) row from ⟨A7, c7, rfl, hn7', hc7, hz7⟩)
      have HXK := Lib.hid (show X.getD k [] = arrF m row by rw [HX.out]; exact choF_getD hrow)
      have hus := uD_small HXS.out (n := n) (show d + 1 ≤ 7 by omega)
      have huD : uD X n (d + 1) = uD X n d * (arrF m row).length := by rw [uD, ← hk, HXK.out]
      have HUD := Lib.hid huD
      have hud1 : n - 1 - k = d := by omega
      have HU1 := Lib.hid hud1
      obtain ⟨U, hU⟩ : ∃ U : Int, U = ((uD X n d : Nat) : Int) := ⟨_, rfl⟩
      obtain ⟨LA, hLA⟩ : ∃ LA, LA = arrF m row := ⟨_, rfl⟩
      obtain ⟨U2, hU2⟩ : ∃ U2 : Int, U2 = ((uD X n (d + 1) : Nat) : Int) := ⟨_, rfl⟩
      have hmul : IntKind.i64.wrap (U * (LA.length : Int)) = U2 := by
        rw [hU2, huD, hU, hLA, Int.natCast_mul]
        refine IntWalk.i64_in _ ?_
        rw [← Int.natCast_mul, ← huD]
        omega
      have hdec : IntKind.i64.wrap ((k : Int) - 1) = (k : Int) - 1 := IntWalk.i64_in _ (by omega)
      have HU := Lib.hid hU
      have HU2 := Lib.hid hU2
      have HLA := Lib.hid hLA
      have HRL := Lib.hid hrl
      have i1 : (0 : Int) ≤ (k : Int) := by omega
      have i2 : (k : Int) < (n : Int) := by omega
      rw [← hU]
      clear hrow hrl hrb hn7' hc7 hz7 hbel htw hk hus huD hud1 hU hU2 hik hnd hLA
      go_wp2_with fail
      refine (arrangementsOf_any m (.slice A7 row.length c7) row wr HRL.out hm3 HCV.out).mono ?_
      rintro e w4 ⟨u, rfl, t4, b4⟩
      rw [← HLA.out] at t4
      obtain ⟨A5, c5, rfl⟩ := t4.form
      have ht5 : TabIn wr.heap.size w4.heap.size w4 (.slice A5 LA.length c5) (X.getD k []) := by rw [HXK.out, ← HLA.out]; exact t4
      have hst := (HT.out.below b4).store hkn (show w.heap.size + 1 < wr.heap.size from HGE.out) (Nat.le_refl _) ht5
      rw [HU1.out, ← HU.out] at hst
      obtain ⟨cs, hr1, _⟩ := HT.out.below b4
      have hcl := hr1.1
      obtain ⟨u0, hu0⟩ : ∃ u, w4.cell? ⟨w.heap.size + 1, k * 2, none⟩ = some u := ⟨cs[k * 2]'(by omega), by rw [hr1.cellAt (k * 2) (by omega)]; exact List.getElem?_eq_getElem _⟩
      have g1 := (hr1.stored (k * 2) (.slice A5 LA.length c5)).1
      obtain ⟨u1, hu1⟩ : ∃ u, (w4.setCell ⟨w.heap.size + 1, k * 2, none⟩ (.slice A5 LA.length c5)).cell? ⟨w.heap.size + 1, k * 2 + 1, none⟩ = some u :=
        ⟨(cs.set (k * 2) (.slice A5 LA.length c5))[k * 2 + 1]'(by rw [List.length_set]; omega), by rw [g1.cellAt (k * 2 + 1) (by omega)]; exact List.getElem?_eq_getElem _⟩
      have f0 : w4.frozen? ⟨w.heap.size + 1, k * 2, none⟩ = false := hr1.frozenAt _
      have f1 : (w4.setCell ⟨w.heap.size + 1, k * 2, none⟩ (.slice A5 LA.length c5)).frozen? ⟨w.heap.size + 1, k * 2 + 1, none⟩ = false := g1.frozenAt _
      obtain ⟨w5, hw5⟩ : ∃ w5, w5 = (w4.setCell ⟨w.heap.size + 1, k * 2, none⟩ (.slice A5 LA.length c5)).setCell ⟨w.heap.size + 1, k * 2 + 1, none⟩ (.int .i64 U) := ⟨_, rfl⟩
      have hc5 : w5.cell? ⟨w.heap.size + 1, k * 2, none⟩ = some (.slice A5 LA.length c5) := by
        have g2 := (g1.stored (k * 2 + 1) (.int .i64 U)).1
        rw [hw5, g2.cellAt (k * 2) (by omega), List.getElem?_set_ne (by omega), List.getElem?_set_self (by omega)]
      have HST := Lib.hid (show TownsAt (w.heap.size + 1) n k X w5 by rw [hw5]; exact hst)
      have HB5 := Lib.hid (show Below w1.heap.size w1 w5 by rw [hw5]; exact ((below_then HB.out b4).setCell (by have := HS1.out; simp; omega) _).setCell (by have := HS1.out; simp; omega) _)
      have HGE5 := Lib.hid (show w.heap.size + 2 ≤ w5.heap.size by rw [hw5, World.size_setCell, World.size_setCell]; have := HGE.out; have := b4.size; omega)
      have HW5 := Lib.hid hw5
      rw [hw5] at hc5
      clear t4 b4 ht5 hst hr1 hcl g1 hw5 hcr d1
      go_wp2_with (go_at_call 132; refine (count_any _ _ _ _).mono ?_; rintro e w' ⟨rfl, rfl⟩)
      rw [← HW5.out]
      go_roundw
      case rel =>
        have hke := HKE.out
        exact ⟨d + 1, by omega, by go_num, by rw [HU2.out], by rw [show n - (d + 1) = k by omega]; exact HST.out, HB5.out, HGE5.out⟩
      case measure => simp [intOf] <;> omega
    · have hde : d = n := by omega
      have HDE := Lib.hid hde
      have hneg : ¬ (0 : Int) ≤ (n : Int) - 1 - (d : Int) := by omega
      clear hbel hde
      go_wp2_with fail
      go_ret
      refine ⟨w.heap.size + 1, rfl, ?_, Nat.le_succ _, below_then W1.out HB.out⟩
      have h1 := HT.out
      rw [HDE.out, Nat.sub_self] at h1
      exact h1

set_option maxRecDepth 100000 in
theorem countColourings_any (G n : Nat) (X : List (List (List Int))) (w : World) (h : TownsAt G n 0 X w) (hn : X.length = n) (h1 : 1 ≤ n) (h7 : n ≤ 7) (hX : ∀ x ∈ X, x.length ≤ 6) :
    Calls Try.prog 72 #[.slice (some ⟨G, 0, none⟩) n n] w fun e w' => e = .returned (.int .i64 ((cntC X n : Nat) : Int)) ∧ ∃ k, w' = w.drewN k := by
  obtain ⟨A, c, c0, c1, _⟩ := h.cells (Nat.le_refl _) (show 0 < n by omega)
  have hu : uD X n (n - 1 - 0) * (X.getD 0 []).length = cntC X n := by
    rw [← uD_all X n]
    obtain ⟨d, rfl⟩ : ∃ d, n = d + 1 := ⟨n - 1, by omega⟩
    rw [uD]
    simp
  have hs := cntC_small hX (k := n) h7
  obtain ⟨U, hU⟩ : ∃ U : Int, U = ((uD X n (n - 1 - 0) : Nat) : Int) := ⟨_, rfl⟩
  rw [← hU] at c1
  obtain ⟨q, hq⟩ : ∃ q, q = (X.getD 0 []).length := ⟨_, rfl⟩
  rw [← hq] at hu c0
  have hmul : IntKind.i64.wrap (U * (q : Int)) = ((cntC X n : Nat) : Int) := by
    rw [hU, ← Int.natCast_mul, hu]
    exact IntWalk.i64_in _ (by omega)
  have i1 : (0 : Int) < (n : Int) := by omega
  rw [Nat.zero_mul] at c0
  rw [show 0 * 2 + 1 = 1 from rfl] at c1
  clear hu hs hU h hq
  go_enter Try.func72, Try.ntmps72
  go_wp2_with fail
  go_quiet ((go_at_call 132; exact quiet_eq (count_any _ _ _ _)))
  go_wp2_with fail
  go_ret
  exact ⟨rfl, _, rfl⟩

/-- What CountColourings answers. -/
def countColourings (s : Int) (xss : List (List Int)) : Int × Int :=
  if okR s xss = true then (((cntC (choF (xss.getD 0 []).length xss) xss.length : Nat) : Int), 0) else (0, 1)
theorem countColourings_1 {s : Int} {xss : List (List Int)} (h : okR s xss = false) : countColourings s xss = (0, 1) := by unfold countColourings; rw [if_neg (by simp [h])]
theorem countColourings_0 {s : Int} {n m : Nat} {xss : List (List Int)} (h : okR s xss = true) (hn : xss.length = n) (hm : (xss.getD 0 []).length = m) : countColourings s xss = (((cntC (choF m xss) n : Nat) : Int), 0) := by unfold countColourings; rw [if_pos h, hn, hm]
theorem two_mkc {r : Int × Int} {b : Int} {c : Int} (h : r = (b, c)) : Ending.returned (.tuple #[.int .i64 b, .int .i64 c]) = .returned (.tuple #[.int .i64 r.1, .int .i64 r.2]) := by rw [h]

set_option maxRecDepth 100000 in
set_option maxHeartbeats 1000000 in
theorem specCountColourings_any (s : Int) (A : Option Addr) (n cap : Nat) (xss : List (List Int)) (w : World) (h : RowsC w A n xss) (hn : n ≤ 4611686018427387904)
    (hrows : ∀ (r : Nat) (xs : List Int), xss[r]? = some xs → xs.length ≤ 4611686018427387904) :
    Calls Try.prog 14 #[.agg #[.int .i64 s, .slice A n cap]] w fun e w' => e = .returned (.tuple #[.int .i64 (countColourings s xss).1, .int .i64 (countColourings s xss).2]) ∧ Below w.heap.size w w' := by
  have HR := Lib.hid hrows
  have HL := Lib.hid h.1
  clear hrows
  obtain ⟨w1, hw1⟩ : ∃ w1, w1 = w.alloc (.cells #[.int .i64 s, .slice A n cap] 28) := ⟨_, rfl⟩
  have b0 : Below w.heap.size w w1 := by rw [hw1]; exact (Below.refl _ _).alloc (Nat.le_refl _) _
  have x0 : w1.cell? ⟨w.heap.size, 0, none⟩ = some (.int .i64 s) := by rw [hw1]; go_cell
  have x1 : w1.cell? ⟨w.heap.size, 1, none⟩ = some (.slice A n cap) := by rw [hw1]; go_cell
  have HW := Lib.hid hw1
  have B0 := Lib.hid b0
  have X0 := Lib.hid x0
  have X1 := Lib.hid x1
  have H1 := Lib.hid (h.below b0)
  clear hw1 b0 x0 x1 h
  go_enter Try.func14, Try.ntmps14
  go_wp2_with fail
  rw [← HW.out]
  refine (l05Ok_any w.heap.size s A n cap xss w1 X0.out X1.out H1.out.rows hn HR.out).mono ?_
  rintro e w2 ⟨rfl, k, hk⟩
  have b2 : Below w1.heap.size w1 w2 := by rw [hk]; exact below_drewN' (Below.refl _ _) _
  have B2 := Lib.hid (below_then B0.out b2)
  have X2 := Lib.hid ((b2.cell (cell_lt X1.out)).trans X1.out)
  have H2 := Lib.hid (H1.out.below b2)
  clear b2 hk
  rcases hok : okR s xss with _ | _
  · have HF := Lib.hid (countColourings_1 hok)
    go_wp2_with fail
    go_ret2
    exact ⟨two_mkc HF.out, B2.out⟩
  · obtain ⟨m, hs, hm, hg⟩ := goodR_of hok HL.out
    subst hs
    have HF := Lib.hid (countColourings_0 hok HL.out hm)
    have HG := Lib.hid hg
    have hn7 := hg.n7
    have hm3 := hg.m3
    clear hg hm
    go_wp2_with fail
    refine (l05Choices_any w.heap.size n m cap A xss w2 HG.out X2.out H2.out).mono ?_
    rintro e w3 ⟨u, vs, rfl, t3, b3⟩
    obtain ⟨X, hX⟩ : ∃ X, X = choF m xss := ⟨_, rfl⟩
    rw [← hX] at t3
    have hxl : X.length = n := by rw [hX, choF_length, HL.out]
    have hXS : ∀ x ∈ X, x.length ≤ 6 := by rw [hX]; exact choF_le hm3 xss
    obtain ⟨A3, c3, rfl⟩ := own_form t3.out
    rw [hxl]
    have t3' := t3
    rw [hxl] at t3'
    have T3 := Lib.hid t3'
    have HX := Lib.hid hX
    have HXL := Lib.hid hxl
    have HXS := Lib.hid hXS
    have B3 := Lib.hid (below_then B2.out b3)
    clear t3 t3' b3 hX hxl hXS
    go_wp2_with fail
    refine (l05Count_any _ n c3 A3 vs X w3 T3.out HXL.out hn7 HXS.out).mono ?_
    rintro e w4 ⟨rfl, rfl⟩
    go_wp2_with fail
    go_ret2
    exact ⟨two_mkc (by rw [HF.out, HX.out]), B3.out⟩

set_option maxRecDepth 100000 in
set_option maxHeartbeats 1000000 in
theorem implCountColourings_any (s : Int) (A : Option Addr) (n cap : Nat) (xss : List (List Int)) (w : World) (h : RowsC w A n xss) (hn : n ≤ 4611686018427387904)
    (hrows : ∀ (r : Nat) (xs : List Int), xss[r]? = some xs → xs.length ≤ 4611686018427387904) :
    Calls Try.prog 16 #[.agg #[.int .i64 s, .slice A n cap]] w fun e w' => e = .returned (.tuple #[.int .i64 (countColourings s xss).1, .int .i64 (countColourings s xss).2]) ∧ Below w.heap.size w w' := by
  have HR := Lib.hid hrows
  have HL := Lib.hid h.1
  clear hrows
  obtain ⟨w1, hw1⟩ : ∃ w1, w1 = w.alloc (.cells #[.int .i64 s, .slice A n cap] 28) := ⟨_, rfl⟩
  have b0 : Below w.heap.size w w1 := by rw [hw1]; exact (Below.refl _ _).alloc (Nat.le_refl _) _
  have x0 : w1.cell? ⟨w.heap.size, 0, none⟩ = some (.int .i64 s) := by rw [hw1]; go_cell
  have x1 : w1.cell? ⟨w.heap.size, 1, none⟩ = some (.slice A n cap) := by rw [hw1]; go_cell
  have HW := Lib.hid hw1
  have B0 := Lib.hid b0
  have X0 := Lib.hid x0
  have X1 := Lib.hid x1
  have H1 := Lib.hid (h.below b0)
  clear hw1 b0 x0 x1 h
  go_enter Try.func16, Try.ntmps16
  go_wp2_with fail
  rw [← HW.out]
  refine (implValidRoads_any s A n cap xss w1 H1.out.rows hn HR.out).mono ?_
  rintro e w2 ⟨rfl, b2⟩
  have B2 := Lib.hid (below_then B0.out b2)
  have c0 := (b2.cell (cell_lt X0.out)).trans X0.out
  have c1 := (b2.cell (cell_lt X1.out)).trans X1.out
  have H2 := Lib.hid (H1.out.below b2)
  clear b2
  rcases hok : okR s xss with _ | _
  · have HF := Lib.hid (countColourings_1 hok)
    go_wp2_with fail
    go_ret2
    exact ⟨two_mkc HF.out, B2.out⟩
  · obtain ⟨m, hs, hm, hg⟩ := goodR_of hok HL.out
    subst hs
    have HF := Lib.hid (countColourings_0 hok HL.out hm)
    have HG := Lib.hid hg
    have hn1 := hg.n1
    have hn7 := hg.n7
    have hm3 := hg.m3
    have HXL := Lib.hid (show (choF m xss).length = n by rw [choF_length, HL.out])
    have HXS := Lib.hid (choF_le hm3 xss)
    clear hg hm
    go_wp2_with fail
    refine (townsOf_any n m cap A xss w2 HG.out H2.out).mono ?_
    rintro e w3 ⟨G, rfl, t3, _, b3⟩
    have T3 := Lib.hid t3
    have B3 := Lib.hid (below_then B2.out b3)
    clear t3 b3
    go_wp2_with fail
    refine (countColourings_any G n (choF m xss) w3 T3.out HXL.out hn1 hn7 HXS.out).mono ?_
    rintro e w4 ⟨rfl, k, rfl⟩
    go_wp2_with fail
    go_ret2
    exact ⟨two_mkc HF.out, below_drewN' B3.out _⟩

end Go.Proofs.Ytkhhemlfahdbnab
