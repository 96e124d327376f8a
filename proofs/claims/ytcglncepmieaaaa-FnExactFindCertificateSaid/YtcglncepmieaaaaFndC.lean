/-
  The certificate that is found: the contracts of l02Bits and of the model's FindCertificate.
-/
import Derived.Test.YtcglncepmieaaaaFndD
namespace Go.Proofs.Ytcglncepmieaaaa
open Go.RowKit Go.Deep Go.ChangeShapes Go.WideShapes
open Hunt Srch From Moved

theorem i64_or_t {c t : Nat} (hc : c < 1024) (ht : t < 10) : bits .or .i64 (c : Int) (wrap64 (2 ^ t)) = ((c ||| 2 ^ t : Nat) : Int) := by
  have ht9 : 2 ^ t ≤ 2 ^ 9 := Nat.pow_le_pow_right (by decide) (by omega)
  have e3 : ((2 : Int) ^ t) = ((2 ^ t : Nat) : Int) := by push_cast; rfl
  rw [e3, wrap_512 (Nat.le_trans ht9 (by decide)), i64_or_nat c _ (by omega) (by omega)]

set_option maxRecDepth 100000 in
set_option maxHeartbeats 1000000 in
theorem l02Bits_any (A : Option Addr) (l cap : Nat) (xs : List Int) (w : World) (h : NumsAt w A l xs) (hx : ∀ x ∈ xs, 0 ≤ x ∧ x < 10) (hl : l ≤ 4611686018427387904) :
    Calls Try.prog 72 #[.slice A l cap] w fun e w' => e = .returned (.int .i64 (setN xs : Int)) ∧ w = w' := by
  have HX := Lib.hid hx
  have HL := Lib.hid h.1
  clear hx
  go_enter Try.func72, Try.ntmps72
  go_wp2_with fail
  go_loop [3, 4] (fun u i => ∃ (k c : Nat), k ≤ l ∧ i = .int .i64 k ∧ u = .int .i64 (c : Int) ∧ c = setN (xs.take k)) (fun _ i => l - (intOf i).toNat)
  case atStart => exact ⟨0, 0, Nat.zero_le _, rfl, rfl, rfl⟩
  case round =>
    obtain ⟨k, c, hk, rfl, rfl, hc⟩ := hrel
    have HC := Lib.hid hc
    have hcl : c < 1024 := by rw [hc]; exact setN_lt _ _ rfl (fun x hx => HX.out x (List.mem_of_mem_take hx))
    clear hc
    by_cases hlt : k < l
    · obtain ⟨y, b3, off3, hy, rfl, hcy⟩ := h.at_ hlt
      have hy1 := HX.out y (List.mem_of_getElem? hy)
      obtain ⟨t, rfl⟩ : ∃ t : Nat, y = (t : Int) := ⟨y.toNat, by omega⟩
      have i1 : (0 : Int) ≤ (k : Int) := by omega
      have i2 : (k : Int) < (l : Int) := by omega
      have i3 : (0 : Int) ≤ (t : Int) := by omega
      have i4 : (t : Int) < 10 := by omega
      have HOR := Lib.hid (i64_or_t hcl (show t < 10 by omega))
      have HST := Lib.hid (show setN (xs.take (k + 1)) = c ||| 2 ^ t by rw [take_snoc hy, setN_snoc, ← HC.out, Int.toNat_natCast])
      clear hy hy1
      go_wp2_with fail
      go_round
      case rel => exact ⟨k + 1, setN (xs.take (k + 1)), by omega, by go_num, by rw [HOR.out, HST.out], rfl⟩
      case measure => simp [intOf]; omega
    · have hkn : k = l := by omega
      have HK := Lib.hid hkn
      clear hkn
      go_wp2_with fail
      go_ret
      exact ⟨ret_int (by rw [HC.out, HK.out, List.take_of_length_le (by rw [HL.out]; exact Nat.le_refl _)]), rfl⟩

theorem box3_cells {w : World} {B : Nat} {x0 x1 x2 : Value} {T : TypeId} (h : w.heap[B]? = some (.cells #[x0, x1, x2] T (0, 0))) :
    w.cell? ⟨B, 0, none⟩ = some x0 ∧ w.cell? ⟨B, 1, none⟩ = some x1 ∧ w.cell? ⟨B, 2, none⟩ = some x2 ∧ w.frozen? ⟨B, 0, none⟩ = false ∧ w.frozen? ⟨B, 1, none⟩ = false ∧ w.frozen? ⟨B, 2, none⟩ = false :=
  ⟨cell_of_row _ B 0 _ _ _ h, cell_of_row _ B 1 _ _ _ h, cell_of_row _ B 2 _ _ _ h, frozen_of_row _ B 0 _ _ h, frozen_of_row _ B 1 _ _ h, frozen_of_row _ B 2 _ _ h⟩
theorem box3_set {w : World} {B : Nat} {x0 x1 x2 : Value} {T : TypeId} (h : w.heap[B]? = some (.cells #[x0, x1, x2] T (0, 0))) (y0 y1 y2 : Value) :
    (w.setCell ⟨B, 0, none⟩ y0).cell? ⟨B, 0, none⟩ = some y0 ∧ ((w.setCell ⟨B, 0, none⟩ y0).setCell ⟨B, 1, none⟩ y1).cell? ⟨B, 1, none⟩ = some y1 ∧ (((w.setCell ⟨B, 0, none⟩ y0).setCell ⟨B, 1, none⟩ y1).setCell ⟨B, 2, none⟩ y2).cell? ⟨B, 2, none⟩ = some y2 := by
  have g0 : (w.setCell ⟨B, 0, none⟩ y0).heap[B]? = some (.cells #[y0, x1, x2] T (0, 0)) := by rw [heap_setCell_same w B 0 _ _ _ h]; rfl
  have g1 : ((w.setCell ⟨B, 0, none⟩ y0).setCell ⟨B, 1, none⟩ y1).heap[B]? = some (.cells #[y0, y1, x2] T (0, 0)) := by rw [heap_setCell_same _ B 1 _ _ _ g0]; rfl
  have g2 : (((w.setCell ⟨B, 0, none⟩ y0).setCell ⟨B, 1, none⟩ y1).setCell ⟨B, 2, none⟩ y2).heap[B]? = some (.cells #[y0, y1, y2] T (0, 0)) := by rw [heap_setCell_same _ B 2 _ _ _ g1]; rfl
  exact ⟨cell_of_row _ B 0 _ _ _ g0, cell_of_row _ B 1 _ _ _ g1, cell_of_row _ B 2 _ _ _ g2⟩
theorem set3_only (w : World) (B : Nat) (y0 y1 y2 : Value) : Only B (B + 1) w (((w.setCell ⟨B, 0, none⟩ y0).setCell ⟨B, 1, none⟩ y1).setCell ⟨B, 2, none⟩ y2) := ((only_setCell w B 0 y0).trans (only_setCell _ B 1 y1)).trans (only_setCell _ B 2 y2)
theorem set3_size (w : World) (B : Nat) (y0 y1 y2 : Value) : (((w.setCell ⟨B, 0, none⟩ y0).setCell ⟨B, 1, none⟩ y1).setCell ⟨B, 2, none⟩ y2).heap.size = w.heap.size := by rw [World.size_setCell, World.size_setCell, World.size_setCell]
theorem set3_below {a w : World} {b B : Nat} (h : Below b a w) (hB : b ≤ B) (y0 y1 y2 : Value) : Below b a (((w.setCell ⟨B, 0, none⟩ y0).setCell ⟨B, 1, none⟩ y1).setCell ⟨B, 2, none⟩ y2) := ((h.setCell hB _).setCell hB _).setCell hB _
theorem cert_one (w : World) {lo hi : Nat} {v : Value} {xss : List (List Int)} (h : TabIn lo hi w v xss) (hl : lo ≤ hi) : MachIn lo hi w v (.slice none 0 0) xss [] := MachIn.of_tabs hl (Nat.le_refl _) h (tab_nil _ _ _)
theorem cert_two (w : World) {lo hi : Nat} {v : Value} {xss : List (List Int)} (h : TabIn lo hi w v xss) (hl : lo ≤ hi) : MachIn lo hi w (.slice none 0 0) v [] xss := MachIn.of_tabs (Nat.le_refl _) hl (tab_nil _ _ _) h
theorem TabV.row_of {lo hi : Nat} {w : World} {v : Value} {vs : List Value} {xss : List (List Int)} (h : TabV lo hi w v vs xss) {k : Nat} {xs : List Int} (hk : xss[k]? = some xs) : ∃ A' c', vs[k]? = some (.slice A' xs.length c') ∧ IntsIn lo hi w (.slice A' xs.length c') xs := by
  have hl := h.len
  have hkl : k < xss.length := by
    rcases Nat.lt_or_ge k xss.length with a | a
    · exact a
    · rw [List.getElem?_eq_none a] at hk; cases hk
  have hu : vs[k]? = some vs[k] := List.getElem?_eq_getElem (by omega)
  have hr := h.row k _ xs hu hk
  obtain ⟨A', c', hv⟩ := own_form hr.1
  rw [hv] at hu hr
  exact ⟨A', c', hu, hr⟩

/-- Two lists of lists that grow in turn: one of new rows, one of rows of ps that lie already. -/
structure Two (l0 l1 : Nat) (ps : List Value) (k : Nat) (w : World) (V5 : Value) (vs5 : List Value) (X5 : List (List Int)) (V6 : Value) (vs6 : List Value) (X6 : List (List Int)) : Prop where
  t5 : TabV l1 w.heap.size w V5 vs5 X5
  t6 : TabV l0 w.heap.size w V6 vs6 X6
  sep : ∀ g, OwnsB V5 vs5 g → V6.ownBlock ≠ some g
  out6 : ∀ g, V6.ownBlock = some g → l1 ≤ g
  rows6 : ∀ (r : Nat) (u : Value), vs6[r]? = some u → (∃ j, j < k ∧ ps[j]? = some u) ∧ ∀ g, u.ownBlock = some g → g < l1
theorem Two.below {l0 l1 k : Nat} {ps : List Value} {w w' : World} {V5 V6 : Value} {vs5 vs6 : List Value} {X5 X6 : List (List Int)} (h : Two l0 l1 ps k w V5 vs5 X5 V6 vs6 X6) (hb : Below w.heap.size w w') : Two l0 l1 ps k w' V5 vs5 X5 V6 vs6 X6 :=
  ⟨(h.t5.below hb).wide (Nat.le_refl _) hb.size, (h.t6.below hb).wide (Nat.le_refl _) hb.size, h.sep, h.out6, h.rows6⟩
theorem Two.word {l0 l1 k lu : Nat} {ps : List Value} {w wa w' : World} {V5 V6 u V' : Value} {vs5 vs6 : List Value} {X5 X6 : List (List Int)} {xs : List Int} (h : Two l0 l1 ps k w V5 vs5 X5 V6 vs6 X6) (hb : Below w.heap.size w wa)
    (hr : IntsIn w.heap.size lu wa u xs) (hlu : lu ≤ wa.heap.size) (hl : l1 ≤ w.heap.size)
    (ho : w'.ownsRow l1 35 1 V' (X5.length + 1) (vs5 ++ [u])) (hg : wa.grownBy w' V5.ownBlock) (hat : V'.ownBlock = V5.ownBlock ∨ V'.ownBlock = some wa.heap.size) :
    Two l0 l1 ps k w' V' (vs5 ++ [u]) (X5 ++ [xs]) V6 vs6 X6 := by
  have hs := hb.size
  have hz := hg.size
  have hv5 : ∀ g, V5.ownBlock = some g → l1 ≤ g ∧ g < w.heap.size := fun g e => ⟨(h.t5.out.lt g e).1, h.t5.top g e⟩
  have hv6 : ∀ g, V6.ownBlock = some g → g < w.heap.size := fun g e => h.t6.top g e
  refine ⟨TabV.snoc (h.t5.below hb) hr ho hg hat hl (Nat.le_refl _) hlu, ?_, fun g hG e => ?_, h.out6, h.rows6⟩
  · have hon : OnlyP (fun g => V5.ownBlock = some g) wa w' := ⟨hg.os, hg.tape, hg.output, hg.size, fun q hq hP => hg.block q hq (fun e => hP e.symm)⟩
    refine ((h.t6.below hb).onlyP hon fun g hG e => ?_).wide (Nat.le_refl _) (by omega)
    rcases hG with hG | ⟨r, x, hx, hG⟩
    · exact h.sep g (.inl e) hG
    · have := (h.rows6 r x hx).2 g hG
      have := (hv5 g e).1
      omega
  · have h6 := hv6 g e
    rcases hG with hG | ⟨r, x, hx, hG⟩
    · rcases hat with a | a
      · rw [a] at hG; exact h.sep g (.inl hG) e
      · rw [a] at hG; have := Option.some.inj hG; omega
    · rcases Nat.lt_or_ge r vs5.length with c | c
      · rw [List.getElem?_append_left c] at hx
        exact h.sep g (.inr ⟨r, x, hx, hG⟩) e
      · rw [List.getElem?_append_right c] at hx
        have hz : r - vs5.length = 0 := by
          rcases Nat.eq_zero_or_pos (r - vs5.length) with e | e
          · exact e
          · rw [List.getElem?_eq_none (by simp; omega)] at hx; cases hx
        rw [hz] at hx
        obtain rfl : u = x := by simpa using hx
        have := (hr.1.lt g hG).1
        omega
theorem Two.row {l0 l1 k : Nat} {ps : List Value} {w wa w' : World} {V5 V6 u V' : Value} {vs5 vs6 : List Value} {X5 X6 : List (List Int)} {xs : List Int} (h : Two l0 l1 ps k w V5 vs5 X5 V6 vs6 X6) (hb : Below w.heap.size w wa)
    (hu : ps[k]? = some u) (hr : IntsIn l0 l1 wa u xs) (hl : l1 ≤ w.heap.size) (hap : ∀ (r r' : Nat) (x x' : Value) (g : Nat), ps[r]? = some x → ps[r']? = some x' → x.ownBlock = some g → x'.ownBlock = some g → r = r')
    (ho : w'.ownsRow l0 35 1 V' (X6.length + 1) (vs6 ++ [u])) (hg : wa.grownBy w' V6.ownBlock) (hat : V'.ownBlock = V6.ownBlock ∨ V'.ownBlock = some wa.heap.size) :
    Two l0 l1 ps (k + 1) w' V5 vs5 X5 V' (vs6 ++ [u]) (X6 ++ [xs]) := by
  have hs := hb.size
  have hz := hg.size
  refine ⟨?_, ?_, fun g hG e => ?_, fun g e => ?_, fun r x hx => ?_⟩
  · have hon : OnlyP (fun g => V6.ownBlock = some g) wa w' := ⟨hg.os, hg.tape, hg.output, hg.size, fun q hq hP => hg.block q hq (fun e => hP e.symm)⟩
    exact ((h.t5.below hb).onlyP hon fun g hG e => h.sep g hG e).wide (Nat.le_refl _) (by omega)
  · refine TabV.snocOld (((h.t6.below hb).wide (Nat.le_refl _) hs)) (hr.wide (Nat.le_refl _) (by omega)) (fun g e hG => ?_) ho hg hat (Nat.le_refl _)
    have hgl := hr.2 g e
    rcases hG with hG | ⟨r, x, hx, hG⟩
    · have := h.out6 g hG; omega
    · obtain ⟨⟨j, hj, hp⟩, _⟩ := h.rows6 r x hx
      have := hap j k x u g hp hu hG e
      omega
  · rcases hat with a | a
    · rw [a] at e; exact h.sep g hG e
    · rw [a] at e
      have := (h.t5.own_lt hG).2.1
      have := Option.some.inj e
      omega
  · rcases hat with a | a
    · rw [a] at e; exact h.out6 g e
    · rw [a] at e; have := Option.some.inj e; omega
  · rcases Nat.lt_or_ge r vs6.length with c | c
    · rw [List.getElem?_append_left c] at hx
      obtain ⟨⟨j, hj, hp⟩, h2⟩ := h.rows6 r x hx
      exact ⟨⟨j, by omega, hp⟩, h2⟩
    · rw [List.getElem?_append_right c] at hx
      have hz : r - vs6.length = 0 := by
        rcases Nat.eq_zero_or_pos (r - vs6.length) with e | e
        · exact e
        · rw [List.getElem?_eq_none (by simp; omega)] at hx; cases hx
      rw [hz] at hx
      obtain rfl : u = x := by simpa using hx
      exact ⟨⟨k, by omega, hu⟩, hr.2⟩
theorem Two.more {l0 l1 k : Nat} {ps : List Value} {w : World} {V5 V6 : Value} {vs5 vs6 : List Value} {X5 X6 : List (List Int)} (h : Two l0 l1 ps k w V5 vs5 X5 V6 vs6 X6) : Two l0 l1 ps (k + 1) w V5 vs5 X5 V6 vs6 X6 :=
  ⟨h.t5, h.t6, h.sep, h.out6, fun r u hu => by
    obtain ⟨⟨j, hj, hp⟩, h2⟩ := h.rows6 r u hu
    exact ⟨⟨j, by omega, hp⟩, h2⟩⟩

set_option maxRecDepth 100000 in
set_option maxHeartbeats 4000000 in
theorem specFindCertificate_any (s : Int) (A : Option Addr) (m cap : Nat) (xss : List (List Int)) (w : World) (h : RowsAt w A m xss) (hm : m ≤ 4611686018427387904)
    (hrows : ∀ (r : Nat) (xs : List Int), xss[r]? = some xs → xs.length ≤ 4611686018427387904) :
    Calls Try.prog 29 #[.agg #[.int .i64 s, .slice A m cap]] w (CertTo (findCertificate s xss) w) := by
  obtain ⟨i1, hi1, hy0, hy1, hy2⟩ := info_parts info_ints
  have HR := Lib.hid hrows
  have HM := Lib.hid h.1
  obtain ⟨W2, hW2⟩ : ∃ W2, W2 = (w.alloc (.cells #[.int .i64 s, .slice A m cap] 28)).alloc (.cells #[.int .i64 0, .slice none 0 0, .slice none 0 0] 41) := ⟨_, rfl⟩
  have b2 : Below w.heap.size w W2 := by rw [hW2]; go_grown
  have B2 := Lib.hid b2
  have HB2 := Lib.hid (show Box W2 w.heap.size [.int .i64 s, .slice A m cap] by rw [hW2]; exact Box.below (Box.new w _ _) ((Below.refl _ _).alloc (Nat.le_refl _) _))
  have xr : W2.heap[w.heap.size + 1]? = some (.cells #[.int .i64 0, .slice none 0 0, .slice none 0 0] 41 (0, 0)) := by
    have := heap_alloc_new (w.alloc (.cells #[.int .i64 s, .slice A m cap] 28)) (.cells #[.int .i64 0, .slice none 0 0, .slice none 0 0] 41)
    rw [World.size_alloc, ← hW2] at this
    exact this
  have HX2 := Lib.hid (h.below b2)
  have XR := Lib.hid xr
  have HW2 := Lib.hid hW2
  clear hrows b2 xr hW2 h
  rcases hok : okA s xss with _ | _
  · have HF := Lib.hid (findCertificate_1 hok)
    have c0 := HB2.out 0 _ rfl
    have c1 := HB2.out 1 _ rfl
    go_enter Try.func29, Try.ntmps29
    go_wp2_with fail
    rw [← HW2.out]
    refine (l01Ok_any w.heap.size s A m cap xss W2 (HB2.out 0 _ rfl) (HB2.out 1 _ rfl) HX2.out hm HR.out).mono ?_
    rw [hok]
    rintro e w1 ⟨rfl, d, hd⟩
    have b1 : Below W2.heap.size W2 w1 := by rw [hd]; exact below_drewN' (Below.refl _ _) d
    have xr := (b1.block _ (block_lt XR.out)).trans XR.out
    obtain ⟨e0, e1, e2, e3, e4, e5⟩ := box3_cells xr
    obtain ⟨g2, g3, g4⟩ := box3_set xr (.int .i64 0) (.slice none 0 0) (.slice none 0 0)
    have B1 := Lib.hid (below_then B2.out b1)
    clear b1 xr c0 c1 hd
    go_wp2_with fail
    refine bodyPost_ret (v := .tuple #[.agg #[.int .i64 0, .slice none 0 0, .slice none 0 0], .int .i64 1]) (by simp [results, Try.results29, go_sem, g2, g3, g4]) rfl ?_
    have hb9 := set3_below B1.out (Nat.le_succ _) (.int .i64 0) (.slice none 0 0) (.slice none 0 0)
    exact certTo_mk HF.out (cert_one _ (tab_nil _ _ _) hb9.size) hb9
  · obtain ⟨n, hsn, hg⟩ := good_of hok HM.out
    subst hsn
    have hn10 : n ≤ 10 := hg.n10
    have HG := Lib.hid hg
    have HF2 := Lib.hid (fun hl => findCertificate_2 hok HM.out hl)
    have HF0 := Lib.hid (fun hl => findCertificate_0 hok HM.out hl)
    have c0 := HB2.out 0 _ rfl
    have c1 := HB2.out 1 _ rfl
    clear hg
    go_enter Try.func29, Try.ntmps29
    go_wp2_with fail
    rw [← HW2.out]
    refine (l01Ok_any w.heap.size (n : Int) A m cap xss W2 (HB2.out 0 _ rfl) (HB2.out 1 _ rfl) HX2.out hm HR.out).mono ?_
    rw [hok]
    rintro e w1 ⟨rfl, d, hd⟩
    have b1 : Below W2.heap.size W2 w1 := by rw [hd]; exact below_drewN' (Below.refl _ _) d
    have XR1 := Lib.hid ((b1.block _ (block_lt XR.out)).trans XR.out)
    have B1 := Lib.hid (below_then B2.out b1)
    have HX1 := Lib.hid (HX2.out.below b1)
    have HB1 := Lib.hid (Box.below HB2.out b1)
    have q0 := HB1.out 0 _ rfl
    clear b1 c0 c1 hd hok
    go_wp2_with fail
    refine (l02Pairs_any n w1 hn10).mono ?_
    rintro e w3 ⟨u, rfl, ⟨ps, t3⟩, b3⟩
    obtain ⟨gs, hgs⟩ : ∃ gs, gs = prL n n := ⟨_, rfl⟩
    rw [← hgs] at t3
    obtain ⟨At, ct, rfl⟩ := own_form t3.out
    obtain ⟨N, hN⟩ : ∃ N, N = gs.length := ⟨_, rfl⟩
    rw [prT_len, ← hN] at t3 ⊢
    have hN100 : N ≤ 100 := by rw [hN, hgs]; exact prL_leS n hn10
    have HN := Lib.hid hN
    have HGS := Lib.hid hgs
    have HT3 := Lib.hid t3
    have HB3 := Lib.hid (below_then B1.out b3)
    have HX3 := Lib.hid (HX1.out.below b3)
    have HBX3 := Lib.hid (Box.below HB1.out b3)
    have XR3 := Lib.hid ((b3.block _ (block_lt XR1.out)).trans XR1.out)
    have HS13 := Lib.hid b3.size
    clear t3 b3 hgs hN q0
    have HTW := Lib.hid (show Two w1.heap.size w3.heap.size ps 0 ((w3.alloc (.cells #[] 35)).alloc (.cells #[] 35)) (.slice (some ⟨w3.heap.size, 0, none⟩) 0 0) [] [] (.slice (some ⟨w3.heap.size + 1, 0, none⟩) 0 0) [] [] by
      have a1 : Below w3.heap.size w3 (w3.alloc (.cells #[] 35)) := (Below.refl _ _).alloc (Nat.le_refl _) _
      have a2 : Below (w3.alloc (.cells #[] 35)).heap.size (w3.alloc (.cells #[] 35)) ((w3.alloc (.cells #[] 35)).alloc (.cells #[] 35)) := (Below.refl _ _).alloc (Nat.le_refl _) _
      have h5 := (tabV_made w3 w3.heap.size (Nat.le_refl _)).below a2
      have h6 := tabV_made (w3.alloc (.cells #[] 35)) w1.heap.size (by have := HS13.out; have := a1.size; omega)
      rw [World.size_alloc] at h6
      refine ⟨h5.wide (Nat.le_refl _) (by simp), h6.wide (Nat.le_refl _) (by simp), fun g hG e => ?_, fun g e => ?_, fun r u hu => ?_⟩
      · rcases hG with hG | ⟨r, u, hu, _⟩
        · simp [Value.ownBlock] at hG e; omega
        · simp at hu
      · simp [Value.ownBlock] at e; omega
      · simp at hu)
    have HAL := Lib.hid (show Below w3.heap.size w3 ((w3.alloc (.cells #[] 35)).alloc (.cells #[] 35)) from ((Below.refl _ _).alloc (Nat.le_refl _) _).alloc (by simp) _)
    go_wp2_with fail
    go_loopw [5, 6, 7] (fun v5 v6 iv wr => ∃ (k : Nat) (vs5 vs6 : List Value) (X5 X6 : List (List Int)), k ≤ N ∧ iv = .int .i64 k ∧ X5 = wdT n m xss (gs.take k) ∧ X6 = apT n m xss (gs.take k) ∧ X5.length = k ∧ X6.length ≤ k ∧ Two w1.heap.size w3.heap.size ps k wr v5 vs5 X5 v6 vs6 X6 ∧ Below w3.heap.size w3 wr) (fun _ _ iv _ => N - (intOf iv).toNat)
    case atStart => exact ⟨0, [], [], [], [], Nat.zero_le _, rfl, rfl, rfl, rfl, Nat.le_refl _, HTW.out, HAL.out⟩
    case round =>
      obtain ⟨k, vs5, vs6, X5, X6, hk, rfl, hX5, hX6, hl5, hl6, htwo, hbel⟩ := hrel
      obtain ⟨A5, C5, rfl⟩ := own_form htwo.t5.out
      obtain ⟨A6, C6, rfl⟩ := own_form htwo.t6.out
      have HTW := Lib.hid htwo
      have HB := Lib.hid hbel
      have H5 := Lib.hid hX5
      have H6 := Lib.hid hX6
      have HL5 := Lib.hid hl5
      have HL6 := Lib.hid hl6
      have q0 := (Box.below HBX3.out hbel) 0 _ rfl
      have q1 := (Box.below HBX3.out hbel) 1 _ rfl
      have hk0 : (0 : Int) ≤ (k : Int) := by omega
      clear htwo hbel hX5 hX6
      by_cases hlt : k < N
      · have hkn : (k : Int) < (N : Int) := by omega
        have h100 : X5.length ≤ 100 := by omega
        have h600 : X6.length ≤ 100 := by omega
        obtain ⟨⟨s, t⟩, hst⟩ : ∃ g, gs[k]? = some g := ⟨_, List.getElem?_eq_getElem (by rw [← HN.out]; exact hlt)⟩
        have hlim := prL_mem (show (s, t) ∈ prL n n by rw [← HGS.out]; exact List.mem_of_getElem? hst)
        have hrow := (HT3.out.below HB.out).row_of (k := k) (xs := [((s : Nat) : Int), ((t : Nat) : Int)]) (by unfold prT; rw [List.getElem?_map, hst]; rfl)
        obtain ⟨A', c', hpk, hir⟩ := hrow
        have hcell := (HT3.out.below HB.out).cell (r := k) (by rw [prT_len, ← HN.out]; exact hlt)
        obtain ⟨gT, u', rfl, hu', hcT⟩ := hcell
        rw [hpk] at hu'
        obtain rfl := Option.some.inj hu'
        have HIR := Lib.hid hir
        have HPK := Lib.hid hpk
        have HNI := Lib.hid (NumsAt.own hir.1 rfl rfl)
        have HRW := Lib.hid (show (prT gs)[k]? = some [((s : Nat) : Int), ((t : Nat) : Int)] by unfold prT; rw [List.getElem?_map, hst]; rfl)
        have HA1 := Lib.hid (apT_snoc (n := n) (m := m) (xss := xss) hst)
        have HW1 := Lib.hid (wdT_snoc (n := n) (m := m) (xss := xss) hst)
        have HIN := Lib.hid (pair_in (show s < n by omega) hlim.2.2)
        have HSP := Lib.hid (setN_pair s t)
        have HX9 := Lib.hid (show ∀ x ∈ [((s : Nat) : Int), ((t : Nat) : Int)], 0 ≤ x ∧ x < 10 from fun x hx => by
          simp only [List.mem_cons, List.not_mem_nil, or_false] at hx
          rcases hx with rfl | rfl <;> omega)
        clear hst hpk hir hl5 hl6 hu'
        simp only [List.length_cons, List.length_nil] at hcT HNI HIR HPK
        go_wp2_with fail
        refine (l02Bits_any (A') 2 c' [((s : Nat) : Int), ((t : Nat) : Int)] wr HNI.out HX9.out (by omega)).mono ?_
        rw [HSP.out]
        rintro e w' ⟨rfl, rfl⟩
        go_wp2_with fail
        refine (l02Shrink_any w.heap.size n m cap (pairB s t) A xss wr HG.out (HX3.out.below HB.out) q0 q1 HIN.out).mono ?_
        rintro e w4 ⟨u, rfl, o4, b4⟩
        obtain ⟨Z, hZ⟩ : ∃ Z, Z = (toldW (firstF mergedB (fnd n m xss 1024 (pairB s t)))).1 := ⟨_, rfl⟩
        obtain ⟨ok, hok⟩ : ∃ ok, ok = hitB (firstF mergedB (fnd n m xss 1024 (pairB s t))) := ⟨_, rfl⟩
        rw [← hZ] at o4 HW1
        rw [← hok] at HA1 ⊢
        obtain ⟨A7, C7, rfl⟩ := own_form o4
        have HI4 := Lib.hid (IntsIn.of o4)
        have HB4 := Lib.hid b4
        have HW4 := Lib.hid (below_then HB.out b4)
        have HLE := Lib.hid (show w3.heap.size ≤ w4.heap.size from HW4.out.size)
        have HT5 := Lib.hid (own_below HTW.out.t5.out b4)
        have HZ5 := Lib.hid (show wdT n m xss (gs.take (k + 1)) = X5 ++ [Z] by rw [HW1.out, H5.out])
        clear o4 b4 hZ hok q0 q1 hcT
        go_wp2_with (at_builtin; refine wpList_append_own_at _ rfl _ _ 22 rfl (w3.heap.size) 35 i1 (.slice none 0 0) 1 24 Try.underlying22 hi1 hy0 hy1 hy2 rfl (by decide) _ _ _ rfl (World.ownsRow.alloc (HT5.out) _) ⟨(w4).heap.size, 0, none⟩ 1 1 [.slice A7 Z.length C7] rfl rfl (cell_one_new _ _ _) (by simp [Value.oneCell']) (by unfold maxLen; omega) (by omega) (by rw [World.size_alloc]; exact Nat.le_succ_of_le HLE.out) ?_)
        intro v' w5 hown' hgrow _ hat
        have ba : Below w4.heap.size w4 (w4.alloc (.cells #[.slice A7 Z.length C7] 35)) := (Below.refl _ _).alloc (Nat.le_refl _) _
        have htw2 := Two.word HTW.out (below_then HB4.out ba) (HI4.out.below ba) ba.size HB.out.size hown' hgrow (by rw [World.size_alloc]; exact hat)
        rw [← HZ5.out] at htw2
        have HT2 := Lib.hid htw2
        have HB5 := Lib.hid (below_grown (below_then HW4.out ba) hgrow (fun g hg => (HTW.out.t5.out.lt g hg).1))
        clear hown' hgrow hat ba htw2 h100
        rcases ok with _ | _
        · have HZ6 := Lib.hid (show apT n m xss (gs.take (k + 1)) = X6 ++ [[((s : Nat) : Int), ((t : Nat) : Int)]] by rw [HA1.out, H6.out]; rfl)
          obtain ⟨A8, C8, rfl⟩ := own_form HT2.out.t5.out
          have hcT5 : w5.cell? ⟨gT, k, none⟩ = some (.slice A' 2 c') := by
            obtain ⟨g9, u9, e9, hu9, hc9⟩ := (HT3.out.below HB5.out).cell (r := k) (by rw [prT_len, ← HN.out]; exact hlt)
            simp only [Option.some.injEq, Addr.mk.injEq, and_true] at e9
            rw [HPK.out] at hu9
            obtain rfl := Option.some.inj hu9
            rw [e9]
            exact hc9
          have HIR5 := Lib.hid (show IntsIn w1.heap.size w3.heap.size w5 (.slice A' 2 c') [((s : Nat) : Int), ((t : Nat) : Int)] from by
            obtain ⟨a9, c9, h9, i9⟩ := (HT3.out.below HB5.out).row_of (k := k) (xs := [((s : Nat) : Int), ((t : Nat) : Int)]) HRW.out
            rw [HPK.out] at h9
            obtain h9 := Option.some.inj h9
            rw [← h9] at i9
            exact i9)
          have HLE5 := Lib.hid (show w1.heap.size ≤ w5.heap.size from Nat.le_trans HS13.out HB5.out.size)
          have HOB6 := Lib.hid HT2.out.t6.out
          go_wp2_with (at_builtin; refine wpList_append_own_at _ rfl _ _ 22 rfl (w1.heap.size) 35 i1 (.slice none 0 0) 1 24 Try.underlying22 hi1 hy0 hy1 hy2 rfl (by decide) _ _ _ rfl (World.ownsRow.alloc (HOB6.out) _) ⟨(w5).heap.size, 0, none⟩ 1 1 [.slice A' 2 c'] rfl rfl (cell_one_new _ _ _) (by simp [Value.oneCell']) (by unfold maxLen; omega) (by omega) (by rw [World.size_alloc]; exact Nat.le_succ_of_le HLE5.out) ?_)
          intro v9 w6 hown' hgrow _ hat
          have ba : Below w5.heap.size w5 (w5.alloc (.cells #[.slice A' 2 c'] 35)) := (Below.refl _ _).alloc (Nat.le_refl _) _
          have htw3 := Two.row HT2.out ba HPK.out (HIR5.out.below ba) HB5.out.size HT3.out.apart hown' hgrow (by rw [World.size_alloc]; exact hat)
          rw [← HZ6.out] at htw3
          have HT6 := Lib.hid htw3
          have HB6 := Lib.hid (below_grown (below_then HB5.out ba) hgrow (fun g hg => HT2.out.out6 g hg))
          clear hown' hgrow hat ba htw3 hcT5 h600
          go_wp2_with fail
          go_roundw
          case rel => exact ⟨k + 1, _, _, _, _, by omega, by go_num, rfl, rfl, by rw [HZ5.out, List.length_append, HL5.out]; rfl, by rw [HZ6.out, List.length_append]; have := HL6.out; simp; omega, HT6.out, HB6.out⟩
          case measure => simp [intOf]; omega
        · have HZ6 := Lib.hid (show apT n m xss (gs.take (k + 1)) = X6 by rw [HA1.out, H6.out, if_pos rfl, List.append_nil])
          clear h600
          go_wp2_with fail
          go_roundw
          case rel => exact ⟨k + 1, _, _, _, _, by omega, by go_num, rfl, HZ6.out.symm, by rw [HZ5.out, List.length_append, HL5.out]; rfl, by have := HL6.out; omega, HT2.out.more, HB5.out⟩
          case measure => simp [intOf]; omega
      · have hke : k = N := by omega
        have hkn : ¬ (k : Int) < (N : Int) := by omega
        have H5E := Lib.hid (show X5 = wdT n m xss (prL n n) by rw [H5.out, hke, HN.out, List.take_length, HGS.out])
        have H6E := Lib.hid (show X6 = apT n m xss (prL n n) by rw [H6.out, hke, HN.out, List.take_length, HGS.out])
        have HBW := Lib.hid (below_then HB3.out HB.out)
        clear hke hlt hl5 hl6 q0 q1
        by_cases hpos : 0 < X6.length
        · have hp1 : (0 : Int) < (X6.length : Int) := by omega
          have hF := HF2.out (by rw [← H6E.out]; exact hpos)
          rw [← H6E.out] at hF
          have HF := Lib.hid hF
          have HLW := Lib.hid (block_lt XR1.out)
          have HTI := Lib.hid (show TabIn w1.heap.size wr.heap.size wr (.slice A6 X6.length C6) X6 from ⟨vs6, HTW.out.t6⟩)
          have xr := (HB.out.block _ (block_lt XR3.out)).trans XR3.out
          obtain ⟨e0, e1, e2, e3, e4, e5⟩ := box3_cells xr
          obtain ⟨g2, g3, g4⟩ := box3_set xr (.int .i64 2) (.slice A6 X6.length C6) (.slice none 0 0)
          clear xr hpos hF
          go_wp2_with fail
          refine bodyPost_ret (v := .tuple #[.agg #[.int .i64 2, .slice A6 X6.length C6, .slice none 0 0], .int .i64 0]) (by simp [results, Try.results29, go_sem, g2, g3, g4]) rfl ?_
          have hb9 := set3_below HBW.out (Nat.le_succ _) (.int .i64 2) (.slice A6 X6.length C6) (.slice none 0 0)
          have ht9 := (HTI.out.only (set3_only wr (w.heap.size + 1) (.int .i64 2) (.slice A6 X6.length C6) (.slice none 0 0)) (.inr HLW.out)).wide (lo' := w.heap.size) (hi' := wr.heap.size) B1.out.size (Nat.le_refl _)
          rw [← set3_size wr (w.heap.size + 1) (.int .i64 2) (.slice A6 X6.length C6) (.slice none 0 0)] at ht9
          exact certTo_mk HF.out (cert_one _ ht9 hb9.size) hb9
        · have hp1 : ¬ (0 : Int) < (X6.length : Int) := by omega
          have hF := HF0.out (by rw [← H6E.out]; exact hpos)
          rw [← H5E.out] at hF
          have HF := Lib.hid hF
          have HLW := Lib.hid (block_lt XR1.out)
          have HTI := Lib.hid (show TabIn w3.heap.size wr.heap.size wr (.slice A5 X5.length C5) X5 from ⟨vs5, HTW.out.t5⟩)
          have xr := (HB.out.block _ (block_lt XR3.out)).trans XR3.out
          obtain ⟨e0, e1, e2, e3, e4, e5⟩ := box3_cells xr
          obtain ⟨g2, g3, g4⟩ := box3_set xr (.int .i64 1) (.slice none 0 0) (.slice A5 X5.length C5)
          clear xr hpos hF
          go_wp2_with fail
          refine bodyPost_ret (v := .tuple #[.agg #[.int .i64 1, .slice none 0 0, .slice A5 X5.length C5], .int .i64 0]) (by simp [results, Try.results29, go_sem, g2, g3, g4]) rfl ?_
          have hb9 := set3_below HBW.out (Nat.le_succ _) (.int .i64 1) (.slice none 0 0) (.slice A5 X5.length C5)
          have ht9 := (HTI.out.only (set3_only wr (w.heap.size + 1) (.int .i64 1) (.slice none 0 0) (.slice A5 X5.length C5)) (.inr (Nat.le_trans HLW.out HS13.out))).wide (lo' := w.heap.size) (hi' := wr.heap.size) HB3.out.size (Nat.le_refl _)
          rw [← set3_size wr (w.heap.size + 1) (.int .i64 1) (.slice none 0 0) (.slice A5 X5.length C5)] at ht9
          exact certTo_mk HF.out (cert_two _ ht9 hb9.size) hb9

end Go.Proofs.Ytcglncepmieaaaa
