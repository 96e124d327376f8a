/-
  The least congruence: the contract of the model's l01Least.
-/
import Derived.Test.YtdelanjkaokiaaaLcM
namespace Go.Proofs.Ytdelanjkaokiaaa
open Go.RowKit Go.Deep Go.ChangeShapes Go.WideShapes

/-- The numbers that lie in a block. -/
def readL (w : World) (G n : Nat) : List Int := (List.range n).map fun u => match w.cell? ⟨G, u, none⟩ with
  | some (.int _ x) => x
  | _ => 0
theorem readL_own {w : World} {base G n c : Nat} {L : List Int} (h : w.ownsRow base 2 1 (.slice (some ⟨G, 0, none⟩) n c) n (L.map (Value.int .i64))) (hl : L.length = n) : readL w G n = L := by
  refine lab_ext hl (by simp [readL]) (fun u hu => ?_)
  refine lab_of ?_
  unfold readL
  rw [List.getElem?_map, List.getElem?_range hu, Option.map_some, h.cellAt u (by omega), List.getElem?_map, lab_at (by omega)]
  rfl
def boolN : Value → Nat
  | .bool true => 1
  | _ => 0
/-- The middle of a pass over the labels L0: either nothing has changed and P stands, or classes have come together. -/
def PassS (n : Nat) (L0 : List Int) (g : Bool) (L : List Int) (P : Prop) : Prop := (g = false ∧ L = L0 ∧ P) ∨ (g = true ∧ cntL n L < cntL n L0)
theorem PassS.le {n : Nat} {L0 L : List Int} {g : Bool} {P : Prop} (h : PassS n L0 g L P) : cntL n L ≤ cntL n L0 := by
  rcases h with ⟨_, rfl, _⟩ | ⟨_, h⟩
  · exact Nat.le_refl _
  · exact Nat.le_of_lt h
theorem PassS.imp {n : Nat} {L0 L : List Int} {g : Bool} {P Q : Prop} (h : PassS n L0 g L P) (hq : L = L0 → P → Q) : PassS n L0 g L Q := by
  rcases h with ⟨h1, h2, h3⟩ | h
  · exact .inl ⟨h1, h2, hq h2 h3⟩
  · exact .inr h
/-- The pairs of states above which all is done: u < a, and v < b for a itself. -/
def doneP (m : Nat) (xss : List (List Int)) (L : List Int) (a b : Nat) : Prop := (∀ u, u < a → ∀ v, v < u → okP2 xss L u v m) ∧ ∀ v, v < b → okP2 xss L a v m

theorem doneP_next {m : Nat} {xss : List (List Int)} {L : List Int} {a b : Nat} (h : doneP m xss L a b) (hb : okP2 xss L a b m) : doneP m xss L a (b + 1) :=
  ⟨h.1, fun v hv => by
    by_cases e : v = b
    · subst e; exact hb
    · exact h.2 v (by omega)⟩

set_option maxRecDepth 100000 in
set_option maxHeartbeats 16000000 in
theorem l01Least_any (W : World) (p : Nat) (A : Option Addr) (n m c : Nat) (xss : List (List Int)) (G c2 s t : Nat) (L : List Int) (w : World) (hg : Good n m xss) (hb0 : Box W p [.int .i64 (n : Int), .slice A m c]) (h : RowsAt W A m xss) (hs : s < n) (ht : t < n)
    (hgr : Gro n m xss s t L) (hb : Below W.heap.size W w) (ho : w.ownsRow W.heap.size 2 1 (.slice (some ⟨G, 0, none⟩) n c2) n (L.map (Value.int .i64))) :
    Calls Try.prog 75 #[.pointer (some ⟨p, 0, none⟩), .slice (some ⟨G, 0, none⟩) n c2] w fun e w' => ∃ (v : Value) (L' : List Int), e = .returned v ∧ LeastL n m xss s t L' ∧
      w'.ownsRow W.heap.size 2 1 v n ((tidL L').map (Value.int .i64)) ∧ Below W.heap.size W w' := by
  have HG := Lib.hid hg
  have HX := Lib.hid h
  have HBX := Lib.hid hb0
  have HGR := Lib.hid hgr
  have HO := Lib.hid ho
  have HB := Lib.hid hb
  have HWG := Lib.hid (ho.lt G rfl).1
  have HS := Lib.hid hs
  have HT := Lib.hid ht
  have hn10 : n ≤ 10 := hg.n10
  have hm3 : m ≤ 3 := hg.m3
  clear hg h hb0 hgr hb ho
  go_enter Try.func75, Try.ntmps75
  go_wp2_with fail
  go_loopw [5] (fun gv wr => ∃ (g : Bool) (L : List Int), gv = .bool g ∧ Gro n m xss s t L ∧ wr.ownsRow W.heap.size 2 1 (.slice (some ⟨G, 0, none⟩) n c2) n (L.map (Value.int .i64)) ∧ Below W.heap.size W wr ∧ (g = false → LeastL n m xss s t L)) (fun gv wr => 2 * cntL n (readL wr G n) + boolN gv)
  case atStart => exact ⟨true, L, rfl, HGR.out, HO.out, HB.out, fun h => absurd h (by decide)⟩
  case round =>
    obtain ⟨g0, L0, rfl, hgr0, hown0, hbel0, hdone⟩ := hrel
    obtain ⟨wo, hwo⟩ : ∃ wo, wo = wr := ⟨_, rfl⟩
    rw [← hwo] at hown0 hbel0 ⊢
    clear hwo
    have HGR0 := Lib.hid hgr0
    have HO0 := Lib.hid hown0
    have HB0 := Lib.hid hbel0
    have HD := Lib.hid hdone
    clear hgr0 hown0 hbel0 hdone
    rcases g0 with _ | _
    · have HLE := Lib.hid (HD.out rfl)
      go_wp2_with fail
      refine (l01Tidied_any (some ⟨G, 0, none⟩) n c2 L0 wo (NumsAt.own HO0.out HGR0.out.labs.len rfl) (by omega)).mono ?_
      rintro e w2 ⟨v, rfl, o2, b2⟩
      have O2 := Lib.hid (own_base o2 HB0.out.size)
      have B2 := Lib.hid (below_then HB0.out b2)
      clear o2 b2
      go_wp2_with fail
      go_ret
      exact ⟨_, L0, rfl, HLE.out, O2.out, B2.out⟩
    · go_wp2_with fail
      go_loopw [5, 6] (fun gv av wr => ∃ (a : Nat) (g : Bool) (L : List Int), a ≤ n ∧ av = .int .i64 a ∧ gv = .bool g ∧ Gro n m xss s t L ∧ wr.ownsRow W.heap.size 2 1 (.slice (some ⟨G, 0, none⟩) n c2) n (L.map (Value.int .i64)) ∧ Below W.heap.size W wr ∧ PassS n L0 g L (doneP m xss L0 a 0)) (fun _ av _ => n - (intOf av).toNat)
      case atStart => exact ⟨0, false, L0, Nat.zero_le _, rfl, rfl, HGR0.out, HO0.out, HB0.out, .inl ⟨rfl, rfl, fun u hu => absurd hu (Nat.not_lt_zero _), fun v hv => absurd hv (Nat.not_lt_zero _)⟩⟩
      case round =>
        obtain ⟨a, g1, L1, ha, rfl, rfl, hgr1, hown1, hbel1, hps1⟩ := hrel
        obtain ⟨wa, hwa⟩ : ∃ wa, wa = wr := ⟨_, rfl⟩
        rw [← hwa] at hown1 hbel1 ⊢
        clear hwa
        have HGR1 := Lib.hid hgr1
        have HO1 := Lib.hid hown1
        have HB1 := Lib.hid hbel1
        have HP1 := Lib.hid hps1
        have ha0 : (0 : Int) ≤ (a : Int) := by omega
        clear hgr1 hown1 hbel1 hps1
        by_cases hlta : a < n
        · have han : (a : Int) < (n : Int) := by omega
          go_wp2_with fail
          go_loopw [5, 7] (fun gv bv wr => ∃ (b : Nat) (g : Bool) (L : List Int), b ≤ a ∧ bv = .int .i64 b ∧ gv = .bool g ∧ Gro n m xss s t L ∧ wr.ownsRow W.heap.size 2 1 (.slice (some ⟨G, 0, none⟩) n c2) n (L.map (Value.int .i64)) ∧ Below W.heap.size W wr ∧ PassS n L0 g L (doneP m xss L0 a b)) (fun _ bv _ => a - (intOf bv).toNat)
          case atStart => exact ⟨0, g1, L1, Nat.zero_le _, rfl, rfl, HGR1.out, HO1.out, HB1.out, HP1.out⟩
          case round =>
            obtain ⟨b, g2, L2, hb, rfl, rfl, hgr2, hown2, hbel2, hps2⟩ := hrel
            obtain ⟨wb, hwb⟩ : ∃ wb, wb = wr := ⟨_, rfl⟩
            rw [← hwb] at hown2 hbel2 ⊢
            clear hwb
            have HGR2 := Lib.hid hgr2
            have HO2 := Lib.hid hown2
            have HB2 := Lib.hid hbel2
            have HP2 := Lib.hid hps2
            have hb0 : (0 : Int) ≤ (b : Int) := by omega
            clear hgr2 hown2 hbel2 hps2
            by_cases hltb : b < a
            · have hba : (b : Int) < (a : Int) := by omega
              have hbn : (b : Int) < (n : Int) := by omega
              go_wp2_with fail
              go_loopw [5, 8] (fun gv xv wr => ∃ (x : Nat) (g : Bool) (L : List Int), x ≤ m ∧ xv = .int .i64 x ∧ gv = .bool g ∧ Gro n m xss s t L ∧ wr.ownsRow W.heap.size 2 1 (.slice (some ⟨G, 0, none⟩) n c2) n (L.map (Value.int .i64)) ∧ Below W.heap.size W wr ∧ PassS n L0 g L (doneP m xss L0 a b ∧ okP2 xss L0 a b x)) (fun _ xv _ => m - (intOf xv).toNat)
              case atStart => exact ⟨0, g2, L2, Nat.zero_le _, rfl, rfl, HGR2.out, HO2.out, HB2.out, HP2.out.imp (fun _ h => ⟨h, fun _ x hx => absurd hx (Nat.not_lt_zero _)⟩)⟩
              case round =>
                obtain ⟨x, g3, L3, hx, rfl, rfl, hgr3, hown3, hbel3, hps3⟩ := hrel
                obtain ⟨wx, hwx⟩ : ∃ wx, wx = wr := ⟨_, rfl⟩
                rw [← hwx] at hown3 hbel3 ⊢
                clear hwx
                have HGR3 := Lib.hid hgr3
                have HO3 := Lib.hid hown3
                have HB3 := Lib.hid hbel3
                have HP3 := Lib.hid hps3
                have hx0 : (0 : Int) ≤ (x : Int) := by omega
                have HLB := Lib.hid hgr3.labs
                clear hgr3 hown3 hbel3 hps3
                have hlab : ∀ u, u < n → ∀ W', Below wx.heap.size wx W' → W'.cell? ⟨G, u, none⟩ = some (.int .i64 (lab L3 u)) := by
                  intro u hu W' hb'
                  have h1 : wx.cell? ⟨G, u, none⟩ = some (.int .i64 (lab L3 u)) := by
                    rw [HO3.out.cellAt u (by omega), List.getElem?_map, lab_at (by rw [HLB.out.len]; exact hu)]; rfl
                  exact (hb'.cell (cell_lt h1)).trans h1
                have HLAB := Lib.hid hlab
                have XX := Lib.hid (Box.below HBX.out HB3.out)
                have q1 := XX.out 1 _ rfl
                obtain ⟨Y, hY⟩ : ∃ Y, Y = lab L3 a := ⟨_, rfl⟩
                obtain ⟨Z, hZ⟩ : ∃ Z, Z = lab L3 b := ⟨_, rfl⟩
                have hca := HLAB.out a hlta wx (Below.refl _ _)
                have hcb := HLAB.out b (by omega) wx (Below.refl _ _)
                rw [← hY] at hca
                rw [← hZ] at hcb
                have HY := Lib.hid hY
                have HZ := Lib.hid hZ
                clear hlab hY hZ
                by_cases hltx : x < m
                · have hxm : decide ((x : Int) < (m : Int)) = true := by simp; omega
                  rcases hyz : (Y == Z) with _ | _
                  · have HNE := Lib.hid (show ¬ lab L3 a = lab L3 b by rw [← HY.out, ← HZ.out]; simpa using hyz)
                    have HPN := Lib.hid (show PassS n L0 g3 L3 (doneP m xss L0 a (b + 1)) from HP3.out.imp (fun e h => doneP_next h.1 (fun e' => absurd (by rw [e]; exact e') HNE.out)))
                    go_wp2_with fail
                    go_quiet (fail)
                    go_wp2_with fail
                    go_roundw
                    case rel => exact ⟨b + 1, g3, L3, by omega, by go_num, rfl, HGR3.out, own_below HO3.out (below_drewN' (Below.refl _ _) _), below_drewN' HB3.out _, HPN.out⟩
                    case measure => simp [intOf]; omega
                  · have HEQ := Lib.hid (show lab L3 a = lab L3 b by rw [← HY.out, ← HZ.out]; simpa using hyz)
                    go_wp2_with fail
                    go_quiet (fail)
                    obtain ⟨w2, hw2⟩ : ∃ w2, w2 = wx.drewN nq := ⟨_, rfl⟩
                    have b2 : Below wx.heap.size wx w2 := by rw [hw2]; exact below_drewN' (Below.refl _ _) _
                    have HO4 := Lib.hid (own_below HO3.out b2)
                    have HB4 := Lib.hid (below_then HB3.out b2)
                    rw [← hw2]
                    clear hca hcb q1 hw2
                    obtain ⟨row, Bx, ox, Ar, cr, hr1, hAe, hcr0, hnr⟩ := (HX.out.below HB4.out).at_ hltx
                    have XX := Lib.hid (Box.below HBX.out HB4.out)
                    subst hAe
                    have hgr := HG.out.rows x row hr1
                    have e : xss.getD x [] = row := by rw [List.getD_eq_getElem?_getD, hr1]; rfl
                    have hval : ∀ u, u < n → row[u]? = some ((nx xss x u : Nat) : Int) := by
                      intro u hu
                      have h1 : u < row.length := by rw [hgr.1]; exact hu
                      have h2 := hgr.2 row[u] (List.getElem_mem h1)
                      rw [List.getElem?_eq_getElem h1]
                      unfold nx
                      rw [e, List.getD_eq_getElem?_getD, List.getElem?_eq_getElem h1, Option.getD_some]
                      congr 1
                      omega
                    have hbn2 : b < n := by omega
                    obtain ⟨y1, b3, off3, hy1, rfl, hcy1⟩ := hnr.at_ (show a < row.length by rw [hgr.1]; exact hlta)
                    obtain ⟨y2, b4, off4, hy2, hA4, hcy2⟩ := hnr.at_ (show b < row.length by rw [hgr.1]; exact hbn2)
                    obtain ⟨rfl, rfl⟩ : b3 = b4 ∧ off3 = off4 := by simpa using hA4
                    have e1 : y1 = ((nx xss x a : Nat) : Int) := by have h9 := hval a hlta; rw [hy1] at h9; exact Option.some.inj h9
                    have e2 : y2 = ((nx xss x b : Nat) : Int) := by have h9 := hval b hbn2; rw [hy2] at h9; exact Option.some.inj h9
                    subst e1
                    subst e2
                    rw [hgr.1] at hcr0
                    have hin : ∀ u, u < n → nx xss x u < n := fun u hu => HG.out.to [(x : Int)] u (fun z hz => by rw [List.mem_singleton.1 hz]; omega) hu
                    have hi1 := hin a hlta
                    have hi2 := hin b hbn2
                    have HXM := Lib.hid hltx
                    have HAN := Lib.hid hlta
                    have HBN := Lib.hid hbn2
                    obtain ⟨s', hs'⟩ : ∃ s', s' = nx xss x a := ⟨_, rfl⟩
                    obtain ⟨t', ht'⟩ : ∃ t', t' = nx xss x b := ⟨_, rfl⟩
                    rw [← hs'] at hcy1 hi1
                    rw [← ht'] at hcy2 hi2
                    have HS' := Lib.hid hs'
                    have HT' := Lib.hid ht'
                    have hcp := HLAB.out s' hi1 w2 b2
                    have hcq := HLAB.out t' hi2 w2 b2
                    obtain ⟨P, hP⟩ : ∃ P, P = lab L3 s' := ⟨_, rfl⟩
                    obtain ⟨Q, hQ⟩ : ∃ Q, Q = lab L3 t' := ⟨_, rfl⟩
                    rw [← hP] at hcp
                    rw [← hQ] at hcq
                    have HP := Lib.hid (show P = lab L3 (nx xss x a) by rw [hP, hs'])
                    have HQ := Lib.hid (show Q = lab L3 (nx xss x b) by rw [hQ, ht'])
                    have hs0 : (0 : Int) ≤ (s' : Int) := by omega
                    have hsn : (s' : Int) < (n : Int) := by omega
                    have ht0 : (0 : Int) ≤ (t' : Int) := by omega
                    have htn : (t' : Int) < (n : Int) := by omega
                    have q1 := XX.out 1 _ rfl
                    clear hr1 hgr e hval hnr hy1 hy2 hA4 hin hi1 hi2 hs' ht' hP hQ b2 hbn2
                    rcases hpq : (P != Q) with _ | _
                    · have HPN := Lib.hid (show PassS n L0 g3 L3 (doneP m xss L0 a b ∧ okP2 xss L0 a b (x + 1)) from HP3.out.imp (fun e h => ⟨h.1, fun e' z hz => by
                        by_cases ez : z = x
                        · subst ez
                          have h9 : P = Q := by simpa using hpq
                          rw [← e, ← HP.out, ← HQ.out]
                          exact h9
                        · exact h.2 e' z (by omega)⟩))
                      go_wp2_with fail
                      go_roundw
                      case rel => exact ⟨x + 1, g3, L3, by omega, by go_num, rfl, HGR3.out, HO4.out, HB4.out, HPN.out⟩
                      case measure => simp [intOf]; omega
                    · have hne : ¬ lab L3 (nx xss x a) = lab L3 (nx xss x b) := by rw [← HP.out, ← HQ.out]; simpa using hpq
                      obtain ⟨hg4, hl4, _⟩ := Gro.step HG.out HGR3.out HS.out HT.out HAN.out HBN.out HXM.out HEQ.out hne
                      rw [← HP.out, ← HQ.out] at hg4 hl4
                      have HG4 := Lib.hid hg4
                      have HPN := Lib.hid (show PassS n L0 true (mergeL L3 P Q) (doneP m xss L0 a b ∧ okP2 xss L0 a b (x + 1)) from .inr ⟨rfl, Nat.lt_of_lt_of_le hl4 HP3.out.le⟩)
                      clear hne hg4 hl4
                      go_wp2_with fail
                      refine (l01Merge_any W.heap.size G c2 n L3 P Q w2 HO4.out HLB.out.len hn10).mono ?_
                      rintro e w5 ⟨rfl, o5, on5⟩
                      have O5 := Lib.hid o5
                      have B5 := Lib.hid (Only.below HB4.out on5 HWG.out HB4.out.size)
                      clear o5 on5 hcp hcq hcy1 hcy2 hcr0 q1
                      go_wp2_with fail
                      go_roundw
                      case rel => exact ⟨x + 1, true, mergeL L3 P Q, by omega, by go_num, rfl, HG4.out, O5.out, B5.out, HPN.out⟩
                      case measure => simp [intOf]; omega
                · have hxm : decide ((x : Int) < (m : Int)) = false := by simp; omega
                  have hxe : x = m := by omega
                  have HPN := Lib.hid (show PassS n L0 g3 L3 (doneP m xss L0 a (b + 1)) from HP3.out.imp (fun _ h => doneP_next h.1 (by rw [← hxe]; exact h.2)))
                  clear hxe
                  go_wp2_with fail
                  go_quiet (fail)
                  go_wp2_with fail
                  go_roundw
                  case rel => exact ⟨b + 1, g3, L3, by omega, by go_num, rfl, HGR3.out, own_below HO3.out (below_drewN' (Below.refl _ _) _), below_drewN' HB3.out _, HPN.out⟩
                  case measure => simp [intOf]; omega
            · have hba : ¬ (b : Int) < (a : Int) := by omega
              have hbe : b = a := by omega
              have HPN := Lib.hid (show PassS n L0 g2 L2 (doneP m xss L0 (a + 1) 0) from HP2.out.imp (fun _ h => ⟨fun u hu v hv => by
                by_cases e : u = a
                · subst e; exact h.2 v (by omega)
                · exact h.1 u (by omega) v hv, fun v hv => absurd hv (Nat.not_lt_zero _)⟩))
              clear hbe
              go_wp2_with fail
              go_roundw
              case rel => exact ⟨a + 1, g2, L2, by omega, by go_num, rfl, HGR2.out, HO2.out, HB2.out, HPN.out⟩
              case measure => simp [intOf]; omega
        · have han : ¬ (a : Int) < (n : Int) := by omega
          have hae : a = n := by omega
          have HFIN := Lib.hid (show (g1 = false → LeastL n m xss s t L1) ∧ 2 * cntL n L1 + boolN (.bool g1) < 2 * cntL n L0 + 1 from by
            rcases HP1.out with ⟨h1, h2, h3⟩ | ⟨h1, h2⟩
            · subst h1
              subst h2
              refine ⟨fun _ => HGR1.out.least (fun u hu v hv => h3.1 u (by omega) v hv), ?_⟩
              show 2 * cntL n L1 + 0 < _
              omega
            · subst h1
              refine ⟨fun h => absurd h (by decide), ?_⟩
              show 2 * cntL n L1 + 1 < _
              omega)
          clear hae
          go_wp2_with fail
          go_roundw
          case rel => exact ⟨g1, L1, rfl, HGR1.out, HO1.out, HB1.out, HFIN.out.1⟩
          case measure =>
            rw [readL_own HO1.out HGR1.out.labs.len, readL_own HO0.out HGR0.out.labs.len]
            exact HFIN.out.2

end Go.Proofs.Ytdelanjkaokiaaa
