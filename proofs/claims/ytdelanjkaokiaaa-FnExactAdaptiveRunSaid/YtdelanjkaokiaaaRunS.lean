/-
  An adaptive run: the model's AdaptiveRun.
-/
import Derived.Test.YtdelanjkaokiaaaRunD
import Derived.Test.YtdelanjkaokiaaaLetT
namespace Go.Proofs.Ytdelanjkaokiaaa
open Go.RowKit Go.Deep Go.ChangeShapes Go.WideShapes

theorem own_apartR {w w' : World} {base : Nat} {e : TypeId} {v : Value} {n : Nat} {cs : List Value} {row : Option Nat} (h : w.ownsRow base e 1 v n cs) (hg : w.grownBy w' row) (hne : ∀ k, v.ownBlock = some k → row ≠ some k) : w'.ownsRow base e 1 v n cs :=
  h.kept hg (by
    rcases hv : v.ownBlock with _ | g
    · exact .inl rfl
    · exact .inr (fun e => hne g hv e.symm))

set_option maxRecDepth 100000 in
set_option maxHeartbeats 8000000 in
theorem specAdaptiveRun_any (s : Int) (A : Option Addr) (n c : Nat) (xss : List (List Int)) (B : Option Addr) (m d : Nat) (ls : List Int) (A2 : Option Addr) (l cap : Nat) (set : List Int) (x : Int) (w : World) (h : RowsAt w A n xss) (hn : n ≤ 4611686018427387904)
    (hrows : ∀ (r : Nat) (xs : List Int), xss[r]? = some xs → xs.length ≤ 4611686018427387904) (g : NumsAt w B m ls) (hm : m ≤ 4611686018427387904) (hs : NumsAt w A2 l set) (hl : l ≤ 4611686018427387904) :
    Calls Try.prog 20 #[.agg #[.int .i64 s, .slice A n c, .slice B m d], .slice A2 l cap, .int .i64 x] w (Lists3To (adaptiveRun s xss ls set x) w) := by
  obtain ⟨i0, hi, hz0, hz1, hz2⟩ := info_parts info_int64
  have HR := Lib.hid hrows
  have HL := Lib.hid h.1
  have HSL := Lib.hid hs.1
  obtain ⟨R, hR⟩ : ∃ R, R = adaptiveRun s xss ls set x := ⟨_, rfl⟩
  rw [← hR]
  have HRR := Lib.hid hR
  clear hrows hR
  obtain ⟨w1, hw1⟩ : ∃ w1, w1 = w.alloc (.cells #[.int .i64 s, .slice A n c, .slice B m d] 33) := ⟨_, rfl⟩
  have b1 : Below w.heap.size w w1 := by rw [hw1]; exact (Below.refl _ _).alloc (Nat.le_refl _) _
  have HB1 := Lib.hid (show LBox w1 w.heap.size s A n c B m d by rw [hw1]; exact Box.new _ _ _)
  have HX1 := Lib.hid (h.below b1)
  have HY1 := Lib.hid (g.below b1)
  have HS1 := Lib.hid (hs.below b1)
  have W1 := Lib.hid b1
  have HW := Lib.hid hw1
  clear h g hs b1 hw1
  go_enter Try.func20, Try.ntmps20
  go_wp2_with fail
  rw [← HW.out]
  refine (l08Ok_any w.heap.size s A n c xss B m d ls w1 HB1.out HX1.out hn HR.out HY1.out hm).mono ?_
  rintro e w2 ⟨rfl, k2, hk2⟩
  have b2 : Below w1.heap.size w1 w2 := by rw [hk2]; exact below_drewN' (Below.refl _ _) _
  have HB2 := Lib.hid (show LBox w2 w.heap.size s A n c B m d from Box.below HB1.out b2)
  have HX2 := Lib.hid (HX1.out.below b2)
  have HY2 := Lib.hid (HY1.out.below b2)
  have HS2 := Lib.hid (HS1.out.below b2)
  have W2 := Lib.hid (below_then W1.out b2)
  clear b2 hk2 HB1 HX1 HY1 HS1 W1 HW
  rcases hok : okL s xss ls with _ | _
  · have HF := Lib.hid (HRR.out.trans (adaptiveRun_1 hok))
    go_wp2_with fail
    go_ret3
    exact lists3To_mk (xs := []) HF.out (own_none' rfl W2.out.size) (W2.out.alloc W2.out.size _)
  · obtain ⟨N, hsN, hg⟩ := goodL_of hok HL.out
    subst hsN
    have HG := Lib.hid hg
    have hN1 : (1 : Int) ≤ (N : Int) := by have := hg.good.n1; omega
    have hN10 : (N : Int) ≤ 10 := by have := hg.good.n10; omega
    have m0 := HB2.out 0 _ rfl
    have hmN : m = N := by rw [← HY2.out.1]; exact hg.len
    subst hmN
    clear hg
    go_wp2_with fail
    refine (l01Set_any w.heap.size (m : Int) A2 l cap set _ m0 HS2.out hN1 hN10 hl).mono ?_
    rintro e w3 ⟨rfl, k3, hk3⟩
    have b3 : Below w2.heap.size w2 w3 := by rw [hk3]; exact below_drewN' (Below.refl _ _) _
    have HLT := Lib.hid (show LitAt w3 w.heap.size A m n c xss B d ls from ⟨HG.out, Box.below HB2.out b3, HX2.out.below b3, HY2.out.below b3⟩)
    have HS3 := Lib.hid (HS2.out.below b3)
    have W3 := Lib.hid (below_then W2.out b3)
    clear b3 hk3 HB2 HX2 HY2 HS2 W2 m0
    rcases hse : setB (m : Int) set with _ | _
    · have HF := Lib.hid (HRR.out.trans (adaptiveRun_2 hok hse))
      go_wp2_with fail
      go_ret3
      exact lists3To_mk (xs := []) HF.out (own_none' rfl W3.out.size) (W3.out.alloc W3.out.size _)
    · rcases hha : hasB set x with _ | _
      · have HF := Lib.hid (HRR.out.trans (adaptiveRun_3 hok hha))
        go_wp2_with fail
        refine (l00Has_any A2 l cap set x w3 HS3.out hl).mono ?_
        rw [hha]
        rintro e w' ⟨rfl, rfl⟩
        go_wp2_with fail
        go_ret3
        exact lists3To_mk (xs := []) HF.out (own_none' rfl W3.out.size) (W3.out.alloc W3.out.size _)
      · have hxin := hasB_in hse hha
        obtain ⟨q, rfl⟩ : ∃ q : Nat, x = (q : Int) := ⟨x.toNat, by omega⟩
        have HQN := Lib.hid (show q < m by omega)
        have HHA := Lib.hid hha
        have hSN := setN_ltN hse
        have hmem : ∀ y ∈ set, 0 ≤ y ∧ y < 10 := fun y hy => by have := setB_mem hse y hy; omega
        have HMEM := Lib.hid hmem
        have HSLIST := Lib.hid (set_list hse (by omega))
        obtain ⟨S, hS⟩ : ∃ S, S = setN set := ⟨_, rfl⟩
        rw [← hS] at hSN
        have HSS := Lib.hid hS
        have HSN := Lib.hid hSN
        have HDN := Lib.hid (show deepN m xss ls set = depF n (belB m xss ls) S by unfold deepN; rw [HL.out, hS])
        have HSE := Lib.hid hse
        have HOK := Lib.hid hok
        have hdep := l08Depths_any w.heap.size A m n c xss B d ls w3 HLT.out
        obtain ⟨NN, hNN⟩ : ∃ NN, NN = 2 ^ m := ⟨_, rfl⟩
        rw [← hNN] at hdep hSN
        have hNN2 : NN ≤ 1024 := by rw [hNN]; exact pow_le (by omega)
        have HDEP := Lib.hid hdep
        have HNN := Lib.hid hNN
        clear hmem hS hdep hNN hxin hse hok
        go_wp2_with fail
        refine (l00Has_any A2 l cap set (q : Int) w3 HS3.out hl).mono ?_
        rw [hha]
        rintro e w' ⟨rfl, rfl⟩
        clear hha
        go_wp2_with fail
        refine HDEP.out.mono ?_
        rintro e w4 ⟨G, rfl, o4, b4⟩
        have HLT4 := Lib.hid (HLT.out.below b4)
        have HS4 := Lib.hid (HS3.out.below b4)
        have W4 := Lib.hid (below_then W3.out b4)
        have HD4 := Lib.hid (NumsAt.own o4 (rowF_len _ _) rfl)
        obtain ⟨V, hV⟩ : ∃ V, V = depF n (belB m xss ls) S := ⟨_, rfl⟩
        have hc : w4.cell? ⟨G, S, none⟩ = some (.int .i64 V) := by rw [o4.cellAt S (by omega), List.getElem?_map, rowF_at _ hSN, hV]; rfl
        have HV := Lib.hid hV
        have hS0 : (0 : Int) ≤ (S : Int) := by omega
        have hS1 : (S : Int) < (NN : Int) := by omega
        clear o4 b4 hV hSN
        go_wp2_with fail
        refine (l02BitsD_any A2 l cap set w4 HS4.out HMEM.out hl).mono ?_
        rw [← HSS.out]
        rintro e w5 ⟨rfl, rfl⟩
        have HDV := Lib.hid (show deepN m xss ls set = V from HDN.out.trans HV.out.symm)
        clear HDN HDEP
        rcases hneg : decide (V < 0) with _ | _
        · have hneg2 : ¬ V < 0 := by simpa using hneg
          obtain ⟨L, T, K, hrs, hra⟩ := adaptiveRun_at HOK.out HL.out HSE.out HHA.out (by rw [HDV.out]; exact hneg2) HQN.out
          have HF := Lib.hid (show R = (L, T, 0) from HRR.out.trans hrs)
          rw [← HSS.out] at hra
          have HST := Lib.hid hra
          clear hneg2 hrs hra
          go_wp2_with fail
          obtain ⟨w6, hw6⟩ : ∃ w6, w6 = w4.alloc (.cells #[] 2) := ⟨_, rfl⟩
          rw [← hw6]
          have b6 : Below w4.heap.size w4 w6 := by rw [hw6]; exact (Below.refl _ _).alloc (Nat.le_refl _) _
          have HO6 := Lib.hid (show w6.ownsRow w4.heap.size 2 1 (.slice (some ⟨w4.heap.size, 0, none⟩) 0 0) 0 ([].map (Value.int .i64)) by rw [hw6]; exact own_none w4 _ (Nat.le_refl _))
          have HLT6 := Lib.hid (HLT4.out.below b6)
          have HS6 := Lib.hid (HS4.out.below b6)
          have HD6 := Lib.hid (HD4.out.below b6)
          have HB6 := Lib.hid b6
          clear hw6 b6
          go_loopw [1, 2, 10] (fun zv sv ov wr => ∃ (A7 : Option Addr) (l7 c7 : Nat) (os : List Int) (b t k : Nat), zv = .slice A7 l7 c7 ∧ l7 = (listK b 10).length ∧ sv = .int .i64 (t : Int) ∧ RunAt m n xss ls L T os b t k ∧ NumsAt wr A7 l7 (listK b 10) ∧ wr.ownsRow w4.heap.size 2 1 ov os.length (os.map (Value.int .i64)) ∧ Below w4.heap.size w4 wr) (fun _ _ ov _ => 1024 - lenV ov)
          case atStart =>
            refine ⟨A2, l, cap, [], S, q, K, rfl, ?_, rfl, HST.out, ?_, HO6.out, HB6.out⟩
            · rw [HSS.out, HSLIST.out]; exact HSL.out.symm
            · rw [HSS.out, HSLIST.out]; exact HS6.out
          case round =>
            obtain ⟨A7, l7, c7, os, b, t, k, rfl, hl7, rfl, hrun, hset, hown, hbel⟩ := hrel
            obtain ⟨wi, hwi⟩ : ∃ wi, wi = wr := ⟨_, rfl⟩
            rw [← hwi] at hset hown hbel ⊢
            clear hwi
            obtain ⟨A8, c8, rfl⟩ := own_form hown
            have hb10 : b < 1024 := Nat.lt_of_lt_of_le hrun.bits (pow_le (by omega))
            have hlo : l7 = Lib.onesCount b := by rw [hl7, listK_len hb10]
            have HLL := Lib.hid hl7
            have HRU := Lib.hid hrun
            have HNS := Lib.hid hset
            have HOW := Lib.hid hown
            have HBE := Lib.hid hbel
            have HLW := Lib.hid (HLT4.out.below hbel)
            have HDW := Lib.hid (HD4.out.below hbel)
            have HM10 := Lib.hid (fun y (hy : y ∈ listK b 10) => show 0 ≤ y ∧ y < 10 by obtain ⟨q, rfl, h1, _⟩ := listK_mem.1 hy; omega)
            have hl10 : l7 ≤ 10 := by rw [hl7]; exact setL_len _ _
            have hol : os.length ≤ 1024 := by have := hrun.room; omega
            clear hset hown hbel hl7
            by_cases hmer : Lib.onesCount b ≤ 1
            · have hl1 : ¬ (1 : Int) < (l7 : Int) := by omega
              obtain ⟨he1, he2⟩ := hrun.done hmer
              have HE1 := Lib.hid he1
              have HE2 := Lib.hid he2
              clear hrun hmer hlo he1 he2
              go_wp2_with fail
              go_ret3
              exact lists3To_mk (xs := os) (show R = (os, (t : Int), 0) from HF.out.trans (by rw [HE1.out, HE2.out])) (own_base HOW.out W4.out.size) (below_then W4.out HBE.out)
            · have hl1 : (1 : Int) < (l7 : Int) := by omega
              obtain ⟨hpos, p, v, j, rfl, hp, hz, hnx, hv4, hlam, hnext⟩ := hrun.next HG.out HL.out.symm hmer
              have HPOS := Lib.hid hpos
              have HZ := Lib.hid hz
              have HNX := Lib.hid hnext
              have htm : t < m := hrun.state
              have HTM := Lib.hid htm
              clear hrun hmer hlo hpos hz hnext
              go_wp2_with fail
              refine (l02BitsD_any A7 l7 c7 (listK b 10) wi HNS.out HM10.out (by omega)).mono ?_
              rw [setN_listK hb10]
              rintro e w5 ⟨rfl, rfl⟩
              go_wp2_with fail
              refine (l08Letter_any w.heap.size A m n c xss B d ls (some ⟨G, 0, none⟩) NN NN _ b wi HLW.out HDW.out HNN.out (fun b hb => by rw [rowF_at _ (by rw [HNN.out]; exact hb)]) HRU.out.bits HPOS.out).mono ?_
              rw [HZ.out]
              rintro e w5 ⟨rfl, b5⟩
              have HL5 := Lib.hid (HLW.out.below b5)
              have HN5 := Lib.hid (HNS.out.below b5)
              have HB5 := Lib.hid b5
              obtain ⟨row, Bx, ox, Ar, cr, hr1, hAe, hcr0, hnr⟩ := HL5.out.rows.at_ hp
              subst hAe
              have hgr := HG.out.good.rows p row hr1
              obtain ⟨y, b3, off3, hy, rfl, hcy⟩ := hnr.at_ (show t < row.length by rw [hgr.1]; exact htm)
              have hyn : y = ((nx xss p t : Nat) : Int) := by
                have h1 := hgr.2 y (List.mem_of_getElem? hy)
                have e : xss.getD p [] = row := by rw [List.getD_eq_getElem?_getD, hr1]; rfl
                unfold nx
                rw [e, List.getD_eq_getElem?_getD, hy]
                simp only [Option.getD_some]
                omega
              subst hyn
              rw [hgr.1] at hcr0
              obtain ⟨z, b4, off4, hz4, rfl, hcz⟩ := HL5.out.lamps.at_ hnx
              obtain rfl : z = (v : Int) := by rw [hlam] at hz4; exact (Option.some.inj hz4).symm
              obtain ⟨t', ht'⟩ : ∃ t', t' = nx xss p t := ⟨_, rfl⟩
              rw [← ht'] at hcy hcz hnx HNX
              have m1 := HL5.out.box 1 _ rfl
              have m2 := HL5.out.box 2 _ rfl
              have hp0 : (0 : Int) ≤ (p : Int) := by omega
              have hpn : (p : Int) < (n : Int) := by omega
              have ht0 : (0 : Int) ≤ (t : Int) := by omega
              have htm' : (t : Int) < (m : Int) := by omega
              have ht'0 : (0 : Int) ≤ (t' : Int) := by omega
              have ht'm : (t' : Int) < (m : Int) := by omega
              have HP := Lib.hid hp
              have HBS := Lib.hid (listK_states HRU.out.bits)
              clear b5 hr1 hgr hnr hy hlam hz4 ht' htm hp hnx
              go_wp2_with fail
              refine (l08Believed_any w.heap.size _ m n c xss _ m d ls A7 l7 c7 (listK b 10) (p : Int) (v : Int) w5 HG.out HL5.out.box HL5.out.rows HL5.out.lamps HN5.out hl10 HBS.out ⟨hp0, hpn⟩).mono ?_
              rw [belB_listM HG.out HBS.out HP.out, setN_listK hb10]
              rintro e w6 ⟨u, rfl, o6, b6⟩
              obtain ⟨A9, c9, rfl⟩ := own_form o6
              have HO6 := Lib.hid o6
              have HB6 := Lib.hid (below_then HBE.out (below_then HB5.out b6))
              have HW6 := Lib.hid (own_below (own_below HOW.out HB5.out) b6)
              have HS56 := Lib.hid (show w5.heap.size ≤ w6.heap.size from b6.size)
              have HLT5 := Lib.hid (fun g (hg : (Value.slice A8 os.length c8).ownBlock = some g) => show g < w5.heap.size from ((own_below HOW.out HB5.out).lt g hg).2)
              clear o6 b6 m1 m2 hcr0 hcy hcz
              go_wp2_with (at_builtin; refine wpList_append_own _ rfl _ _ 25 rfl (w4.heap.size) 2 i0 (.int .i64 0) 1 8 Try.underlying25 hi hz0 hz1 hz2 rfl (by decide) _ _ _ rfl (World.ownsRow.alloc (HW6.out) _) ⟨(w6).heap.size, 0, none⟩ 1 1 [.int .i64 (p : Int)] rfl rfl (cell_one_new _ _ _) (ones_i64 [(p : Int)]) (by unfold maxLen; omega) (by omega) (by rw [World.size_alloc]; exact Nat.le_succ_of_le (HB6.out.size)) ?_)
              intro v' w7 hown' hgrow _
              obtain ⟨A10, c10, rfl⟩ := own_form hown'
              have hbb : Below w6.heap.size w6 (w6.alloc (.cells #[.int .i64 (p : Int)] 2)) := (Below.refl _ _).alloc (Nat.le_refl _) _
              have HB7 := Lib.hid (HB6.out.trans ((hbb.mono HB6.out.size).grown hgrow (Nat.le_trans HB6.out.size hbb.size) (fun g hg => (HW6.out.lt g hg).1)))
              have HO7 := Lib.hid hown'
              have HZ7 := Lib.hid (own_apartR (own_below HO6.out hbb) hgrow (fun g hg e => by have h1 := HLT5.out g e; have h2 := (HO6.out.lt g hg).1; omega))
              clear hown' hgrow hbb
              go_wp2_with fail
              refine ⟨⟨A9, _, c9, os ++ [(p : Int)], belB m xss ls b p v, t', j, rfl, rfl, rfl, HNX.out, NumsAt.own HZ7.out rfl rfl, by rw [List.length_append, List.map_append]; exact HO7.out, HB7.out⟩, ?_⟩
              have hro := HNX.out.room
              rw [List.length_append, List.length_singleton] at hro
              show 1024 - (os.length + 1) < 1024 - os.length
              omega
        · have hneg2 : V < 0 := by simpa using hneg
          have HF := Lib.hid (HRR.out.trans (adaptiveRun_6 HOK.out HSE.out HHA.out (by rw [HDV.out]; exact hneg2)))
          clear hneg
          go_wp2_with fail
          go_ret3
          exact lists3To_mk (xs := []) HF.out (own_none' rfl W4.out.size) (W4.out.alloc W4.out.size _)

end Go.Proofs.Ytdelanjkaokiaaa
