/-
  Automata with choices in which each letter leads somewhere: the contracts of Index and Contains over sets as bits, and of both IsTotal.
-/
import Derived.Test.YtikimfncpemmkabOpts
namespace Go.Proofs.Ytikimfncpemmkab
open Go.RowKit Go.Deep Go.ChangeShapes Go.WideShapes
open Hunt Moved

/-- A valid automaton with choices with n states and m letters. -/
structure GoodC (n m : Nat) (xsss : List (List (List Int))) : Prop where
  n1 : 1 ≤ n
  n10 : n ≤ 10
  m1 : 1 ≤ m
  m3 : m ≤ 3
  len : xsss.length = m
  row : ∀ x, x < m → ∃ xss, xsss[x]? = some xss ∧ xss.length = n ∧ ∀ xs ∈ xss, setB (n : Int) xs = true
theorem goodC_of {s : Int} {m : Nat} {xsss : List (List (List Int))} (h : okC s xsss = true) (hm : xsss.length = m) : ∃ n : Nat, s = (n : Int) ∧ GoodC n m xsss := by
  simp only [okC, okFC, Bool.and_eq_true, inB, decide_eq_true_eq, List.all_eq_true] at h
  obtain ⟨⟨h1, h2⟩, h3⟩ := h
  obtain ⟨n, rfl⟩ : ∃ n : Nat, s = (n : Int) := ⟨s.toNat, by omega⟩
  refine ⟨n, rfl, by omega, by omega, by omega, by omega, hm, fun x hx => ?_⟩
  have hx' : x < xsss.length := by omega
  have := h3 xsss[x] (List.getElem_mem hx')
  simp only [lineFC, Bool.and_eq_true, decide_eq_true_eq, List.all_eq_true] at this
  exact ⟨xsss[x], List.getElem?_eq_getElem hx', by omega, this.1⟩
theorem GoodC.opts {n m : Nat} {xsss : List (List (List Int))} (h : GoodC n m xsss) (hw : Wide3 4611686018427387904 xsss) : ∀ (r : Nat) (xss : List (List Int)), xsss[r]? = some xss → xss.length ≤ 10 ∧ ∀ (k : Nat) (xs : List Int), xss[k]? = some xs → xs.length ≤ 4611686018427387904 ∧ ∀ x ∈ xs, 0 ≤ x ∧ x < 10 := by
  intro r xss hr
  have hlt := lt_of_at3 hr
  rw [h.len] at hlt
  obtain ⟨xss', h1, h2, h3⟩ := h.row r hlt
  rw [hr] at h1
  obtain rfl := Option.some.inj h1
  have hn := h.n10
  refine ⟨by omega, fun k xs hk => ⟨(hw r xss hr).2 k xs hk, fun x hx => ?_⟩⟩
  have := setB_mem (h3 xs (List.mem_of_getElem? hk)) x hx
  omega

set_option maxRecDepth 100000 in
theorem slIndexU_any (A : Option Addr) (n cap v : Nat) (bs : List Nat) (w : World) (h : BitsAt w A n bs) (hn : n ≤ 4611686018427387904) :
    Calls Try.prog 170 #[.slice A n cap, .int .u16 (v : Int)] w fun e w' => ∃ i : Int, e = .returned (.int .i64 i) ∧ decide (0 ≤ i) = bs.any (fun b => decide (b = v)) ∧ w = w' := by
  have HL := Lib.hid h.1
  go_enter Try.func170, Try.ntmps170
  go_wp2_with fail
  go_loop [8] (fun i => ∃ k : Nat, k ≤ n ∧ i = .int .i64 k ∧ (bs.take k).any (fun b => decide (b = v)) = false) (fun i => n - (intOf i).toNat)
  case atStart => exact ⟨0, Nat.zero_le _, rfl, by simp⟩
  case round =>
    obtain ⟨k, hk, rfl, hall⟩ := hrel
    have HA := Lib.hid hall
    clear hall
    by_cases hlt : k < n
    · obtain ⟨x, b, off, hx, rfl, hc⟩ := h.at_ hlt
      have HX := Lib.hid hx
      have hk0 : (0 : Int) ≤ (k : Int) := by omega
      have hkn : (k : Int) < (n : Int) := by omega
      clear hx
      by_cases hxv : x = v
      · have HXV := Lib.hid hxv
        have hbq : ((v : Int) == (x : Int)) = true := by rw [beq_iff_eq]; omega
        clear hxv
        go_wp2_with fail
        go_ret
        refine ⟨_, rfl, ?_, rfl⟩
        rw [List.any_eq_true.2 ⟨x, List.mem_of_getElem? HX.out, by simpa using HXV.out⟩]
        simp
      · have HXV := Lib.hid hxv
        have hbq : ((v : Int) == (x : Int)) = false := by rw [beq_eq_false_iff_ne]; omega
        clear hxv
        go_wp2_with fail
        go_round
        case rel => exact ⟨k + 1, by omega, by go_num, by rw [take_snoc HX.out, List.any_append, HA.out]; simp [HXV.out]⟩
        case measure => simp [intOf]; omega
    · go_wp2_with fail
      go_ret
      refine ⟨_, rfl, ?_, rfl⟩
      have ha := HA.out
      rw [List.take_of_length_le (by rw [HL.out]; omega)] at ha
      rw [ha]
      rfl

set_option maxRecDepth 100000 in
theorem slContainsU_any (A : Option Addr) (n cap v : Nat) (bs : List Nat) (w : World) (h : BitsAt w A n bs) (hn : n ≤ 4611686018427387904) :
    Calls Try.prog 138 #[.slice A n cap, .int .u16 (v : Int)] w fun e w' => e = .returned (.bool (bs.any (fun b => decide (b = v)))) ∧ w = w' := by
  obtain ⟨r, hr⟩ : ∃ r, r = bs.any (fun b => decide (b = v)) := ⟨_, rfl⟩
  have HR := Lib.hid hr
  rw [← hr]
  clear hr
  go_enter Try.func138, Try.ntmps138
  go_wp2_with fail
  refine (slIndexU_any A n cap v bs _ h hn).mono ?_
  rw [← HR.out]
  rintro e w' ⟨i, rfl, hi, rfl⟩
  have HI := Lib.hid hi
  clear hi
  go_wp2_with fail
  go_ret
  exact ⟨ret_bool HI.out, rfl⟩

theorem setN_nil {xs : List Int} : setN xs = 0 ↔ xs = [] := by
  constructor
  · intro h
    rcases List.eq_nil_or_concat xs with h1 | ⟨ys, y, h1⟩
    · exact h1
    · rw [h1, List.concat_eq_append, setN_snoc] at h
      have := Nat.or_eq_zero_iff.1 h
      have h0 : 0 < 2 ^ y.toNat := Nat.pow_pos (by decide)
      omega
  · rintro rfl; rfl

/-- What IsTotal answers. -/
def fullB (xss : List (List Int)) : Bool := xss.all fun xs => decide (¬ xs.length = 0)
def isTotal (s : Int) (xsss : List (List (List Int))) : Bool × Int := if okC s xsss = true then (xsss.all fullB, 0) else (false, 1)
theorem isTotal_1 {s : Int} {xsss : List (List (List Int))} (h : okC s xsss = false) : isTotal s xsss = (false, 1) := by unfold isTotal; rw [if_neg (by simp [h])]
theorem isTotal_0 {s : Int} {xsss : List (List (List Int))} (h : okC s xsss = true) : isTotal s xsss = (xsss.all fullB, 0) := by unfold isTotal; rw [if_pos h]
theorem full_bits (xss : List (List Int)) : fullB xss = !(xss.map setN).any (fun b => decide (b = 0)) := by
  unfold fullB
  rw [List.any_map, List.all_eq_not_any_not]
  congr 1
  apply congrArg (fun f => List.any xss f)
  funext xs
  by_cases h : xs = []
  · subst h; rfl
  · have h1 : ¬ xs.length = 0 := fun e => h (List.eq_nil_of_length_eq_zero e)
    have h2 : ¬ setN xs = 0 := fun e => h (setN_nil.1 e)
    simp [h1, h2]
theorem total_snoc {xsss : List (List (List Int))} {k : Nat} {x : List (List Int)} (h : (xsss.take k).all fullB = true) (hx : xsss[k]? = some x) (hp : fullB x = true) : (xsss.take (k + 1)).all fullB = true := by
  rw [take_snoc hx, List.all_append, h]; simp [hp]
theorem total_stop {xsss : List (List (List Int))} {k : Nat} {x : List (List Int)} (hx : xsss[k]? = some x) (hp : fullB x = false) : xsss.all fullB = false := by
  rw [List.all_eq_false]
  exact ⟨x, List.mem_of_getElem? hx, by simp [hp]⟩
theorem two_mkt {r : Bool × Int} {b : Bool} {c : Int} (h : r = (b, c)) : Ending.returned (.tuple #[.bool b, .int .i64 c]) = .returned (.tuple #[.bool r.1, .int .i64 r.2]) := by rw [h]

set_option maxRecDepth 100000 in
set_option maxHeartbeats 2000000 in
theorem implIsTotal_any (s : Int) (A : Option Addr) (m cap : Nat) (xss : List (List (List Int))) (w : World) (h : TabsAt w A m xss) (hm : m ≤ 4611686018427387904) (hrows : Wide3 4611686018427387904 xss) :
    Calls Try.prog 70 #[.agg #[.int .i64 s, .slice A m cap]] w fun e w' => e = .returned (.tuple #[.bool (isTotal s xss).1, .int .i64 (isTotal s xss).2]) ∧ Below w.heap.size w w' := by
  have HR := Lib.hid hrows
  have HM := Lib.hid h.1
  have b0 : Below w.heap.size w (w.alloc (.cells #[.int .i64 s, .slice A m cap] 28)) := (Below.refl _ _).alloc (Nat.le_refl _) _
  have H0 := Lib.hid (h.below b0)
  have B0 := Lib.hid b0
  clear hrows b0
  rcases hok : okC s xss with _ | _
  · have HF := Lib.hid (isTotal_1 hok)
    go_enter Try.func70, Try.ntmps70
    go_wp2_with fail
    refine (implValidChoice_any s A m cap xss _ H0.out hm HR.out).mono ?_
    rw [hok]
    rintro e w1 ⟨rfl, b1⟩
    have B1 := Lib.hid (below_then B0.out b1)
    clear b1
    go_wp2_with fail
    go_ret2
    exact ⟨two_mkt HF.out, B1.out⟩
  · obtain ⟨n, hsn, hg⟩ := goodC_of hok HM.out
    subst hsn
    have HF := Lib.hid (isTotal_0 hok)
    have HG := Lib.hid hg
    have hm3 : m ≤ 3 := hg.m3
    clear hg
    go_enter Try.func70, Try.ntmps70
    go_wp2_with fail
    refine (implValidChoice_any (n : Int) A m cap xss _ H0.out hm HR.out).mono ?_
    rw [hok]
    rintro e w1 ⟨rfl, b1⟩
    have d0 : w1.cell? ⟨w.heap.size, 0, none⟩ = some (.int .i64 (n : Int)) := (b1.cell (by simp)).trans (by go_cell)
    have d1 : w1.cell? ⟨w.heap.size, 1, none⟩ = some (.slice A m cap) := (b1.cell (by simp)).trans (by go_cell)
    have H1 := Lib.hid (H0.out.below b1)
    have B1 := Lib.hid (below_then B0.out b1)
    clear b1 hok h
    go_wp2_with fail
    refine (optionsOf_any (n : Int) A m cap xss _ H1.out hm3 (HG.out.opts HR.out)).mono ?_
    rintro e w2 ⟨X, rfl, ho, b2⟩
    have HO := Lib.hid ho
    have B2 := Lib.hid (below_then B1.out b2)
    clear ho b2 d0 d1
    go_wp2_with fail
    go_loop [12] (fun i => ∃ k : Nat, k ≤ m ∧ i = .int .i64 k ∧ (xss.take k).all fullB = true) (fun i => m - (intOf i).toNat)
    case atStart => exact ⟨0, Nat.zero_le _, rfl, by simp⟩
    case round =>
      obtain ⟨k, hk, rfl, hall⟩ := hrel
      have HA := Lib.hid hall
      clear hall
      by_cases hlt : k < m
      · obtain ⟨bs, b, off, A1, c2, hx, rfl, hc, hnum⟩ := HO.out.at_ hlt
        obtain ⟨xs, hxs, hxl, hxm⟩ := HG.out.row k hlt
        rw [optsOf_at hxs] at hx
        obtain rfl : xs.map setN = bs := by simpa using hx
        rw [List.length_map] at hc hnum
        have HX := Lib.hid hxs
        have HN := Lib.hid hnum
        have hk0 : (0 : Int) ≤ (k : Int) := by omega
        have hkn : (k : Int) < (m : Int) := by omega
        have hlen : xs.length ≤ 4611686018427387904 := by rw [hxl]; have := HG.out.n10; omega
        have HFB := Lib.hid (full_bits xs)
        obtain ⟨v, hv⟩ : ∃ v, v = (xs.map setN).any (fun b => decide (b = 0)) := ⟨_, rfl⟩
        have HV := Lib.hid hv
        clear hnum hxs hxl hxm hv
        go_wp2_with fail
        refine (slContainsU_any A1 xs.length c2 0 (xs.map setN) _ HN.out hlen).mono ?_
        rw [← HV.out]
        rintro e w' ⟨rfl, rfl⟩
        rcases v with _ | _
        · go_wp2_with fail
          go_round
          case rel => exact ⟨k + 1, by omega, by go_num, total_snoc HA.out HX.out (by rw [HFB.out, ← HV.out]; rfl)⟩
          case measure => simp [intOf]; omega
        · go_wp2_with fail
          go_ret2
          exact ⟨two_mkt (by rw [HF.out, total_stop HX.out (by rw [HFB.out, ← HV.out]; rfl)]), B2.out⟩
      · have hkm : k = m := by omega
        have HE := Lib.hid (show isTotal (n : Int) xss = (true, 0) by
          have ha := HA.out
          rw [hkm, List.take_of_length_le (by rw [HM.out]; exact Nat.le_refl _)] at ha
          rw [HF.out, ha])
        clear hkm
        go_wp2_with fail
        go_ret2
        exact ⟨two_mkt HE.out, B2.out⟩

end Go.Proofs.Ytikimfncpemmkab
