/-
  The contracts of isConnected and of both IsConnected.
-/
import Derived.Test.YtkhhemlfahdbnabCommon
namespace Go.Proofs.Ytkhhemlfahdbnab
open Go.RowKit Go.Deep Go.ChangeShapes Go.WideShapes

theorem foldl_lt {n m : Nat} {xss : List (List Int)} (hg : Good n m xss) : ∀ (ws : List Nat) (s : Nat), s < n → (∀ x ∈ ws, x < m) → ws.foldl (fun q x => nx xss x q) s < n
  | [], _, hs, _ => hs
  | x :: ws, _, hs, h => foldl_lt hg ws _ (hg.nextD (h x (by simp)) hs) (fun y hy => h y (by simp [hy]))
theorem reachF_lt {n m s q : Nat} {xss : List (List Int)} (hg : Good n m xss) (hs : s < n) (h : reachF m xss s q = true) : q < n := by
  have hr : Reach m xss s q := by
    unfold reachF at h
    exact @of_decide_eq_true _ (Classical.propDecidable _) h
  obtain ⟨ws, h1, rfl⟩ := hr
  exact foldl_lt hg ws s hs h1
theorem setL_short {f : Nat → Bool} {n : Nat} (hf : ∀ q, f q = true → q < n) : ∀ d, setL f (n + d) = setL f n
  | 0 => rfl
  | d + 1 => by
    have h : f (n + d) = false := by
      rcases hq : f (n + d) with _ | _
      · rfl
      · have := hf _ hq; omega
    rw [← Nat.add_assoc, setL_f h]
    exact setL_short hf d
theorem setL_full {f : Nat → Bool} {n : Nat} (hn : n ≤ 10) (hf : ∀ q, f q = true → q < n) : (setL f 10).length = n ↔ ∀ q, q < n → f q = true := by
  have e := setL_short hf (10 - n)
  rw [show n + (10 - n) = 10 by omega] at e
  rw [e, setL, List.length_map]
  have h := List.length_filter_eq_length_iff (p := f) (l := List.range n)
  rw [List.length_range] at h
  rw [h]
  simp
theorem joined_common {n m : Nat} {xss : List (List Int)} (hg : Good n m xss) : (setL (comK m xss n) 10).length = n ↔ Joined n m xss := by
  rw [setL_full hg.n10 (fun q hq => reachF_lt hg hg.n1 (by simp [comK] at hq; exact hq.1))]
  constructor
  · intro h s hs
    rw [setL_full hg.n10 (fun q hq => reachF_lt hg hs hq)]
    intro q hq
    have := h q hq
    simp [comK] at this
    exact this.2 s hs
  · intro h q hq
    have h2 : ∀ s, s < n → reachF m xss s q = true := fun s hs => (setL_full hg.n10 (fun q hq => reachF_lt hg hs hq)).1 (h s hs) q hq
    simp only [comK, Bool.and_eq_true, List.all_eq_true, List.mem_range]
    exact ⟨h2 0 hg.n1, h2⟩

set_option maxRecDepth 100000 in
set_option maxHeartbeats 1500000 in
theorem isConnected_any (A : Option Addr) (n m cap : Nat) (xss : List (List Int)) (w : World) (hg : Good n m xss) (hR : RowsAt w A m xss) :
    Calls Try.prog 122 #[.agg #[.int .i64 (n : Int), .slice A m cap]] w fun e w' => e = .returned (.bool (joinedB n m xss)) ∧ Below w.heap.size w w' := by
  have HG := Lib.hid hg
  have HJ := Lib.hid (joined_common hg)
  obtain ⟨W1, hW1⟩ : ∃ W1, W1 = w.alloc (.cells #[.int .i64 (n : Int), .slice A m cap] 33) := ⟨_, rfl⟩
  have B1 : Below w.heap.size w W1 := by rw [hW1]; go_grown
  have d0 : W1.cell? ⟨w.heap.size, 0, none⟩ = some (.int .i64 (n : Int)) := by rw [hW1]; go_cell
  have d1 : W1.cell? ⟨w.heap.size, 1, none⟩ = some (.slice A m cap) := by rw [hW1]; go_cell
  have r0 : ∀ W', Below W1.heap.size W1 W' → W'.cell? ⟨w.heap.size, 0, none⟩ = some (.int .i64 (n : Int)) := fun W' hb => (hb.cell (cell_lt d0)).trans d0
  have r1 : ∀ W', Below W1.heap.size W1 W' → W'.cell? ⟨w.heap.size, 1, none⟩ = some (.slice A m cap) := fun W' hb => (hb.cell (cell_lt d1)).trans d1
  have h1 : Below W1.heap.size W1 W1 := Below.refl _ _
  have HB1 := Lib.hid B1
  have HW1 := Lib.hid hW1
  obtain ⟨bb, hbb⟩ : ∃ bb, ((((setL (comK m xss n) 10).length : Nat) : Int) == (n : Int)) = bb := ⟨_, rfl⟩
  obtain ⟨L, hL⟩ : ∃ L, L = setL (comK m xss n) 10 := ⟨_, rfl⟩
  rw [← hL] at hbb
  have HL := Lib.hid hL
  have HBB := Lib.hid hbb
  clear hg B1 d0 d1 hL hW1
  go_enter Try.func122, Try.ntmps122
  go_wp2_with fail
  rw [← HW1.out]
  go_region_held3 (fun w' => Below W1.heap.size W1 w') (first | assumption | exact below_drewN' (by assumption) _)
    (first
      | (go_at_call 123; refine (reachedFromAll_any A n m cap xss _ HG.out ((hR.below HB1.out).below (by first | assumption | exact below_drewN' (by assumption) _))).mono ?_; rintro e w3 ⟨rfl, b3⟩; have h3 : Below W1.heap.size W1 w3 := below_then (by first | assumption | exact below_drewN' (by assumption) _) b3; clear b3)
      | (go_at_call 120; refine (marksSet_any (comK m xss n) _).mono ?_; rw [← HL.out]; rintro e w4 ⟨v, rfl, o4, b4⟩; obtain ⟨V4, e4, rfl⟩ := own_form o4; have h4 : Below W1.heap.size W1 w4 := below_then (by assumption) b4; clear o4 b4))
  go_wp2_with fail
  go_ret
  refine ⟨ret_bool ?_, below_then HB1.out h4⟩
  rcases bb with _ | _
  · exact (joinedB_f (fun hj => by have h := beq_eq_false_iff_ne.1 HBB.out; have := HJ.out.2 hj; rw [← HL.out] at this; omega)).symm
  · exact (joinedB_t (HJ.out.1 (by have h := beq_iff_eq.1 HBB.out; rw [← HL.out]; omega))).symm

/-- What IsConnected answers. -/
noncomputable def isConn (s : Int) (xss : List (List Int)) : Bool × Int := if okA s xss = true then (joinedB s.toNat xss.length xss, 0) else (false, 1)
theorem isConn_1 {s : Int} {xss : List (List Int)} (h : okA s xss = false) : isConn s xss = (false, 1) := by unfold isConn; rw [if_neg (by simp [h])]
theorem isConn_0 {n m : Nat} {xss : List (List Int)} (h : okA (n : Int) xss = true) (hm : xss.length = m) : isConn (n : Int) xss = (joinedB n m xss, 0) := by unfold isConn; rw [if_pos h, hm]; rfl
theorem two_mk' {r : Bool × Int} {b : Bool} {c : Int} (h : r = (b, c)) : Ending.returned (.tuple #[.bool b, .int .i64 c]) = .returned (.tuple #[.bool r.1, .int .i64 r.2]) := by rw [h]

set_option maxHeartbeats 1000000 in
theorem implIsConnected_any (s : Int) (A : Option Addr) (m cap : Nat) (xss : List (List Int)) (w : World) (h : RowsAt w A m xss) (hm : m ≤ 4611686018427387904)
    (hrows : ∀ (r : Nat) (xs : List Int), xss[r]? = some xs → xs.length ≤ 4611686018427387904) :
    Calls Try.prog 60 #[.agg #[.int .i64 s, .slice A m cap]] w fun e w' => e = .returned (.tuple #[.bool (isConn s xss).1, .int .i64 (isConn s xss).2]) ∧ Below w.heap.size w w' := by
  have HR := Lib.hid hrows
  have HM := Lib.hid h.1
  have b0 : Below w.heap.size w (w.alloc (.cells #[.int .i64 s, .slice A m cap] 33)) := (Below.refl _ _).alloc (Nat.le_refl _) _
  have H0 := Lib.hid (h.below b0)
  have B0 := Lib.hid b0
  clear hrows b0
  rcases hok : okA s xss with _ | _
  · have HF := Lib.hid (isConn_1 hok)
    go_enter Try.func60, Try.ntmps60
    go_wp2_with fail
    refine (implValid_any s A m cap xss _ H0.out hm HR.out).mono ?_
    rw [hok]
    rintro e w1 ⟨rfl, b1⟩
    have B1 := Lib.hid (below_then B0.out b1)
    clear b1
    go_wp2_with fail
    go_ret2
    exact ⟨two_mk' HF.out, B1.out⟩
  · obtain ⟨n, hsn, hg⟩ := good_of hok HM.out
    subst hsn
    have HG := Lib.hid hg
    have HF := Lib.hid (isConn_0 hok HM.out)
    clear hg
    go_enter Try.func60, Try.ntmps60
    go_wp2_with fail
    refine (implValid_any (n : Int) A m cap xss _ H0.out hm HR.out).mono ?_
    rw [hok]
    rintro e w1 ⟨rfl, b1⟩
    have d0 : w1.cell? ⟨w.heap.size, 0, none⟩ = some (.int .i64 (n : Int)) := (b1.cell (by simp)).trans (by go_cell)
    have d1 : w1.cell? ⟨w.heap.size, 1, none⟩ = some (.slice A m cap) := (b1.cell (by simp)).trans (by go_cell)
    have H1 := Lib.hid (H0.out.below b1)
    have B1 := Lib.hid (below_then B0.out b1)
    clear b1
    go_wp2_with fail
    refine (isConnected_any A n m cap xss _ HG.out H1.out).mono ?_
    rintro e w2 ⟨rfl, b2⟩
    have B2 := Lib.hid (below_then B1.out b2)
    clear b2
    go_wp2_with fail
    go_ret2
    exact ⟨two_mk' HF.out, B2.out⟩

end Go.Proofs.Ytkhhemlfahdbnab
