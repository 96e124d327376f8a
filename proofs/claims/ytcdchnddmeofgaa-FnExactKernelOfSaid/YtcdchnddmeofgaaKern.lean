/-
  The kernel of a word: the contracts of both KernelOf.
-/
import Derived.Test.YtcdchnddmeofgaaTidy
import Derived.Test.YtcdchnddmeofgaaClone
import Derived.WalkSpells
namespace Go.Proofs.Ytcdchnddmeofgaa
open Go.RowKit Go.Deep Go.ChangeShapes Go.WideShapes

/-- What KernelOf answers. -/
def kernelOf (s : Int) (xss : List (List Int)) (ws : List Int) : List Int × Int :=
  if okA s xss = true then (if isWordB (xss.length : Int) ws = true then (tidL (actTo xss ws s.toNat), 0) else ([], 2)) else ([], 1)
theorem kernelOf_1 {s : Int} {xss : List (List Int)} {ws : List Int} (h : okA s xss = false) : kernelOf s xss ws = ([], 1) := by unfold kernelOf; rw [if_neg (by simp [h])]
theorem kernelOf_2 {s : Int} {xss : List (List Int)} {ws : List Int} (h : okA s xss = true) (h' : isWordB (xss.length : Int) ws = false) : kernelOf s xss ws = ([], 2) := by unfold kernelOf; rw [if_pos h, if_neg (by simp [h'])]
theorem kernelOf_0 {s : Int} {xss : List (List Int)} {ws : List Int} (h : okA s xss = true) (h' : isWordB (xss.length : Int) ws = true) : kernelOf s xss ws = (tidL (actTo xss ws s.toNat), 0) := by unfold kernelOf; rw [if_pos h, if_pos h']
theorem kernelOf_len (s : Int) (xss : List (List Int)) (ws : List Int) : (kernelOf s xss ws).1.length ≤ 10 := by
  unfold kernelOf
  split
  · rename_i h
    split
    · rw [tidL_len, actTo_len]
      obtain ⟨n, rfl, hg⟩ := good_of h rfl
      have := hg.n10
      simpa using this
    · simp
  · simp

set_option maxHeartbeats 1000000 in
theorem specKernelOf_any (s : Int) (A : Option Addr) (m cap : Nat) (xss : List (List Int)) (A' : Option Addr) (l cap' : Nat) (ws : List Int) (w : World) (h : RowsAt w A m xss) (hm : m ≤ 4611686018427387904)
    (hrows : ∀ (r : Nat) (xs : List Int), xss[r]? = some xs → xs.length ≤ 4611686018427387904) (h' : NumsAt w A' l ws) (hl : l ≤ 4611686018427387904) :
    Calls Try.prog 20 #[.agg #[.int .i64 s, .slice A m cap], .slice A' l cap'] w (ListsTo (kernelOf s xss ws) w) := by
  have HR := Lib.hid hrows
  have HM := Lib.hid h.1
  have b0 : Below w.heap.size w (w.alloc (.cells #[.int .i64 s, .slice A m cap] 29)) := (Below.refl _ _).alloc (Nat.le_refl _) _
  have H0 := Lib.hid (h.below b0)
  have H0' := Lib.hid (h'.below b0)
  have B0 := Lib.hid b0
  clear hrows b0
  rcases hok : okA s xss with _ | _
  · have HF := Lib.hid (kernelOf_1 (ws := ws) hok)
    go_enter Try.func20, Try.ntmps20
    go_wp2_with fail
    refine (l01Ok_any w.heap.size s A m cap xss _ (by go_cell) (by go_cell) H0.out hm HR.out).mono ?_
    rintro e w' ⟨rfl, d, rfl⟩
    go_wp2_with fail
    go_ret2
    exact listsTo_mk HF.out (own_none' (by simp) (by simp)) ((below_drewN' B0.out _).alloc (by simp) _)
  · obtain ⟨n, hsn, hg⟩ := good_of hok HM.out
    subst hsn
    have HG := Lib.hid hg
    have hm1 : 1 ≤ m := hg.m1
    have hm3 : m ≤ 3 := hg.m3
    clear hg
    rcases hwd : isWordB (m : Int) ws with _ | _
    · have HF := Lib.hid (kernelOf_2 hok (by rw [HM.out]; exact hwd))
      go_enter Try.func20, Try.ntmps20
      go_wp2_with fail
      refine (l01Ok_any w.heap.size (n : Int) A m cap xss _ (by go_cell) (by go_cell) H0.out hm HR.out).mono ?_
      rintro e w' ⟨rfl, d, rfl⟩
      go_wp2_with fail
      refine (l01Word_any w.heap.size A A' m cap l cap' ws _ (by go_cell) (H0'.out.drewN _) hm1 hm3 hl).mono ?_
      rintro e w' ⟨rfl, d', rfl⟩
      go_wp2_with fail
      go_ret2
      exact listsTo_mk HF.out (own_none' (by simp) (by simp)) ((below_drewN' B0.out _).alloc (by simp) _)
    · have HF := Lib.hid (kernelOf_0 hok (by rw [HM.out]; exact hwd))
      have HWL := Lib.hid (word_letters hwd)
      go_enter Try.func20, Try.ntmps20
      go_wp2_with fail
      refine (l01Ok_any w.heap.size (n : Int) A m cap xss _ (by go_cell) (by go_cell) H0.out hm HR.out).mono ?_
      rintro e w' ⟨rfl, d, rfl⟩
      go_wp2_with fail
      refine (l01Word_any w.heap.size A A' m cap l cap' ws _ (by go_cell) (H0'.out.drewN _) hm1 hm3 hl).mono ?_
      rintro e w' ⟨rfl, d', rfl⟩
      go_wp2_with fail
      refine (l01Action_any w.heap.size A A' n m cap l cap' xss ws _ HG.out (by go_cell) (by go_cell) (H0.out.drewN _) (H0'.out.drewN _) HWL.out hl).mono ?_
      rintro e w2 ⟨v, rfl, o2, b2⟩
      obtain ⟨A2, c2, rfl⟩ := own_form o2
      have HO := Lib.hid (NumsAt.own o2 (actTo_len _ _ _) rfl)
      have hsz := b2.size
      have HB := Lib.hid (below_then (below_drewN' B0.out _) b2)
      have hn10 : n ≤ 10 := HG.out.n10
      clear o2 b2 hsz
      go_wp2_with fail
      refine (l01Tidied_any A2 n c2 (actTo xss ws n) _ HO.out (by omega)).mono ?_
      rintro e w3 ⟨v3, rfl, o3, b3⟩
      have HO3 := Lib.hid o3
      have HB3 := Lib.hid b3
      clear o3 b3
      go_wp2_with fail
      go_ret2
      refine listsTo_mk HF.out ?_ (below_then HB.out HB3.out)
      rw [tidL_len, actTo_len]
      exact own_base HO3.out HB.out.size


set_option maxRecDepth 100000 in
set_option maxHeartbeats 2000000 in
theorem implKernelOf_any (s : Int) (A : Option Addr) (m cap : Nat) (xss : List (List Int)) (A' : Option Addr) (l cap' : Nat) (ws : List Int) (w : World) (h : RowsAt w A m xss) (hm : m ≤ 4611686018427387904)
    (hrows : ∀ (r : Nat) (xs : List Int), xss[r]? = some xs → xs.length ≤ 4611686018427387904) (h' : NumsAt w A' l ws) (hl : l ≤ 4611686018427387904) :
    Calls Try.prog 22 #[.agg #[.int .i64 s, .slice A m cap], .slice A' l cap'] w (ListsTo (kernelOf s xss ws) w) := by
  have HR := Lib.hid hrows
  have HM := Lib.hid h.1
  have b0 : Below w.heap.size w (w.alloc (.cells #[.int .i64 s, .slice A m cap] 29)) := (Below.refl _ _).alloc (Nat.le_refl _) _
  have B0 := Lib.hid b0
  have H0 := Lib.hid (h.below b0)
  have H0' := Lib.hid (h'.below b0)
  clear hrows b0
  rcases hok : okA s xss with _ | _
  · have HF := Lib.hid (kernelOf_1 (ws := ws) hok)
    go_enter Try.func22, Try.ntmps22
    go_wp2_with fail
    refine (implValid_any s A m cap xss _ H0.out hm HR.out).mono ?_
    rintro e w1 ⟨rfl, b1⟩
    have B1 := Lib.hid (below_then B0.out b1)
    clear b1
    go_wp2_with fail
    go_ret2
    exact listsTo_mk HF.out (World.ownsRow_nil _ _ _ _) B1.out
  · obtain ⟨n, hsn, hg⟩ := good_of hok HM.out
    subst hsn
    have HG := Lib.hid hg
    have hn10 : n ≤ 10 := hg.n10
    clear hg
    rcases hwd : isWordB (m : Int) ws with _ | _
    · have HF := Lib.hid (kernelOf_2 hok (by rw [HM.out]; exact hwd))
      go_enter Try.func22, Try.ntmps22
      go_wp2_with fail
      refine (implValid_any (n : Int) A m cap xss _ H0.out hm HR.out).mono ?_
      rintro e w1 ⟨rfl, b1⟩
      have d0 : w1.cell? ⟨w.heap.size, 0, none⟩ = some (.int .i64 (n : Int)) := (b1.cell (by simp)).trans (by go_cell)
      have d1 : w1.cell? ⟨w.heap.size, 1, none⟩ = some (.slice A m cap) := (b1.cell (by simp)).trans (by go_cell)
      have H1' := Lib.hid (H0'.out.below b1)
      have B1 := Lib.hid (below_then B0.out b1)
      clear b1
      go_wp2_with fail
      refine (isLetterList_any (n : Int) A A' m cap l cap' ws _ H1'.out hm hl).mono ?_
      rintro e w2 ⟨rfl, b2⟩
      have B2 := Lib.hid (below_then B1.out b2)
      clear b2
      go_wp2_with fail
      go_ret2
      exact listsTo_mk HF.out (World.ownsRow_nil _ _ _ _) B2.out
    · have HF := Lib.hid (kernelOf_0 hok (by rw [HM.out]; exact hwd))
      have HWL := Lib.hid (word_letters hwd)
      go_enter Try.func22, Try.ntmps22
      go_wp2_with fail
      refine (implValid_any (n : Int) A m cap xss _ H0.out hm HR.out).mono ?_
      rintro e w1 ⟨rfl, b1⟩
      have d0 : w1.cell? ⟨w.heap.size, 0, none⟩ = some (.int .i64 (n : Int)) := (b1.cell (by simp)).trans (by go_cell)
      have d1 : w1.cell? ⟨w.heap.size, 1, none⟩ = some (.slice A m cap) := (b1.cell (by simp)).trans (by go_cell)
      have H1 := Lib.hid (H0.out.below b1)
      have H1' := Lib.hid (H0'.out.below b1)
      have B1 := Lib.hid (below_then B0.out b1)
      clear b1
      go_wp2_with fail
      refine (isLetterList_any (n : Int) A A' m cap l cap' ws _ H1'.out hm hl).mono ?_
      rintro e w2 ⟨rfl, b2⟩
      have H2 := Lib.hid (H1.out.below b2)
      have H2' := Lib.hid (H1'.out.below b2)
      have e0 : w2.cell? ⟨w.heap.size, 0, none⟩ = some (.int .i64 (n : Int)) := (b2.cell (cell_lt d0)).trans d0
      have e1 : w2.cell? ⟨w.heap.size, 1, none⟩ = some (.slice A m cap) := (b2.cell (cell_lt d1)).trans d1
      have B2 := Lib.hid (below_then B1.out b2)
      have rA : ∀ W', Below w2.heap.size w2 W' → W'.cell? ⟨w.heap.size, 0, none⟩ = some (.int .i64 (n : Int)) := fun W' hb => (hb.cell (cell_lt e0)).trans e0
      have rB : ∀ W', Below w2.heap.size w2 W' → W'.cell? ⟨w.heap.size, 1, none⟩ = some (.slice A m cap) := fun W' hb => (hb.cell (cell_lt e1)).trans e1
      have h2 : Below w2.heap.size w2 w2 := Below.refl _ _
      clear b2 d0 d1 e0 e1
      go_wp2_with fail
      go_region_held3 (fun w' => Below w2.heap.size w2 w') (first | assumption | exact below_drewN' (by assumption) _)
        (first
          | (go_at_call 49; refine (wordAction_any A A' n m cap l cap' xss ws _ HG.out (H2.out.below (by first | assumption | exact below_drewN' (by assumption) _)) (H2'.out.below (by first | assumption | exact below_drewN' (by assumption) _)) HWL.out hl).mono ?_; rintro e w3 ⟨rfl, b3⟩; have h3 : Below w2.heap.size w2 w3 := below_then (by first | assumption | exact below_drewN' (by assumption) _) b3; clear b3)
          | (go_at_call 50; refine (list_any n (actK n xss ws) _ (by have := (actK_is HG.out ws HWL.out ws.length (Nat.le_refl _)).1; rwa [List.take_length] at this) hn10).mono ?_; rw [actTo_eq HG.out HWL.out]; rintro e w4 ⟨v4, rfl, o4, b4⟩; have h4 : Below w2.heap.size w2 w4 := below_then (by assumption) b4; obtain ⟨A4, c4, rfl⟩ := own_form o4; have N4 := Lib.hid (NumsAt.own o4 (actTo_len _ _ _) rfl); clear o4 b4)
          | (go_at_call 48; refine (divisionOf_any A4 n c4 (actTo xss ws n) _ N4.out (by omega)).mono ?_; rintro e w5 ⟨v5, rfl, o5, b5⟩; have h5 : Below w2.heap.size w2 w5 := below_then h4 b5; have O5 := Lib.hid (own_base o5 (Below.size h4)); clear o5 b5)
          | fail)
      go_wp2_with fail
      go_ret2
      refine listsTo_mk HF.out ?_ (below_then B2.out h5)
      rw [tidL_len, actTo_len]
      exact own_base O5.out B2.out.size

end Go.Proofs.Ytcdchnddmeofgaa
