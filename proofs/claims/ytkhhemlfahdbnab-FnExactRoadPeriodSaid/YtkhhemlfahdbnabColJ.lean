/-
  Whether roads are joined, and their period: both IsJoined and both RoadPeriod.
-/
import Derived.Test.YtkhhemlfahdbnabColK
import Derived.Test.YtkhhemlfahdbnabConn
import Derived.Test.YtkhhemlfahdbnabPeriod2
namespace Go.Proofs.Ytkhhemlfahdbnab
open Go.RowKit Go.Deep Go.ChangeShapes Go.WideShapes

theorem arrF_mem : ∀ (N : Nat) (xs : List Int), xs.length = N → ∀ l ∈ arrF N xs, ∀ y ∈ l, y ∈ xs
  | 0, _, _, l, hl, y, hy => by simp [arrF] at hl; rw [hl] at hy; cases hy
  | N + 1, xs, hx, l, hl, y, hy => by
    have : ∀ k, k ≤ N + 1 → ∀ l ∈ arrTo (arrF N) xs k, ∀ y ∈ l, y ∈ xs := by
      intro k
      induction k with
      | zero => intro _ l hl; simp [arrTo] at hl
      | succ k ih =>
        intro hk l hl y hy
        rw [arrTo, List.mem_append] at hl
        rcases hl with hl | hl
        · exact ih (by omega) l hl y hy
        · have hk' : k < xs.length := by omega
          rcases hs : skipB xs k with _ | _
          · rw [arrOne_go hs (List.getElem?_eq_getElem hk'), List.mem_map] at hl
            obtain ⟨t, ht, rfl⟩ := hl
            rw [List.mem_cons] at hy
            rcases hy with rfl | hy
            · exact List.getElem_mem hk'
            · have := arrF_mem N (xs.take k ++ xs.drop (k + 1)) (by simp; omega) t ht y hy
              rw [List.mem_append] at this
              rcases this with h | h
              · exact List.mem_of_mem_take h
              · exact List.mem_of_mem_drop h
          · rw [arrOne_skip hs] at hl; cases hl
    exact this (N + 1) (Nat.le_refl _) l hl y hy

/-- The colouring with the number N is a valid automaton. -/
theorem good_col {n m : Nat} {xss : List (List Int)} (h : GoodR n m xss) (N : Nat) : Good n m (rowsF n (colX (choF m xss) n N) m) := by
  refine ⟨rowsF_len _ _ _, h.n1, by have := h.n7; omega, h.m1, h.m3, fun r xs hx => ?_⟩
  unfold rowsF at hx
  rw [List.getElem?_map] at hx
  rcases Nat.lt_or_ge r m with hr | hr
  · rw [List.getElem?_range hr] at hx
    obtain rfl := Option.some.inj hx
    refine ⟨by simp, fun y hy => ?_⟩
    rw [List.mem_map] at hy
    obtain ⟨q, hq, rfl⟩ := hy
    rw [List.mem_range] at hq
    obtain ⟨row, hrow, hrl, hrb, _⟩ := h.row q hq
    obtain ⟨e1, e2, e3⟩ := (goodX_of h).at_ (N := N) hq
    have hmem := List.mem_of_getElem? e2
    rw [choF_getD hrow] at hmem
    have hz : colX (choF m xss) n N r q ∈ colF (choF m xss) n N q := by
      unfold colX
      rw [List.getD_eq_getElem?_getD, List.getElem?_eq_getElem (by rw [e3]; exact hr)]
      exact List.getElem_mem _
    exact hrb _ (arrF_mem m row hrl _ hmem _ hz)
  · rw [List.getElem?_eq_none (by simpa using hr)] at hx; cases hx
theorem okA_good {n m : Nat} {xss : List (List Int)} (h : Good n m xss) : okA (n : Int) xss = true := by
  have h1 := h.n1
  have h2 := h.n10
  have h3 := h.m1
  have h4 := h.m3
  have hl := h.letters
  refine okA_t (inB_t (by omega)) (inB_t (by omega)) ?_
  rw [List.all_eq_true]
  intro xs hx
  obtain ⟨r, hr, rfl⟩ := List.mem_iff_getElem.1 hx
  obtain ⟨e1, e2⟩ := h.rows r _ (List.getElem?_eq_getElem hr)
  refine mapB_t ?_ (by omega)
  rw [List.all_eq_true]
  intro y hy
  exact belowB_t (e2 y hy)

noncomputable def isJoined (s : Int) (xss : List (List Int)) : Bool × Int :=
  if okR s xss = true then (joinedB xss.length (xss.getD 0 []).length (rowsF xss.length (colX (choF (xss.getD 0 []).length xss) xss.length 0) (xss.getD 0 []).length), 0) else (false, 1)
theorem isJoined_1 {s : Int} {xss : List (List Int)} (h : okR s xss = false) : isJoined s xss = (false, 1) := by unfold isJoined; rw [if_neg (by simp [h])]
theorem isJoined_0 {s : Int} {n m : Nat} {xss : List (List Int)} (h : okR s xss = true) (hn : xss.length = n) (hm : (xss.getD 0 []).length = m) : isJoined s xss = (joinedB n m (rowsF n (colX (choF m xss) n 0) m), 0) := by unfold isJoined; rw [if_pos h, hn, hm]
noncomputable def roadPeriod (s : Int) (xss : List (List Int)) : Int × Int :=
  if okR s xss = true then periodOf ((xss.length : Nat) : Int) (rowsF xss.length (colX (choF (xss.getD 0 []).length xss) xss.length 0) (xss.getD 0 []).length) else (0, 1)
theorem roadPeriod_1 {s : Int} {xss : List (List Int)} (h : okR s xss = false) : roadPeriod s xss = (0, 1) := by unfold roadPeriod; rw [if_neg (by simp [h])]
theorem roadPeriod_0 {s : Int} {n m : Nat} {xss : List (List Int)} (h : okR s xss = true) (hn : xss.length = n) (hm : (xss.getD 0 []).length = m) : roadPeriod s xss = periodOf (n : Int) (rowsF n (colX (choF m xss) n 0) m) := by unfold roadPeriod; rw [if_pos h, hn, hm]
theorem isConn_is {n m : Nat} {xss : List (List Int)} (h : Good n m xss) : isConn (n : Int) xss = (joinedB n m xss, 0) := by unfold isConn; rw [if_pos (okA_good h), h.letters, Int.toNat_natCast]
theorem good_wide {n m : Nat} {xss : List (List Int)} (h : Good n m xss) : ∀ (r : Nat) (xs : List Int), xss[r]? = some xs → xs.length ≤ 4611686018427387904 := by
  intro r xs hx
  have := (h.rows r xs hx).1
  have := h.n10
  omega
theorem two_mkd {r : Bool × Int} {b : Bool} {c : Int} (h : r = (b, c)) : Ending.returned (.tuple #[.bool b, .int .i64 c]) = .returned (.tuple #[.bool r.1, .int .i64 r.2]) := by rw [h]

set_option maxRecDepth 100000 in
set_option maxHeartbeats 2000000 in
theorem specIsJoined_any (s : Int) (A : Option Addr) (n cap : Nat) (xss : List (List Int)) (w : World) (h : RowsC w A n xss) (hn : n ≤ 4611686018427387904)
    (hrows : ∀ (r : Nat) (xs : List Int), xss[r]? = some xs → xs.length ≤ 4611686018427387904) :
    Calls Try.prog 28 #[.agg #[.int .i64 s, .slice A n cap]] w fun e w' => e = .returned (.tuple #[.bool (isJoined s xss).1, .int .i64 (isJoined s xss).2]) ∧ Below w.heap.size w w' := by
  have HR := Lib.hid hrows
  have HL := Lib.hid h.1
  clear hrows
  obtain ⟨w1, hw1⟩ : ∃ w1, w1 = w.alloc (.cells #[.int .i64 s, .slice A n cap] 28) := ⟨_, rfl⟩
  have b0 : Below w.heap.size w w1 := by rw [hw1]; exact (Below.refl _ _).alloc (Nat.le_refl _) _
  have x0 : w1.cell? ⟨w.heap.size, 0, none⟩ = some (.int .i64 s) := by rw [hw1]; go_cell
  have x1 : w1.cell? ⟨w.heap.size, 1, none⟩ = some (.slice A n cap) := by rw [hw1]; go_cell
  have HW := Lib.hid hw1
  have B0 := Lib.hid b0
  have X0 := Lib.hid x0
  have X1 := Lib.hid x1
  have H1 := Lib.hid (h.below b0)
  clear hw1 b0 x0 x1 h
  go_enter Try.func28, Try.ntmps28
  go_wp2_with fail
  rw [← HW.out]
  refine (l05Ok_any w.heap.size s A n cap xss w1 X0.out X1.out H1.out.rows hn HR.out).mono ?_
  rintro e w2 ⟨rfl, k, hk⟩
  have b2 : Below w1.heap.size w1 w2 := by rw [hk]; exact below_drewN' (Below.refl _ _) _
  clear hk
  have B2 := Lib.hid (below_then B0.out b2)
  have x0 := (b2.cell (cell_lt X0.out)).trans X0.out
  have x1 := (b2.cell (cell_lt X1.out)).trans X1.out
  have X2 := Lib.hid x1
  have H2 := Lib.hid (H1.out.below b2)
  clear b2
  rcases hok : okR s xss with _ | _
  · have HF := Lib.hid (isJoined_1 hok)
    go_wp2_with fail
    go_ret2
    exact ⟨two_mkd HF.out, B2.out⟩
  · obtain ⟨m, hs, hm, hg⟩ := goodR_of hok HL.out
    subst hs
    have HF := Lib.hid (isJoined_0 hok HL.out hm)
    have HG := Lib.hid hg
    have HGX := Lib.hid (goodX_of hg)
    have HGC := Lib.hid (good_col hg 0)
    have hm3 := hg.m3
    obtain ⟨X, hX⟩ : ∃ X, X = choF m xss := ⟨_, rfl⟩
    rw [← hX] at HF HGX HGC
    have HX := Lib.hid hX
    have HXL := Lib.hid (show X.length = n by rw [hX, choF_length, HL.out])
    obtain ⟨CA, hCA⟩ : ∃ CA, CA = rowsF n (colX X n 0) m := ⟨_, rfl⟩
    rw [← hCA] at HF HGC
    have HCA := Lib.hid hCA
    have HCL := Lib.hid HGC.out.letters
    clear hg hm hX hCA
    go_wp2_with fail
    refine (l05Choices_any w.heap.size n m cap A xss w2 HG.out X2.out H2.out).mono ?_
    rintro e w3 ⟨u, vs, rfl, t3, b3⟩
    rw [← HX.out] at t3
    obtain ⟨A3, c3, rfl⟩ := own_form t3.out
    rw [HXL.out] at t3 ⊢
    have T3 := Lib.hid t3
    have B3 := Lib.hid (below_then B2.out b3)
    clear t3 b3 x0 x1
    go_wp2_with fail
    refine (l05At_any _ n m c3 0 A3 vs X w3 HGX.out T3.out (by omega)).mono ?_
    rw [← HCA.out]
    rintro e w4 ⟨v, rfl, t4, b4⟩
    obtain ⟨V4, c4, rfl⟩ := t4.form
    rw [HCL.out] at t4 ⊢
    have R4 := Lib.hid (t4.rows HCL.out)
    have B4 := Lib.hid (below_then B3.out b4)
    clear t4 b4
    go_wp2_with fail
    obtain ⟨w5, hw5⟩ : ∃ w5, w5 = w4.alloc (.cells #[.int .i64 (n : Int), .slice V4 m c4] 33) := ⟨_, rfl⟩
    rw [← hw5]
    have b5 : Below w4.heap.size w4 w5 := by rw [hw5]; exact (Below.refl _ _).alloc (Nat.le_refl _) _
    have y0 : w5.cell? ⟨w4.heap.size, 0, none⟩ = some (.int .i64 (n : Int)) := by rw [hw5]; go_cell
    have y1 : w5.cell? ⟨w4.heap.size, 1, none⟩ = some (.slice V4 m c4) := by rw [hw5]; go_cell
    have Y0 := Lib.hid y0
    have Y1 := Lib.hid y1
    have R5 := Lib.hid (R4.out.below b5)
    have B5 := Lib.hid (below_then B4.out b5)
    clear hw5 b5 y0 y1
    refine (l01Joined_any w4.heap.size V4 n m c4 CA w5 HGC.out Y0.out Y1.out R5.out).mono ?_
    rintro e w6 ⟨rfl, b6⟩
    have B6 := Lib.hid (below_then B5.out b6)
    clear b6
    go_wp2_with fail
    go_ret2
    exact ⟨two_mkd HF.out, B6.out⟩

set_option maxRecDepth 100000 in
set_option maxHeartbeats 2000000 in
theorem implIsJoined_any (s : Int) (A : Option Addr) (n cap : Nat) (xss : List (List Int)) (w : World) (h : RowsC w A n xss) (hn : n ≤ 4611686018427387904)
    (hrows : ∀ (r : Nat) (xs : List Int), xss[r]? = some xs → xs.length ≤ 4611686018427387904) :
    Calls Try.prog 29 #[.agg #[.int .i64 s, .slice A n cap]] w fun e w' => e = .returned (.tuple #[.bool (isJoined s xss).1, .int .i64 (isJoined s xss).2]) ∧ Below w.heap.size w w' := by
  have HR := Lib.hid hrows
  have HL := Lib.hid h.1
  clear hrows
  obtain ⟨w1, hw1⟩ : ∃ w1, w1 = w.alloc (.cells #[.int .i64 s, .slice A n cap] 28) := ⟨_, rfl⟩
  have b0 : Below w.heap.size w w1 := by rw [hw1]; exact (Below.refl _ _).alloc (Nat.le_refl _) _
  have x0 : w1.cell? ⟨w.heap.size, 0, none⟩ = some (.int .i64 s) := by rw [hw1]; go_cell
  have x1 : w1.cell? ⟨w.heap.size, 1, none⟩ = some (.slice A n cap) := by rw [hw1]; go_cell
  have HW := Lib.hid hw1
  have B0 := Lib.hid b0
  have X0 := Lib.hid x0
  have X1 := Lib.hid x1
  have H1 := Lib.hid (h.below b0)
  clear hw1 b0 x0 x1 h
  go_enter Try.func29, Try.ntmps29
  go_wp2_with fail
  rw [← HW.out]
  refine (implValidRoads_any s A n cap xss w1 H1.out.rows hn HR.out).mono ?_
  rintro e w2 ⟨rfl, b2⟩
  have B2 := Lib.hid (below_then B0.out b2)
  have x0 := (b2.cell (cell_lt X0.out)).trans X0.out
  have x1 := (b2.cell (cell_lt X1.out)).trans X1.out
  have X2 := Lib.hid x1
  have H2 := Lib.hid (H1.out.below b2)
  clear b2
  rcases hok : okR s xss with _ | _
  · have HF := Lib.hid (isJoined_1 hok)
    go_wp2_with fail
    go_ret2
    exact ⟨two_mkd HF.out, B2.out⟩
  · obtain ⟨m, hs, hm, hg⟩ := goodR_of hok HL.out
    subst hs
    have HF := Lib.hid (isJoined_0 hok HL.out hm)
    have HG := Lib.hid hg
    have HGX := Lib.hid (goodX_of hg)
    have HGC := Lib.hid (good_col hg 0)
    have hm3 := hg.m3
    obtain ⟨X, hX⟩ : ∃ X, X = choF m xss := ⟨_, rfl⟩
    rw [← hX] at HF HGX HGC
    have HX := Lib.hid hX
    have HXL := Lib.hid (show X.length = n by rw [hX, choF_length, HL.out])
    obtain ⟨CA, hCA⟩ : ∃ CA, CA = rowsF n (colX X n 0) m := ⟨_, rfl⟩
    rw [← hCA] at HF HGC
    have HCA := Lib.hid hCA
    have HCL := Lib.hid HGC.out.letters
    clear hg hm hX hCA
    go_wp2_with fail
    refine (townsOf_any n m cap A xss w2 HG.out H2.out).mono ?_
    rintro e w3 ⟨G, rfl, t3, _, b3⟩
    rw [← HX.out] at t3
    have T3 := Lib.hid t3
    have B3 := Lib.hid (below_then B2.out b3)
    clear t3 b3 x0 x1
    go_wp2_with fail
    refine (colouringAt_any G n m 0 X w3 HGX.out T3.out (by omega)).mono ?_
    rw [← HCA.out]
    rintro e w4 ⟨v, rfl, t4, b4⟩
    obtain ⟨V4, c4, rfl⟩ := t4.form
    rw [HCL.out] at t4 ⊢
    have R4 := Lib.hid (t4.rows HCL.out)
    have B4 := Lib.hid (below_then B3.out b4)
    clear t4 b4
    go_wp2_with fail
    refine (implIsConnected_any (n : Int) V4 m c4 CA w4 R4.out (by omega) (good_wide HGC.out)).mono ?_
    rw [isConn_is HGC.out]
    rintro e w5 ⟨rfl, b5⟩
    have B5 := Lib.hid (below_then B4.out b5)
    clear b5
    go_wp2_with fail
    go_ret2
    exact ⟨two_mkd HF.out, B5.out⟩

set_option maxRecDepth 100000 in
set_option maxHeartbeats 2000000 in
theorem specRoadPeriod_any (s : Int) (A : Option Addr) (n cap : Nat) (xss : List (List Int)) (w : World) (h : RowsC w A n xss) (hn : n ≤ 4611686018427387904)
    (hrows : ∀ (r : Nat) (xs : List Int), xss[r]? = some xs → xs.length ≤ 4611686018427387904) :
    Calls Try.prog 30 #[.agg #[.int .i64 s, .slice A n cap]] w fun e w' => e = .returned (.tuple #[.int .i64 (roadPeriod s xss).1, .int .i64 (roadPeriod s xss).2]) ∧ Below w.heap.size w w' := by
  have HR := Lib.hid hrows
  have HL := Lib.hid h.1
  clear hrows
  obtain ⟨w1, hw1⟩ : ∃ w1, w1 = w.alloc (.cells #[.int .i64 s, .slice A n cap] 28) := ⟨_, rfl⟩
  have b0 : Below w.heap.size w w1 := by rw [hw1]; exact (Below.refl _ _).alloc (Nat.le_refl _) _
  have x0 : w1.cell? ⟨w.heap.size, 0, none⟩ = some (.int .i64 s) := by rw [hw1]; go_cell
  have x1 : w1.cell? ⟨w.heap.size, 1, none⟩ = some (.slice A n cap) := by rw [hw1]; go_cell
  have HW := Lib.hid hw1
  have B0 := Lib.hid b0
  have X0 := Lib.hid x0
  have X1 := Lib.hid x1
  have H1 := Lib.hid (h.below b0)
  clear hw1 b0 x0 x1 h
  go_enter Try.func30, Try.ntmps30
  go_wp2_with fail
  rw [← HW.out]
  refine (l05Ok_any w.heap.size s A n cap xss w1 X0.out X1.out H1.out.rows hn HR.out).mono ?_
  rintro e w2 ⟨rfl, k, hk⟩
  have b2 : Below w1.heap.size w1 w2 := by rw [hk]; exact below_drewN' (Below.refl _ _) _
  clear hk
  have B2 := Lib.hid (below_then B0.out b2)
  have x0 := (b2.cell (cell_lt X0.out)).trans X0.out
  have x1 := (b2.cell (cell_lt X1.out)).trans X1.out
  have X2 := Lib.hid x1
  have H2 := Lib.hid (H1.out.below b2)
  clear b2
  rcases hok : okR s xss with _ | _
  · have HF := Lib.hid (roadPeriod_1 hok)
    go_wp2_with fail
    go_ret2
    exact ⟨two_ints' HF.out, B2.out⟩
  · obtain ⟨m, hs, hm, hg⟩ := goodR_of hok HL.out
    subst hs
    have HF := Lib.hid (roadPeriod_0 hok HL.out hm)
    have HG := Lib.hid hg
    have HGX := Lib.hid (goodX_of hg)
    have HGC := Lib.hid (good_col hg 0)
    have hm3 := hg.m3
    obtain ⟨X, hX⟩ : ∃ X, X = choF m xss := ⟨_, rfl⟩
    rw [← hX] at HF HGX HGC
    have HX := Lib.hid hX
    have HXL := Lib.hid (show X.length = n by rw [hX, choF_length, HL.out])
    obtain ⟨CA, hCA⟩ : ∃ CA, CA = rowsF n (colX X n 0) m := ⟨_, rfl⟩
    rw [← hCA] at HF HGC
    have HCA := Lib.hid hCA
    have HCL := Lib.hid HGC.out.letters
    clear hg hm hX hCA
    go_wp2_with fail
    refine (l05Choices_any w.heap.size n m cap A xss w2 HG.out X2.out H2.out).mono ?_
    rintro e w3 ⟨u, vs, rfl, t3, b3⟩
    rw [← HX.out] at t3
    obtain ⟨A3, c3, rfl⟩ := own_form t3.out
    rw [HXL.out] at t3 ⊢
    have T3 := Lib.hid t3
    have B3 := Lib.hid (below_then B2.out b3)
    clear t3 b3 x0 x1
    go_wp2_with fail
    refine (l05At_any _ n m c3 0 A3 vs X w3 HGX.out T3.out (by omega)).mono ?_
    rw [← HCA.out]
    rintro e w4 ⟨v, rfl, t4, b4⟩
    obtain ⟨V4, c4, rfl⟩ := t4.form
    rw [HCL.out] at t4 ⊢
    have R4 := Lib.hid (t4.rows HCL.out)
    have B4 := Lib.hid (below_then B3.out b4)
    clear t4 b4
    go_wp2_with fail
    obtain ⟨w5, hw5⟩ : ∃ w5, w5 = w4.alloc (.cells #[.int .i64 (n : Int), .slice V4 m c4] 33) := ⟨_, rfl⟩
    rw [← hw5]
    have b5 : Below w4.heap.size w4 w5 := by rw [hw5]; exact (Below.refl _ _).alloc (Nat.le_refl _) _
    have y0 : w5.cell? ⟨w4.heap.size, 0, none⟩ = some (.int .i64 (n : Int)) := by rw [hw5]; go_cell
    have y1 : w5.cell? ⟨w4.heap.size, 1, none⟩ = some (.slice V4 m c4) := by rw [hw5]; go_cell
    have Y0 := Lib.hid y0
    have Y1 := Lib.hid y1
    have R5 := Lib.hid (R4.out.below b5)
    have B5 := Lib.hid (below_then B4.out b5)
    clear hw5 b5 y0 y1
    refine (l01Joined_any w4.heap.size V4 n m c4 CA w5 HGC.out Y0.out Y1.out R5.out).mono ?_
    rcases hj : joinedB n m CA with _ | _
    · have HP := Lib.hid (periodOf_4 (okA_good HGC.out) HCL.out hj)
      rintro e w6 ⟨rfl, b6⟩
      have B6 := Lib.hid (below_then B5.out b6)
      clear b6
      go_wp2_with fail
      go_ret2
      exact ⟨two_ints' (by rw [HF.out, HP.out]), B6.out⟩
    · have HP := Lib.hid (periodOf_0 (okA_good HGC.out) HCL.out hj)
      have HJ := Lib.hid (joinedB_is hj)
      rintro e w6 ⟨rfl, b6⟩
      have Y0 := Lib.hid ((b6.cell (cell_lt Y0.out)).trans Y0.out)
      have Y1 := Lib.hid ((b6.cell (cell_lt Y1.out)).trans Y1.out)
      have R6 := Lib.hid (R5.out.below b6)
      have B6 := Lib.hid (below_then B5.out b6)
      clear b6
      go_wp2_with fail
      refine (l01Period_any w4.heap.size V4 n m c4 CA _ HGC.out HJ.out Y0.out Y1.out R6.out).mono ?_
      rintro e w7 ⟨⟨d', hfar, rfl⟩, b7⟩
      have HQ := Lib.hid (per_is (n := n) hfar)
      have B7 := Lib.hid (below_then B6.out b7)
      clear b7 hfar
      go_wp2_with fail
      go_ret2
      exact ⟨two_ints' (by rw [HF.out, HP.out, HQ.out]), B7.out⟩

set_option maxRecDepth 100000 in
set_option maxHeartbeats 2000000 in
theorem implRoadPeriod_any (s : Int) (A : Option Addr) (n cap : Nat) (xss : List (List Int)) (w : World) (h : RowsC w A n xss) (hn : n ≤ 4611686018427387904)
    (hrows : ∀ (r : Nat) (xs : List Int), xss[r]? = some xs → xs.length ≤ 4611686018427387904) :
    Calls Try.prog 31 #[.agg #[.int .i64 s, .slice A n cap]] w fun e w' => e = .returned (.tuple #[.int .i64 (roadPeriod s xss).1, .int .i64 (roadPeriod s xss).2]) ∧ Below w.heap.size w w' := by
  have HR := Lib.hid hrows
  have HL := Lib.hid h.1
  clear hrows
  obtain ⟨w1, hw1⟩ : ∃ w1, w1 = w.alloc (.cells #[.int .i64 s, .slice A n cap] 28) := ⟨_, rfl⟩
  have b0 : Below w.heap.size w w1 := by rw [hw1]; exact (Below.refl _ _).alloc (Nat.le_refl _) _
  have x0 : w1.cell? ⟨w.heap.size, 0, none⟩ = some (.int .i64 s) := by rw [hw1]; go_cell
  have x1 : w1.cell? ⟨w.heap.size, 1, none⟩ = some (.slice A n cap) := by rw [hw1]; go_cell
  have HW := Lib.hid hw1
  have B0 := Lib.hid b0
  have X0 := Lib.hid x0
  have X1 := Lib.hid x1
  have H1 := Lib.hid (h.below b0)
  clear hw1 b0 x0 x1 h
  go_enter Try.func31, Try.ntmps31
  go_wp2_with fail
  rw [← HW.out]
  refine (implValidRoads_any s A n cap xss w1 H1.out.rows hn HR.out).mono ?_
  rintro e w2 ⟨rfl, b2⟩
  have B2 := Lib.hid (below_then B0.out b2)
  have x0 := (b2.cell (cell_lt X0.out)).trans X0.out
  have x1 := (b2.cell (cell_lt X1.out)).trans X1.out
  have X2 := Lib.hid x1
  have H2 := Lib.hid (H1.out.below b2)
  clear b2
  rcases hok : okR s xss with _ | _
  · have HF := Lib.hid (roadPeriod_1 hok)
    go_wp2_with fail
    go_ret2
    exact ⟨two_ints' HF.out, B2.out⟩
  · obtain ⟨m, hs, hm, hg⟩ := goodR_of hok HL.out
    subst hs
    have HF := Lib.hid (roadPeriod_0 hok HL.out hm)
    have HG := Lib.hid hg
    have HGX := Lib.hid (goodX_of hg)
    have HGC := Lib.hid (good_col hg 0)
    have hm3 := hg.m3
    obtain ⟨X, hX⟩ : ∃ X, X = choF m xss := ⟨_, rfl⟩
    rw [← hX] at HF HGX HGC
    have HX := Lib.hid hX
    have HXL := Lib.hid (show X.length = n by rw [hX, choF_length, HL.out])
    obtain ⟨CA, hCA⟩ : ∃ CA, CA = rowsF n (colX X n 0) m := ⟨_, rfl⟩
    rw [← hCA] at HF HGC
    have HCA := Lib.hid hCA
    have HCL := Lib.hid HGC.out.letters
    clear hg hm hX hCA
    go_wp2_with fail
    refine (townsOf_any n m cap A xss w2 HG.out H2.out).mono ?_
    rintro e w3 ⟨G, rfl, t3, _, b3⟩
    rw [← HX.out] at t3
    have T3 := Lib.hid t3
    have B3 := Lib.hid (below_then B2.out b3)
    clear t3 b3 x0 x1
    go_wp2_with fail
    refine (colouringAt_any G n m 0 X w3 HGX.out T3.out (by omega)).mono ?_
    rw [← HCA.out]
    rintro e w4 ⟨v, rfl, t4, b4⟩
    obtain ⟨V4, c4, rfl⟩ := t4.form
    rw [HCL.out] at t4 ⊢
    have R4 := Lib.hid (t4.rows HCL.out)
    have B4 := Lib.hid (below_then B3.out b4)
    clear t4 b4
    go_wp2_with fail
    refine (implPeriodOf_any (n : Int) V4 m c4 CA w4 R4.out (by omega) (good_wide HGC.out)).mono ?_
    rintro e w5 ⟨rfl, b5⟩
    have B5 := Lib.hid (below_then B4.out b5)
    clear b5
    go_wp2_with fail
    go_ret2
    exact ⟨by rw [HF.out]; rfl, B5.out⟩

end Go.Proofs.Ytkhhemlfahdbnab
