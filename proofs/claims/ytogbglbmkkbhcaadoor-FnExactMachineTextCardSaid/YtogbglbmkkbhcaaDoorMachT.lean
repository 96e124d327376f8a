/-
  The text of a machine: what it is; the contracts of the model's l06Text and MachineText.
-/
import Derived.Test.YtogbglbmkkbhcaaDoorTrnT
import Derived.Deep.DeepCutAuto
namespace Go.Proofs.YtogbglbmkkbhcaaDoor
open Go.RowKit Go.Deep Go.ChangeShapes Go.WideShapes

def kindM : List Int := [109, 97, 99, 104, 105, 110, 101]
/-- What a letter does at the first n states. -/
def trL (xss yss : List (List Int)) (x n : Nat) : List (Nat × Nat) := (List.range n).map fun q => (nx xss x q, nx yss x q)
def rowsM (xss yss : List (List Int)) (n m : Nat) : List (List (Nat × Nat)) := (List.range m).map fun x => trL xss yss x n
theorem trL_len (xss yss : List (List Int)) (x n : Nat) : (trL xss yss x n).length = n := by simp [trL]
theorem trL_succ (xss yss : List (List Int)) (x n : Nat) : trL xss yss x (n + 1) = trL xss yss x n ++ [(nx xss x n, nx yss x n)] := by simp [trL, List.range_succ]
theorem trL_take (xss yss : List (List Int)) (x n : Nat) {k : Nat} (hk : k ≤ n) : (trL xss yss x n).take k = trL xss yss x k := by
  unfold trL
  rw [← List.map_take, List.take_range, Nat.min_eq_left hk]
theorem rowsM_len (xss yss : List (List Int)) (n m : Nat) : (rowsM xss yss n m).length = m := by simp [rowsM]
theorem rowsM_succ (xss yss : List (List Int)) (n m : Nat) : rowsM xss yss n (m + 1) = rowsM xss yss n m ++ [trL xss yss m n] := by simp [rowsM, List.range_succ]
theorem rowsM_take (xss yss : List (List Int)) (n m : Nat) {k : Nat} (hk : k ≤ m) : (rowsM xss yss n m).take k = rowsM xss yss n k := by
  unfold rowsM
  rw [← List.map_take, List.take_range, Nat.min_eq_left hk]
theorem rowsM_at {xss yss : List (List Int)} {n m k : Nat} (hk : k < m) : (rowsM xss yss n m)[k]? = some (trL xss yss k n) := by simp [rowsM, hk]
/-- The text of a machine, as numbers of bytes. -/
def textM (n k m : Nat) (xss yss : List (List Int)) : List Int := kindM ++ (lineT ([(n : Int), (k : Int)] ++ [(m : Int)]) ++ [10]) ++ lettersP (rowsM xss yss n m)
/-- What MachineText answers. -/
def machineText (s q : Int) (xss yss : List (List Int)) : List Int := if okM s q xss yss = true then textM s.toNat q.toNat xss.length xss yss else []
theorem machineText_1 {s q : Int} {xss yss : List (List Int)} (h : okM s q xss yss = false) : machineText s q xss yss = [] := by simp [machineText, h]
theorem machineText_0 {n k m : Nat} {xss yss : List (List Int)} (h : okM (n : Int) (k : Int) xss yss = true) (hm : xss.length = m) : machineText (n : Int) (k : Int) xss yss = textM n k m xss yss := by simp [machineText, h, hm]
theorem GoodM.out_lt {n m k : Nat} {xss yss : List (List Int)} (h : GoodM n m k xss yss) {x q : Nat} (hx : x < m) (hq : q < n) : nx yss x q ≤ 10 := by
  have hl : x < yss.length := by rw [h.outs]; exact hx
  obtain ⟨h1, h2⟩ := h.rows x yss[x] (List.getElem?_eq_getElem hl)
  have hq' : q < (yss[x]).length := by rw [h1]; exact hq
  have h3 := h2 (yss[x])[q] (List.getElem_mem hq')
  have h4 := h.k3
  have e : nx yss x q = ((yss[x])[q]).toNat := by simp [nx, List.getD, List.getElem?_eq_getElem hl, List.getElem?_eq_getElem hq']
  omega
theorem GoodM.nx_le {n m k : Nat} {xss yss : List (List Int)} (h : GoodM n m k xss yss) {x q : Nat} (hx : x < m) (hq : q < n) : nx xss x q ≤ 10 := by
  have h1 := h.good.nextD hx hq
  have h2 := h.good.n10
  omega
theorem rowsM_small {n m k : Nat} {xss yss : List (List Int)} (h : GoodM n m k xss yss) : SmallPP (rowsM xss yss n m) := fun r xs hx => by
  have hr : r < m := by
    rcases Nat.lt_or_ge r m with hlt | hge
    · exact hlt
    · rw [List.getElem?_eq_none (by rw [rowsM_len]; exact hge)] at hx; cases hx
  rw [rowsM_at hr] at hx
  cases hx
  refine ⟨by rw [trL_len]; exact h.good.n10, fun p hp => ?_⟩
  simp only [trL, List.mem_map, List.mem_range] at hp
  obtain ⟨q, hq, rfl⟩ := hp
  exact ⟨h.nx_le hr hq, h.out_lt hr hq⟩
theorem headM_str (a b c : List Int) : ⟨#[109, 97, 99, 104, 105, 110, 101, 32]⟩ ++ strOfNums a ++ ⟨#[32]⟩ ++ strOfNums b ++ ⟨#[32]⟩ ++ strOfNums c ++ (⟨#[10]⟩ : ByteArray) = strOfNums (kindM ++ ((32 :: a ++ (32 :: b ++ (32 :: c ++ []))) ++ [10])) := by
  rw [show (⟨#[109, 97, 99, 104, 105, 110, 101, 32]⟩ : ByteArray) = strOfNums (kindM ++ [32]) from by apply ByteArray.ext; rfl, show (⟨#[32]⟩ : ByteArray) = strOfNums [32] from by apply ByteArray.ext; rfl, show (⟨#[10]⟩ : ByteArray) = strOfNums [10] from by apply ByteArray.ext; rfl]
  rw [← strNums_app, ← strNums_app, ← strNums_app, ← strNums_app, ← strNums_app, ← strNums_app]
  congr 1
  simp

set_option maxRecDepth 100000 in
set_option maxHeartbeats 8000000 in
theorem l06Text_any (p N K : Nat) (A : Option Addr) (n c : Nat) (xss : List (List Int)) (B : Option Addr) (d : Nat) (yss : List (List Int)) (w : World) (hb : MBox w p (N : Int) (K : Int) A n c B n d) (hg : GoodM N n K xss yss) (h : RowsAt w A n xss) (h' : RowsAt w B n yss) :
    Calls Tryd.prog 59 #[.pointer (some ⟨p, 0, none⟩)] w fun e w' => e = .returned (.string (strOfNums (textM N K n xss yss))) ∧ Below w.heap.size w w' := by
  have HB := Lib.hid (show Box w p [.int .i64 (N : Int), .int .i64 (K : Int), .slice A n c, .slice B n d] from hb)
  have HX := Lib.hid h
  have HY := Lib.hid h'
  have HG := Lib.hid hg
  have hN := hg.good.n10
  have hm3 := hg.good.m3
  have hk3 := hg.k3
  have hM : n ≤ 10 := by omega
  have hK : K ≤ 10 := by omega
  clear hg h h' hb
  go_enter Tryd.func59, Tryd.ntmps59
  obtain ⟨X, hX⟩ : ∃ X, X = strOfNums (decT N) := ⟨_, rfl⟩
  obtain ⟨Y, hY⟩ : ∃ Y, Y = strOfNums (decT K) := ⟨_, rfl⟩
  obtain ⟨Z, hZ⟩ : ∃ Z, Z = strOfNums (decT n) := ⟨_, rfl⟩
  obtain ⟨T0, hT0⟩ : ∃ T0 : ByteArray, T0 = strOfNums (kindM ++ (lineT ([(N : Int), (K : Int)] ++ [(n : Int)]) ++ [10])) := ⟨_, rfl⟩
  have hXs : X.size ≤ 2 := by rw [hX, strOfNums_size]; exact decT_len N
  have hYs : Y.size ≤ 2 := by rw [hY, strOfNums_size]; exact decT_len K
  have hZs : Z.size ≤ 2 := by rw [hZ, strOfNums_size]; exact decT_len n
  have hTT : ⟨#[109, 97, 99, 104, 105, 110, 101, 32]⟩ ++ X ++ ⟨#[32]⟩ ++ Y ++ ⟨#[32]⟩ ++ Z ++ (⟨#[10]⟩ : ByteArray) = T0 := by rw [hX, hY, hZ, hT0, headM_str]; rfl
  have HXD := Lib.hid hX
  have HYD := Lib.hid hY
  have HZD := Lib.hid hZ
  have HT0 := Lib.hid hT0
  have HTT := Lib.hid hTT
  have g1 : ¬ 9223372036854775807 < 8 + X.size := by omega
  have g2 : ¬ 9223372036854775807 < 8 + X.size + 1 := by omega
  have g3 : ¬ 9223372036854775807 < 8 + X.size + 1 + Y.size := by omega
  have g4 : ¬ 9223372036854775807 < 8 + X.size + 1 + Y.size + 1 := by omega
  have g5 : ¬ 9223372036854775807 < 8 + X.size + 1 + Y.size + 1 + Z.size := by omega
  have g6 : ¬ 9223372036854775807 < 8 + X.size + 1 + Y.size + 1 + Z.size + 1 := by omega
  have r0 := Box.rule HB.out (j := 0) rfl
  have r1 := Box.rule HB.out (j := 1) rfl
  have r2 := Box.rule HB.out (j := 2) rfl
  have c9 : Below w.heap.size w w := Below.refl _ _
  clear hX hY hZ hT0 hTT
  go_upto_region 1 with fail
  go_cut [3] (fun sp wx => sp = .string T0 ∧ Below w.heap.size w wx)
  case first =>
    go_region_held3 (fun w' => Below w.heap.size w w') (first | assumption | exact below_drewN' (by assumption) _)
      (first
        | (go_at_call_of 35 (Value.int IntKind.i64 (N : Int)); refine (decimal_any N _ hN).mono ?_; rintro e wa ⟨rfl, ba⟩; rw [← HXD.out]; have ca : Below w.heap.size w wa := below_then (by first | assumption | exact below_drewN' (by assumption) _) ba; clear ba)
        | (go_at_call_of 35 (Value.int IntKind.i64 (K : Int)); refine (decimal_any K _ hK).mono ?_; rintro e wb ⟨rfl, bb⟩; rw [← HYD.out]; have cb : Below w.heap.size w wb := below_then (by first | assumption | exact below_drewN' (by assumption) _) bb; clear bb)
        | (go_at_call_of 35 (Value.int IntKind.i64 (n : Int)); refine (decimal_any n _ hM).mono ?_; rintro e wd ⟨rfl, bd⟩; rw [← HZD.out]; have cd : Below w.heap.size w wd := below_then (by first | assumption | exact below_drewN' (by assumption) _) bd; clear bd)
        | fail)
    all_goals (go_wp2_with fail; go_meet; exact ⟨by rw [← HTT.out], by first | assumption | exact below_drewN' (by assumption) _⟩)
  case rest =>
    obtain ⟨rfl, hbw⟩ := hcut
    obtain ⟨w3, h3⟩ : ∃ w3, w3 = wc := ⟨_, rfl⟩
    rw [← h3] at hbw ⊢
    have W3 := Lib.hid hbw
    clear h3 hbw r0 r1 r2 c9 g1 g2 g3 g4 g5 g6
    have hT0s : T0.size ≤ 20 := by
      rw [HT0.out, strOfNums_size]
      have := lineT_len ([(N : Int), (K : Int)] ++ [(n : Int)])
      simp only [List.length_append, List.length_cons, List.length_nil, kindM] at this ⊢
      omega
    go_wp2_with fail
    go_loopw [3, 4] (fun sv i wr => ∃ (k : Nat) (T : ByteArray), k ≤ n ∧ i = .int .i64 k ∧ sv = .string T ∧ T = T0 ++ strOfNums (lettersP (rowsM xss yss N k)) ∧ Below w.heap.size w wr) (fun _ i _ => n - (intOf i).toNat)
    case atStart => exact ⟨0, T0, Nat.zero_le _, rfl, rfl, by apply ByteArray.ext; simp [rowsM, lettersP, strOfNums], W3.out⟩
    case round =>
      obtain ⟨k, T, hk, rfl, rfl, hT, hbel⟩ := hrel
      have HWR := Lib.hid hbel
      have HROOM := Lib.hid (lettersP_room (rowsM_len xss yss N n) hM (rowsM_small HG.out) k)
      have hTs : T.size ≤ 1000 := by
        have := HROOM.out
        rw [rowsM_take _ _ _ _ hk] at this
        rw [hT, ByteArray.size_append, strOfNums_size]
        omega
      have HT := Lib.hid hT
      have c1 : wr.cell? ⟨p, 2, none⟩ = some (.slice A n c) := Box.below HB.out hbel 2 _ rfl
      clear hbel hT
      by_cases hlt : k < n
      · obtain ⟨xs, b, off, A1, a1, hx, hA, hc2, hnum1⟩ := HX.out.at_ hlt
        have hxl : xs.length = N := (HG.out.good.rows k xs hx).1
        rw [hxl] at hc2
        subst hA
        have HC2 := Lib.hid hc2
        have hk0 : (0 : Int) ≤ (k : Int) := by omega
        have hkl : (k : Int) < (n : Int) := by omega
        have g1 : ¬ 9223372036854775807 < T.size + 6 := by omega
        clear hx hnum1 hc2 hxl
        go_wp2_with fail
        clear g1
        go_loopw [3, 5] (fun sv j wi => ∃ (q : Nat) (U : ByteArray), q ≤ N ∧ j = .int .i64 q ∧ sv = .string U ∧ U = T ++ strOfNums ([108, 101, 116, 116, 101, 114] ++ blankP (trL xss yss k q)) ∧ Below w.heap.size w wi) (fun _ j _ => N - (intOf j).toNat)
        case atStart => exact ⟨0, _, Nat.zero_le _, rfl, rfl, by apply ByteArray.ext; simp [strOfNums, blankP, trL], HWR.out⟩
        case round =>
          obtain ⟨q, U, hq, rfl, rfl, hU, hbi⟩ := hrel
          have hUs : U.size ≤ 1200 := by
            rw [hU, ByteArray.size_append, strOfNums_size, List.length_append]
            have h2 := blankP_len (trL xss yss k q)
            rw [trL_len] at h2
            simp only [List.length_cons, List.length_nil]
            omega
          have HU := Lib.hid hU
          have HWI := Lib.hid hbi
          have d1 : wr.cell? ⟨p, 2, none⟩ = some (.slice (some ⟨b, off, none⟩) n c) := Box.below HB.out hbi 2 _ rfl
          have d2 : wr.cell? ⟨b, off + k, none⟩ = some (.slice A1 N a1) := (hbi.cell (cell_lt HC2.out)).trans HC2.out
          clear hU
          by_cases hqn : q < N
          · obtain ⟨b', off', c1', b3, off3, b2, off2, c2', b4, off4, hA, e1, e2, hB, e3, e4⟩ := HG.out.cells (HX.out.below hbi) (HY.out.below hbi) hlt hqn
            simp only [Option.some.injEq, Addr.mk.injEq, and_true] at hA
            obtain ⟨rfl, rfl⟩ := hA
            subst hB
            have d3 := Box.below HB.out hbi 3 _ rfl
            obtain ⟨v, hv⟩ : ∃ v, v = nx xss k q := ⟨_, rfl⟩
            obtain ⟨o, ho⟩ : ∃ o, o = nx yss k q := ⟨_, rfl⟩
            have hv10 : v ≤ 10 := by rw [hv]; exact HG.out.nx_le hlt hqn
            have ho10 : o ≤ 10 := by rw [ho]; exact HG.out.out_lt hlt hqn
            rw [← hv] at e2
            rw [← ho] at e4
            have rr1 : ∀ W', Below wr.heap.size wr W' → W'.cell? ⟨p, 2, none⟩ = some (.slice (some ⟨b, off, none⟩) n c) := fun W' hb => (hb.cell (cell_lt d1)).trans d1
            have rr2 : ∀ W', Below wr.heap.size wr W' → W'.cell? ⟨p, 3, none⟩ = some (.slice (some ⟨b2, off2, none⟩) n d) := fun W' hb => (hb.cell (cell_lt d3)).trans d3
            have rr3 : ∀ W', Below wr.heap.size wr W' → W'.cell? ⟨b, off + k, none⟩ = some (.slice (some ⟨b3, off3, none⟩) N c1') := fun W' hb => (hb.cell (cell_lt e1)).trans e1
            have rr4 : ∀ W', Below wr.heap.size wr W' → W'.cell? ⟨b3, off3 + q, none⟩ = some (.int .i64 (v : Int)) := fun W' hb => (hb.cell (cell_lt e2)).trans e2
            have rr5 : ∀ W', Below wr.heap.size wr W' → W'.cell? ⟨b2, off2 + k, none⟩ = some (.slice (some ⟨b4, off4, none⟩) N c2') := fun W' hb => (hb.cell (cell_lt e3)).trans e3
            have rr6 : ∀ W', Below wr.heap.size wr W' → W'.cell? ⟨b4, off4 + q, none⟩ = some (.int .i64 (o : Int)) := fun W' hb => (hb.cell (cell_lt e4)).trans e4
            have hq0 : (0 : Int) ≤ (q : Int) := by omega
            have hqn' : (q : Int) < (N : Int) := by omega
            obtain ⟨X, hX⟩ : ∃ X, X = strOfNums (decT v) := ⟨_, rfl⟩
            obtain ⟨Y, hY⟩ : ∃ Y, Y = strOfNums (decT o) := ⟨_, rfl⟩
            have hXs : X.size ≤ 2 := by rw [hX, strOfNums_size]; exact decT_len v
            have hYs : Y.size ≤ 2 := by rw [hY, strOfNums_size]; exact decT_len o
            obtain ⟨U2, hU2⟩ : ∃ U2 : ByteArray, U2 = U ++ (⟨#[32]⟩ ++ X ++ ⟨#[47]⟩ ++ Y) := ⟨_, rfl⟩
            have HU3 := Lib.hid (show U2 = U ++ strOfNums (32 :: transT (v, o)) by
              rw [hU2, hX, hY, show (32 :: transT (v, o)) = [32] ++ transT (v, o) from rfl, strNums_app [32], ← transT_str, show (⟨#[32]⟩ : ByteArray) = strOfNums [32] from by apply ByteArray.ext; rfl]
              simp only [ByteArray.append_assoc])
            have HX1 := Lib.hid hX
            have HY1 := Lib.hid hY
            have HU2 := Lib.hid hU2
            have HV := Lib.hid hv
            have HO := Lib.hid ho
            have g1 : ¬ 9223372036854775807 < 1 + X.size := by omega
            have g2 : ¬ 9223372036854775807 < 1 + X.size + 1 := by omega
            have g3 : ¬ 9223372036854775807 < 1 + X.size + 1 + Y.size := by omega
            have g4 : ¬ 9223372036854775807 < U.size + (1 + X.size + 1 + Y.size) := by omega
            have c9 : Below wr.heap.size wr wr := Below.refl _ _
            clear hbi e1 e2 e3 e4 d3 hX hY hU2 hv ho hqn
            go_upto_region 9 with fail
            clear d1 d2
            go_region_held3 (fun w' => Below wr.heap.size wr w') (first | assumption | exact below_drewN' (by assumption) _)
              (first
                | (go_at_call_of 35 (Value.int IntKind.i64 (v : Int)); refine (decimal_any v _ hv10).mono ?_; rintro e wa ⟨rfl, ba⟩; rw [← HX1.out]; have ca : Below wr.heap.size wr wa := below_then (by first | assumption | exact below_drewN' (by assumption) _) ba; clear ba)
                | (go_at_call_of 35 (Value.int IntKind.i64 (o : Int)); refine (decimal_any o _ ho10).mono ?_; rintro e wb ⟨rfl, bb⟩; rw [← HY1.out]; have cb : Below wr.heap.size wr wb := below_then (by first | assumption | exact below_drewN' (by assumption) _) bb; clear bb)
                | fail)
            all_goals
              clear rr1 rr2 rr3 rr4 rr5 rr6 g1 g2 g3 g4
              go_wp2_with fail
              go_roundw
              case rel =>
                refine ⟨q + 1, _, by omega, by go_num, rfl, (HU2.out.symm.trans HU3.out).trans ?_, below_then HWI.out (by first | assumption | exact below_drewN' (by assumption) _)⟩
                rw [HU.out, ByteArray.append_assoc, ← strNums_app, trL_succ, blankP_snoc, ← HV.out, ← HO.out, List.append_assoc]
              case measure => simp [intOf]; omega
          · have hqe : q = N := by omega
            subst hqe
            have g1 : ¬ 9223372036854775807 < U.size + 1 := by omega
            clear hbi
            go_wp2_with fail
            go_roundw
            case rel =>
              refine ⟨k + 1, _, by omega, by go_num, rfl, ?_, HWI.out⟩
              rw [rowsM_succ, lettersP_snoc, letterP, ← List.append_assoc [108, 101, 116, 116, 101, 114], strNums_app (lettersP _), strNums_app _ [10], HU.out, HT.out, ByteArray.append_assoc, ByteArray.append_assoc]
              rfl
            case measure => simp [intOf]; omega
      · have hkl : k = n := by omega
        subst hkl
        go_wp2_with fail
        go_ret
        exact ⟨ret_strT (by rw [HT.out, textM, strNums_app _ (lettersP (rowsM xss yss N k)), ← HT0.out]), HWR.out⟩

set_option maxRecDepth 100000 in
set_option maxHeartbeats 1000000 in
theorem specMachineText_any (s q : Int) (A : Option Addr) (n c : Nat) (xss : List (List Int)) (B : Option Addr) (m d : Nat) (yss : List (List Int)) (w : World) (h : RowsAt w A n xss) (hn : n ≤ 4611686018427387904)
    (hrows : ∀ (r : Nat) (xs : List Int), xss[r]? = some xs → xs.length ≤ 4611686018427387904) (g : RowsAt w B m yss) (hm : m ≤ 4611686018427387904) (houts : ∀ (r : Nat) (xs : List Int), yss[r]? = some xs → xs.length ≤ 4611686018427387904) :
    Calls Tryd.prog 29 #[.agg #[.int .i64 s, .int .i64 q, .slice A n c, .slice B m d]] w fun e w' => e = .returned (.string (strOfNums (machineText s q xss yss))) ∧ Below w.heap.size w w' := by
  have HR := Lib.hid hrows
  have HO := Lib.hid houts
  have HL := Lib.hid h.1
  have HLY := Lib.hid g.1
  obtain ⟨w1, hw1⟩ : ∃ w1, w1 = w.alloc (.cells #[.int .i64 s, .int .i64 q, .slice A n c, .slice B m d] 59) := ⟨_, rfl⟩
  have b1 : Below w.heap.size w w1 := by rw [hw1]; exact (Below.refl _ _).alloc (Nat.le_refl _) _
  have HB := Lib.hid (show MBox w1 w.heap.size s q A n c B m d by rw [hw1]; exact Box.new _ _ _)
  have HX := Lib.hid (h.below b1)
  have HY := Lib.hid (g.below b1)
  have W1 := Lib.hid b1
  have HW := Lib.hid hw1
  clear h g b1 hw1 hrows houts
  go_enter Tryd.func29, Tryd.ntmps29
  go_wp2_with fail
  rw [← HW.out]
  refine (l06Ok_any w.heap.size s q A n c xss B m d yss _ HB.out HX.out hn HR.out HY.out hm HO.out).mono ?_
  rintro e w2 ⟨rfl, b2⟩
  have HB2 := Lib.hid (show MBox w2 w.heap.size s q A n c B m d from Box.below HB.out b2)
  have HX2 := Lib.hid (HX.out.below b2)
  have HY2 := Lib.hid (HY.out.below b2)
  have W2 := Lib.hid (below_then W1.out b2)
  clear b2
  rcases hok : okM s q xss yss with _ | _
  · have HF := Lib.hid (machineText_1 hok)
    go_wp2_with fail
    go_ret
    exact ⟨ret_strT (by rw [HF.out]; rfl), W2.out⟩
  · obtain ⟨N, K, hs, hk, hg⟩ := goodM_of hok HL.out
    subst hs hk
    have HF := Lib.hid (machineText_0 hok HL.out)
    obtain rfl : m = n := by rw [← HLY.out, hg.outs]
    have HG := Lib.hid hg
    clear hg hok
    go_wp2_with fail
    refine (l06Text_any w.heap.size N K A m c xss B d yss w2 HB2.out HG.out HX2.out HY2.out).mono ?_
    rintro e w3 ⟨rfl, b3⟩
    obtain ⟨R, hR⟩ : ∃ R, R = strOfNums (textM N K m xss yss) := ⟨_, rfl⟩
    rw [← hR]
    have HRR := Lib.hid hR
    have W3 := Lib.hid (below_then W2.out b3)
    clear hR b3
    go_wp2_with fail
    go_ret
    exact ⟨ret_strT (by rw [HF.out, HRR.out]), W3.out⟩

end Go.Proofs.YtogbglbmkkbhcaaDoor
