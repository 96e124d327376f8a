/-
  Sets of states as bits.
-/
import Derived.Test.YtcglncepmieaaaaHelp
import Derived.Laws.Shifts
import Derived.Laws.ShiftsVar
import Derived.Laws.ShiftsVarLaws
import Derived.Laws.BitsAllLaws
import Derived.Lib.BitFns
import Derived.Lib.Tables
namespace Go.Proofs.Ytcglncepmieaaaa
open Go.RowKit Go.Deep Go.ChangeShapes Go.WideShapes

theorem fold_tab : (⟨(([0, 1, 1, 2, 1, 2, 2, 3, 1, 2, 2, 3, 2, 3, 3, 4, 1, 2, 2, 3, 2, 3, 3, 4, 2, 3, 3, 4, 3, 4, 4, 5, 1, 2, 2, 3, 2, 3, 3, 4, 2, 3, 3, 4, 3, 4, 4, 5, 2, 3, 3, 4, 3, 4, 4, 5, 3, 4, 4, 5, 4, 5, 5, 6].append [1, 2, 2, 3, 2, 3, 3, 4, 2, 3, 3, 4, 3, 4, 4, 5, 2, 3, 3, 4, 3, 4, 4, 5, 3, 4, 4, 5, 4, 5, 5, 6, 2, 3, 3, 4, 3, 4, 4, 5, 3, 4, 4, 5, 4, 5, 5, 6, 3, 4, 4, 5, 4, 5, 5, 6, 4, 5, 5, 6, 5, 6, 6, 7]).append ([1, 2, 2, 3, 2, 3, 3, 4, 2, 3, 3, 4, 3, 4, 4, 5, 2, 3, 3, 4, 3, 4, 4, 5, 3, 4, 4, 5, 4, 5, 5, 6, 2, 3, 3, 4, 3, 4, 4, 5, 3, 4, 4, 5, 4, 5, 5, 6, 3, 4, 4, 5, 4, 5, 5, 6, 4, 5, 5, 6, 5, 6, 6, 7].append [2, 3, 3, 4, 3, 4, 4, 5, 3, 4, 4, 5, 4, 5, 5, 6, 3, 4, 4, 5, 4, 5, 5, 6, 4, 5, 5, 6, 5, 6, 6, 7, 3, 4, 4, 5, 4, 5, 5, 6, 4, 5, 5, 6, 5, 6, 6, 7, 4, 5, 5, 6, 5, 6, 6, 7, 5, 6, 6, 7, 6, 7, 7, 8])).toArray⟩ : ByteArray) = Lib.pop8tab := by decide +kernel
def onesOk (b : Nat) : Bool := decide (Lib.pop8 ((b / 256 : Nat) : Int) + Lib.pop8 ((b % 256 : Nat) : Int) = (Lib.onesCount b : Int)) && decide (0 ≤ Lib.pop8 ((b / 256 : Nat) : Int)) && decide (0 ≤ Lib.pop8 ((b % 256 : Nat) : Int)) && decide (Lib.onesCount b ≤ 10)
theorem ones_all : (List.range 1024).all onesOk = true := by decide +kernel
theorem ones_split {b : Nat} (hb : b < 1024) : Lib.pop8 ((b / 256 : Nat) : Int) + Lib.pop8 ((b % 256 : Nat) : Int) = (Lib.onesCount b : Int) ∧ 0 ≤ Lib.pop8 ((b / 256 : Nat) : Int) ∧ 0 ≤ Lib.pop8 ((b % 256 : Nat) : Int) ∧ Lib.onesCount b ≤ 10 := by
  have h := List.all_eq_true.1 ones_all b (List.mem_range.2 hb)
  simp only [onesOk, Bool.and_eq_true, decide_eq_true_eq] at h
  exact ⟨h.1.1.1, h.1.1.2, h.1.2, h.2⟩

/-- bits.OnesCount16 with its table behind a name. -/
def onesF : Func := { name := "math/bits.OnesCount16", origin := "", params := #[73], resultTypes := #[3], nfree := 0, ntmps := 11, results := #[ResultVar.tmp 2], body := some ((Code.region 0 #[{ dst := some 2, op := Op.assign (Operand.const (Value.int IntKind.i64 0)), type := 3, pos := "bits.go:130", after := #[], guard := none }] false).seq ((Code.region 1 #[{ dst := some 3, op := Op.move (Operand.tmp 0), type := 73, pos := "bits.go:131", after := #[], guard := none }, { dst := some 4, op := Op.binOp BinOp.shr 73 (Operand.tmp 3) (Operand.const (Value.int IntKind.u64 8)) 121, type := 73, pos := "bits.go:131", after := #[{ on := 0, ground := Ground.data }], guard := none }, { dst := some 5, op := Op.index 9 (Operand.const (Value.string Lib.pop8tab)) (Operand.tmp 4), type := 5, pos := "bits.go:131", after := #[{ on := 1, ground := Ground.data }], guard := none }, { dst := some 6, op := Op.move (Operand.tmp 0), type := 73, pos := "bits.go:131", after := #[], guard := none }, { dst := some 7, op := Op.binOp BinOp.and 73 (Operand.tmp 6) (Operand.const (Value.int IntKind.u16 255)) 73, type := 73, pos := "bits.go:131", after := #[{ on := 3, ground := Ground.data }], guard := none }, { dst := some 8, op := Op.index 9 (Operand.const (Value.string Lib.pop8tab)) (Operand.tmp 7), type := 5, pos := "bits.go:131", after := #[{ on := 4, ground := Ground.data }], guard := none }, { dst := some 9, op := Op.binOp BinOp.add 5 (Operand.tmp 5) (Operand.tmp 8) 5, type := 5, pos := "bits.go:131", after := #[{ on := 2, ground := Ground.data }, { on := 5, ground := Ground.data }], guard := none }, { dst := some 10, op := Op.convert 5 3 (Operand.tmp 9), type := 3, pos := "bits.go:131", after := #[{ on := 6, ground := Ground.data }], guard := none }, { dst := some 2, op := Op.assign (Operand.tmp 10), type := 3, pos := "bits.go:131", after := #[{ on := 7, ground := Ground.data }, { on := 0, ground := Ground.phase }, { on := 1, ground := Ground.phase }, { on := 2, ground := Ground.phase }, { on := 3, ground := Ground.phase }, { on := 4, ground := Ground.phase }, { on := 5, ground := Ground.phase }, { on := 6, ground := Ground.phase }, { on := 7, ground := Ground.phase }], guard := none }] true).seq Code.ret)), norace := false, file := "math/bits/bits.go", endLine := 132, tmpNames := #["x", "x", "", "", "", "", "", "", "", "", ""] }
set_option maxRecDepth 100000 in
theorem ones_eq : Try.f149 = onesF := by unfold Try.f149 onesF; rw [fold_tab]
theorem ones_func : Try.prog.funcs[149]? = some onesF := (Try.func149).trans (congrArg some ones_eq)
theorem ones_ntmps : onesF.ntmps = 11 := rfl
set_option maxRecDepth 100000 in
set_option maxHeartbeats 2000000 in
theorem onesCount_any (b : Nat) (w : World) (hb : b < 1024) :
    Calls Try.prog 149 #[.int .u16 (b : Int)] w fun e w' => e = .returned (.int .i64 ((Lib.onesCount b : Nat) : Int)) ∧ ∃ k, w' = w.drewN k := by
  have i1 : (0 : Int) ≤ (b : Int) := by omega
  have i2 : (b : Int) < 1024 := by omega
  have hand : bits .and .u16 (b : Int) 255 = (b : Int) % 256 := by
    have := u16_and_nat b 255 (by omega) (by decide)
    rw [show ((255 : Nat) : Int) = 255 from rfl] at this
    rw [this, Nat.and_two_pow_sub_one_eq_mod b 8]
    rfl
  have hu9 := Try.underlying9
  have k1 : (0 : Int) ≤ (b : Int) / 256 := by omega
  have k2 : (b : Int) / 256 ≤ 255 := by omega
  have k3 : (0 : Int) ≤ (b : Int) % 256 := by omega
  have k4 : (b : Int) % 256 ≤ 255 := by omega
  go_enter ones_func, ones_ntmps
  go_wp2_with fail
  go_quiet (fail)
  go_wp2_with fail
  go_ret
  obtain ⟨h1, h2, h3, h4⟩ := ones_split hb
  refine ⟨ret_int ?_, _, rfl⟩
  have q1 : ((b / 256 : Nat) : Int) = (b : Int) / 256 := by omega
  have q2 : ((b % 256 : Nat) : Int) = (b : Int) % 256 := by omega
  rw [q1, q2] at h1
  rw [q1] at h2
  rw [q2] at h3
  omega

/-- The states of a set of bits. -/
def bitF (b : Nat) : Nat → Bool := fun q => b.testBit q
def countOk (b : Nat) : Bool := decide (Lib.onesCount b = (((List.range 10).filter (fun q => b.testBit q)).map fun q => ((q : Nat) : Int)).length)
theorem count_all : (List.range 1024).all countOk = true := by decide +kernel
theorem count_ok {b : Nat} (hb : b < 1024) : Lib.onesCount b = (((List.range 10).filter (bitF b)).map fun q => ((q : Nat) : Int)).length := by
  have h := List.all_eq_true.1 count_all b (List.mem_range.2 hb)
  simp only [countOk, decide_eq_true_eq] at h
  exact h

theorem size_any (b : Nat) (w : World) (hb : b < 1024) :
    Calls Try.prog 136 #[.int .u16 (b : Int)] w fun e w' => e = .returned (.int .i64 ((Lib.onesCount b : Nat) : Int)) ∧ ∃ k, w' = w.drewN k := by
  obtain ⟨c, hc⟩ : ∃ c, c = Lib.onesCount b := ⟨_, rfl⟩
  have HC := Lib.hid hc
  have hc10 : c ≤ 10 := by rw [hc]; exact (ones_split hb).2.2.2
  rw [← hc]
  clear hc
  go_enter Try.func136, Try.ntmps136
  go_wp2_with fail
  refine (onesCount_any b _ hb).mono ?_
  rw [← HC.out]
  rintro e w' ⟨rfl, k, rfl⟩
  go_wp2_with fail
  go_ret
  exact ⟨rfl, k, rfl⟩

theorem isMerged_any (b : Nat) (w : World) (hb : b < 1024) :
    Calls Try.prog 103 #[.int .u16 (b : Int)] w fun e w' => e = .returned (.bool (decide (Lib.onesCount b ≤ 1))) ∧ ∃ k, w' = w.drewN k := by
  obtain ⟨c, hc⟩ : ∃ c, c = Lib.onesCount b := ⟨_, rfl⟩
  have HC := Lib.hid hc
  have hd : decide ((c : Int) ≤ 1) = decide (c ≤ 1) := by
    rw [Bool.eq_iff_iff, decide_eq_true_eq, decide_eq_true_eq]; omega
  rw [← hc]
  obtain ⟨v, hv⟩ : ∃ v, v = decide (c ≤ 1) := ⟨_, rfl⟩
  rw [← hv] at hd ⊢
  clear hc hv
  go_enter Try.func103, Try.ntmps103
  go_wp2_with fail
  refine (size_any b _ hb).mono ?_
  rw [← HC.out]
  rintro e w' ⟨rfl, k, rfl⟩
  go_wp2_with fail
  go_ret
  exact ⟨rfl, k, rfl⟩

theorem pow_le {n : Nat} (hn : n ≤ 10) : 2 ^ n ≤ 1024 := Nat.le_trans (Nat.pow_le_pow_right (by decide) hn) (by decide)
theorem wrap_small {x : Nat} (h : x < 65536) : IntKind.u16.wrap (x : Int) = (x : Int) := by rw [IntKind.wrap_u16]; omega

set_option maxRecDepth 100000 in
theorem statesBelow_any (n : Nat) (w : World) (hn : n ≤ 10) :
    Calls Try.prog 133 #[.int .i64 (n : Int)] w fun e w' => e = .returned (.int .u16 ((2 ^ n - 1 : Nat) : Int)) ∧ w = w' := by
  have j0 : (0 : Int) ≤ (n : Int) := by omega
  have j1 : (n : Int) ≤ 10 := by omega
  have hp := pow_le hn
  have hp0 : 0 < 2 ^ n := Nat.pow_pos (by decide)
  have e1 : ((2 : Int) ^ n) = ((2 ^ n : Nat) : Int) := by push_cast; rfl
  have HE := Lib.hid (show IntKind.u16.wrap (IntKind.u16.wrap ((2 : Int) ^ n) - 1) = ((2 ^ n - 1 : Nat) : Int) by
    rw [e1, wrap_small (by omega), show (((2 ^ n : Nat) : Int) - 1) = ((2 ^ n - 1 : Nat) : Int) by omega, wrap_small (by omega)])
  clear hp hp0 e1
  go_enter Try.func133, Try.ntmps133
  go_wp2_with fail
  go_ret
  exact ⟨ret_int HE.out, rfl⟩

set_option maxRecDepth 100000 in
theorem allStates_any (A : Option Addr) (n m cap : Nat) (w : World) (hn : n ≤ 10) :
    Calls Try.prog 92 #[.agg #[.int .i64 (n : Int), .slice A m cap]] w fun e w' => e = .returned (.int .u16 ((2 ^ n - 1 : Nat) : Int)) ∧ Below w.heap.size w w' := by
  obtain ⟨c, hc⟩ : ∃ c : Int, c = ((2 ^ n - 1 : Nat) : Int) := ⟨_, rfl⟩
  have HC := Lib.hid hc
  rw [← hc]
  clear hc
  go_enter Try.func92, Try.ntmps92
  go_wp2_with fail
  refine (statesBelow_any n _ hn).mono ?_
  rw [← HC.out]
  rintro e w' ⟨rfl, rfl⟩
  go_wp2_with fail
  go_ret
  exact ⟨rfl, (Below.refl _ _).alloc (Nat.le_refl _) _⟩

/-- The bits to which a letter leads: of the first k states. -/
def aftB (b : Nat) (row : List Int) : Nat → Nat
  | 0 => 0
  | k + 1 => aftB b row k ||| (b / 2 ^ k % 2 * 2 ^ (row.getD k 0).toNat)
theorem aftB_lt {b : Nat} {row : List Int} : ∀ k, (∀ j, j < k → (row.getD j 0).toNat < 10) → aftB b row k < 1024
  | 0, _ => by simp [aftB]
  | k + 1, h => by
    have h1 := aftB_lt (b := b) (row := row) k (fun j hj => h j (by omega))
    have h2 := h k (by omega)
    have h3 : b / 2 ^ k % 2 * 2 ^ (row.getD k 0).toNat < 2 ^ 10 := by
      have h4 : b / 2 ^ k % 2 ≤ 1 := by omega
      have h5 : 2 ^ (row.getD k 0).toNat ≤ 2 ^ 9 := Nat.pow_le_pow_right (by decide) (by omega)
      have h6 := Nat.mul_le_mul h4 h5
      omega
    exact Nat.or_lt_two_pow (n := 10) h1 h3
theorem aftB_bit {b : Nat} {row : List Int} (q : Nat) : ∀ k, (aftB b row k).testBit q = (List.range k).any fun j => b.testBit j && decide ((row.getD j 0).toNat = q)
  | 0 => by simp [aftB]
  | k + 1 => by
    rw [aftB, Nat.testBit_or, aftB_bit q k, List.range_succ, List.any_append]
    congr 1
    simp only [List.any_cons, List.any_nil, Bool.or_false]
    rw [Nat.testBit_eq_decide_div_mod_eq (x := b)]
    rcases Nat.mod_two_eq_zero_or_one (b / 2 ^ k) with e | e
    · rw [e]; simp
    · rw [e]; simp [Nat.testBit_two_pow]

set_option maxRecDepth 100000 in
set_option maxHeartbeats 1000000 in
theorem after_any (A : Option Addr) (n cap : Nat) (b : Nat) (row : List Int) (w : World) (hb : b < 1024) (h : NumsAt w A n row) (hn : n ≤ 10) (hrow : ∀ y ∈ row, 0 ≤ y ∧ y < 10) :
    Calls Try.prog 137 #[.int .u16 (b : Int), .slice A n cap] w fun e w' => e = .returned (.int .u16 ((aftB b row n : Nat) : Int)) ∧ w = w' := by
  have hlt10 : ∀ j, (row.getD j 0).toNat < 10 := fun j => by
    rcases Nat.lt_or_ge j row.length with a | a
    · have := hrow row[j] (List.getElem_mem a)
      rw [List.getD_eq_getElem?_getD, List.getElem?_eq_getElem a]
      show (row[j]).toNat < 10
      omega
    · rw [List.getD_eq_getElem?_getD, List.getElem?_eq_none a]; simp
  have HT := Lib.hid hlt10
  have HROW := Lib.hid hrow
  clear hlt10 hrow
  go_enter Try.func137, Try.ntmps137
  go_wp2_with fail
  go_loop [5, 10] (fun u i => ∃ (k c : Nat), k ≤ n ∧ i = .int .i64 k ∧ u = .int .u16 (c : Int) ∧ c = aftB b row k) (fun _ i => n - (intOf i).toNat)
  case atStart => exact ⟨0, 0, Nat.zero_le _, rfl, rfl, rfl⟩
  case round =>
    obtain ⟨k, c, hk, rfl, rfl, hc⟩ := hrel
    have HC := Lib.hid hc
    have hcl : c < 1024 := by rw [hc]; exact aftB_lt k (fun j _ => HT.out j)
    clear hc
    by_cases hlt : k < n
    · obtain ⟨y, b3, off3, hy, rfl, hcy⟩ := h.at_ hlt
      have hy1 := HROW.out y (List.mem_of_getElem? hy)
      obtain ⟨t, rfl⟩ : ∃ t : Nat, y = (t : Int) := ⟨y.toNat, by omega⟩
      have hgd : (row.getD k 0).toNat = t := by rw [List.getD_eq_getElem?_getD, hy]; rfl
      have i1 : (0 : Int) ≤ (k : Int) := by omega
      have i2 : (k : Int) < (n : Int) := by omega
      have i3 : (0 : Int) ≤ (t : Int) := by omega
      have i4 : (t : Int) < 10 := by omega
      have i5 : (k : Int) < 10 := by omega
      have ht9 : 2 ^ t ≤ 2 ^ 9 := Nat.pow_le_pow_right (by decide) (by omega)
      have hst := Lib.hid (show bits .or .u16 (c : Int) (IntKind.u16.wrap (bits .and .u16 ((b : Int) / 2 ^ k) 1 * 2 ^ t)) = ((aftB b row (k + 1) : Nat) : Int) by
        have e1 : (b : Int) / 2 ^ k = ((b / 2 ^ k : Nat) : Int) := by push_cast; rfl
        have hdl : b / 2 ^ k ≤ b := Nat.div_le_self _ _
        have e2 := u16_and_nat (b / 2 ^ k) 1 (by omega) (by decide)
        rw [show ((1 : Nat) : Int) = 1 from rfl, Nat.and_one_is_mod] at e2
        have hm1 : b / 2 ^ k % 2 ≤ 1 := by omega
        have hm2 := Nat.mul_le_mul hm1 ht9
        have e3 : (((b / 2 ^ k % 2 : Nat) : Int)) * 2 ^ t = ((b / 2 ^ k % 2 * 2 ^ t : Nat) : Int) := by push_cast; rfl
        rw [e1, e2, e3, wrap_small (by omega), u16_or_nat c _ (by omega) (by omega), aftB, ← HC.out, hgd])
      clear hy hy1 hgd ht9
      go_wp2_with fail
      go_round
      case rel => exact ⟨k + 1, aftB b row (k + 1), by omega, by go_num, by rw [hst.out], rfl⟩
      case measure => simp [intOf]; omega
    · have hkn : k = n := by omega
      have HK := Lib.hid hkn
      clear hkn
      go_wp2_with fail
      go_ret
      exact ⟨ret_int (by rw [HC.out, HK.out]), rfl⟩

/-- The bits to which a word leads. -/
def aftW (b : Nat) (n : Nat) (xss : List (List Int)) (ws : List Int) : Nat := ws.foldl (fun b x => aftB b (xss.getD x.toNat []) n) b
theorem aftW_snoc {b n k : Nat} {xss : List (List Int)} {ws : List Int} {x : Int} (hx : ws[k]? = some x) : aftW b n xss (ws.take (k + 1)) = aftB (aftW b n xss (ws.take k)) (xss.getD x.toNat []) n := by
  unfold aftW; rw [take_snoc hx, List.foldl_append]; rfl

set_option maxRecDepth 100000 in
set_option maxHeartbeats 1000000 in
theorem afterWord_any (A A' : Option Addr) (n m cap l cap' b : Nat) (xss : List (List Int)) (ws : List Int) (w : World) (hg : Good n m xss) (h : RowsAt w A m xss) (h' : NumsAt w A' l ws) (hw : ∀ x ∈ ws, 0 ≤ x ∧ x < (m : Int)) (hl : l ≤ 4611686018427387904) (hb : b < 1024) :
    Calls Try.prog 104 #[.int .u16 (b : Int), .agg #[.int .i64 (n : Int), .slice A m cap], .slice A' l cap'] w fun e w' => e = .returned (.int .u16 ((aftW b n xss ws : Nat) : Int)) ∧ aftW b n xss ws < 1024 ∧ Below w.heap.size w w' := by
  have hn10 : n ≤ 10 := hg.n10
  have b0 : Below w.heap.size w (w.alloc (.cells #[.int .i64 (n : Int), .slice A m cap] 28)) := (Below.refl _ _).alloc (Nat.le_refl _) _
  have x1 : (w.alloc (.cells #[.int .i64 (n : Int), .slice A m cap] 28)).cell? ⟨w.heap.size, 1, none⟩ = some (.slice A m cap) := by go_cell
  have HG := Lib.hid hg
  have HW := Lib.hid hw
  have H0 := Lib.hid (h.below b0)
  have N0 := Lib.hid (h'.below b0)
  have B0 := Lib.hid b0
  have HLW := Lib.hid h'.1
  have X1 := Lib.hid x1
  clear hg hw b0 x1
  go_enter Try.func104, Try.ntmps104
  go_wp2_with fail
  have y1 := X1.out
  go_loop [0, 11] (fun u i => ∃ (k c : Nat), k ≤ l ∧ i = .int .i64 k ∧ u = .int .u16 (c : Int) ∧ c = aftW b n xss (ws.take k) ∧ c < 1024) (fun _ i => l - (intOf i).toNat)
  case atStart => exact ⟨0, b, Nat.zero_le _, rfl, rfl, rfl, hb⟩
  case round =>
    obtain ⟨k, c, hk, rfl, rfl, hc, hcl⟩ := hrel
    have HC := Lib.hid hc
    clear hc
    by_cases hlt : k < l
    · obtain ⟨y, b3, off3, hy, rfl, hcy⟩ := N0.out.at_ hlt
      have hy1 := HW.out y (List.mem_of_getElem? hy)
      obtain ⟨t, rfl⟩ : ∃ t : Nat, y = (t : Int) := ⟨y.toNat, by omega⟩
      have htm : t < m := by omega
      obtain ⟨row, b4, off4, A5, c5, hr, hA, hcr, hnum⟩ := H0.out.at_ htm
      subst hA
      obtain ⟨row', hr', hlen⟩ := HG.out.row htm
      rw [hr] at hr'
      obtain rfl := Option.some.inj hr'
      have hgd : xss.getD t [] = row := by rw [List.getD_eq_getElem?_getD, hr]; rfl
      have hrow : ∀ z ∈ row, 0 ≤ z ∧ z < 10 := fun z hz => by
        obtain ⟨j, hj, e⟩ := List.mem_iff_getElem.1 hz
        have hz' : row[j]? = some z := by rw [List.getElem?_eq_getElem hj, e]
        obtain ⟨h1, h2⟩ := HG.out.next hr (q := j) (by omega)
        rw [h1] at hz'
        obtain rfl := Option.some.inj hz'
        omega
      rw [hlen] at hcr hnum
      have HST := Lib.hid (show aftW b n xss (ws.take (k + 1)) = aftB c row n by rw [aftW_snoc hy, ← HC.out, Int.toNat_natCast, hgd])
      have HAL := Lib.hid (show aftB c row n < 1024 from aftB_lt n (fun j hj => by
        have hj' : j < row.length := by omega
        have := hrow row[j] (List.getElem_mem hj')
        rw [List.getD_eq_getElem?_getD, List.getElem?_eq_getElem hj']
        show (row[j]).toNat < 10
        omega))
      have HNUM := Lib.hid hnum
      have HROW := Lib.hid hrow
      have i1 : (0 : Int) ≤ (k : Int) := by omega
      have i2 : (k : Int) < (l : Int) := by omega
      have i3 : (0 : Int) ≤ (t : Int) := by omega
      have i4 : (t : Int) < (m : Int) := by omega
      clear hy hy1 hr hgd hrow hnum hlen
      go_wp2_with fail
      refine (after_any A5 n c5 c row _ hcl HNUM.out hn10 HROW.out).mono ?_
      rintro e w' ⟨rfl, rfl⟩
      go_wp2_with fail
      go_round
      case rel => exact ⟨k + 1, aftB c row n, by omega, by go_num, rfl, HST.out.symm, HAL.out⟩
      case measure => simp [intOf]; omega
    · have hkl : k = l := by omega
      have HK := Lib.hid hkl
      have HCL := Lib.hid hcl
      clear hkl hcl
      go_wp2_with fail
      go_ret
      have e := HC.out
      rw [List.take_of_length_le (by rw [HLW.out, HK.out]; exact Nat.le_refl _)] at e
      rw [← e]
      exact ⟨rfl, HCL.out, B0.out⟩

end Go.Proofs.Ytcglncepmieaaaa
