/-
  First words from all states: the contracts of both CanReset and of both ShortestReset.
-/
import Derived.Test.YtcdchnddmeofgaaMerge
namespace Go.Proofs.Ytcdchnddmeofgaa
open Go.RowKit Go.Deep Go.ChangeShapes Go.WideShapes
open Hunt Srch From Moved

theorem full_lt {n : Nat} (hn : n ≤ 10) : 2 ^ n - 1 < 1024 := (full_in n).lt hn
theorem told_hit (o : Option Fnd) : ((toldW o).2 == 0) = hitB o := by cases o <;> rfl
theorem told_code (o : Option Fnd) : (toldW o).2 = if hitB o = true then 0 else 6 := by cases o <;> rfl
theorem full_cut {n m : Nat} {xss : List (List Int)} (hg : Good n m xss) : cutW n m xss (2 ^ n - 1) = freeW n m xss (2 ^ n - 1) := by unfold cutW freeW; rw [full_same hg]
theorem freeW_len {n m b : Nat} {xss : List (List Int)} (hg : Good n m xss) (hb : b < 1024) : (freeW n m xss b).1.length ≤ 1024 := told_len hg hb

/-- What CanReset answers. -/
noncomputable def canReset (s : Int) (xss : List (List Int)) : Bool × Int :=
  if okA s xss = true then (hitB (firstF mergedB (fnd s.toNat xss.length xss 1024 (2 ^ s.toNat - 1))), 0) else (false, 1)
theorem canReset_1 {s : Int} {xss : List (List Int)} (h : okA s xss = false) : canReset s xss = (false, 1) := by unfold canReset; rw [if_neg (by simp [h])]
theorem canReset_0 {n m : Nat} {xss : List (List Int)} (h : okA (n : Int) xss = true) (hm : xss.length = m) : canReset (n : Int) xss = (hitB (firstF mergedB (fnd n m xss 1024 (2 ^ n - 1))), 0) := by unfold canReset; rw [if_pos h, hm, Int.toNat_natCast]
/-- What ShortestReset answers. -/
noncomputable def shortestReset (s : Int) (xss : List (List Int)) : List Int × Int :=
  if okA s xss = true then freeW s.toNat xss.length xss (2 ^ s.toNat - 1) else ([], 1)
theorem shortestReset_1 {s : Int} {xss : List (List Int)} (h : okA s xss = false) : shortestReset s xss = ([], 1) := by unfold shortestReset; rw [if_neg (by simp [h])]
theorem shortestReset_0 {n m : Nat} {xss : List (List Int)} (h : okA (n : Int) xss = true) (hm : xss.length = m) : shortestReset (n : Int) xss = freeW n m xss (2 ^ n - 1) := by unfold shortestReset; rw [if_pos h, hm, Int.toNat_natCast]
theorem shortestReset_len (s : Int) (xss : List (List Int)) : (shortestReset s xss).1.length ≤ 1024 := by
  rcases hok : okA s xss with _ | _
  · rw [shortestReset_1 hok]; simp
  · obtain ⟨n, hsn, hg⟩ := good_of hok rfl
    subst hsn
    rw [shortestReset_0 hok rfl]
    exact freeW_len hg (full_lt hg.n10)
theorem two_mk' {r : List Int × Int} {ls : List Int} {c : Int} {u : Value} (h : r = (ls, c)) : Ending.returned (.tuple #[u, .int .i64 c]) = .returned (.tuple #[u, .int .i64 r.2]) := by rw [h]
theorem two_mkb' {r : Bool × Int} {b : Bool} {c : Int} (h : r = (b, c)) : Ending.returned (.tuple #[.bool b, .int .i64 c]) = .returned (.tuple #[.bool r.1, .int .i64 r.2]) := by rw [h]

set_option maxRecDepth 100000 in
set_option maxHeartbeats 1000000 in
theorem l02Told_any (u : Value) (b : Bool) (o : Option Fnd) (base : Nat) (w : World) (hb : b = hitB o) (hbase : base ≤ w.heap.size) (ho : w.ownsRow base 2 1 u (toldW o).1.length ((toldW o).1.map (Value.int .i64))) :
    Calls Try.prog 30 #[u, .bool b] w fun e w' => ∃ u', e = .returned (.tuple #[u', .int .i64 (toldW o).2]) ∧ w'.ownsRow base 2 1 u' (toldW o).1.length ((toldW o).1.map (Value.int .i64)) ∧ Below w.heap.size w w' := by
  have HO := Lib.hid ho
  clear ho
  rcases o with _ | f
  · have hb' : b = false := hb
    subst hb'
    clear hb
    go_enter Try.func30, Try.ntmps30
    go_wp2_with fail
    go_ret2
    exact ⟨_, rfl, own_none w _ hbase, (Below.refl _ _).alloc (Nat.le_refl _) _⟩
  · have hb' : b = true := hb
    subst hb'
    clear hb
    go_enter Try.func30, Try.ntmps30
    go_wp2_with fail
    go_ret2
    exact ⟨_, rfl, HO.out, Below.refl _ _⟩

end Go.Proofs.Ytcdchnddmeofgaa
