/-
  The model's search: the contract of l02From, and of its first words.
-/
import Derived.Test.YtnnjcpihaobkaaaSrch
import Derived.Test.YtnnjcpihaobkaaaMoved
import Derived.Test.YtnnjcpihaobkaaaAct
import Derived.Deep.DeepCutAuto
namespace Go.Proofs.Ytnnjcpihaobkaaa
open Go.RowKit Go.Deep Go.ChangeShapes Go.WideShapes

namespace From
open Hunt Srch Moved

theorem in_lt {n b : Nat} (h : In n b) : b < 2 ^ n := by
  rcases Nat.lt_or_ge b (2 ^ n) with a | a
  · exact a
  · obtain ⟨i, hi, hb⟩ := Nat.exists_ge_and_testBit_of_ge_two_pow a
    have := h i hb
    omega

def setsL (T : List Fnd) : List Int := T.map fun f => (f.set : Int)
def parsL (T : List Fnd) : List Int := T.map Fnd.par
def ltrsL (T : List Fnd) : List Int := T.map Fnd.ltr
theorem setsL_len (T : List Fnd) : (setsL T).length = T.length := List.length_map _
theorem parsL_len (T : List Fnd) : (parsL T).length = T.length := List.length_map _
theorem ltrsL_len (T : List Fnd) : (ltrsL T).length = T.length := List.length_map _
theorem setsL_snoc (T : List Fnd) (f : Fnd) : setsL (T ++ [f]) = setsL T ++ [(f.set : Int)] := by simp [setsL]
theorem parsL_snoc (T : List Fnd) (f : Fnd) : parsL (T ++ [f]) = parsL T ++ [f.par] := by simp [parsL]
theorem ltrsL_snoc (T : List Fnd) (f : Fnd) : ltrsL (T ++ [f]) = ltrsL T ++ [f.ltr] := by simp [ltrsL]
theorem setsL_at {T : List Fnd} {j : Nat} {e : Fnd} (h : T[j]? = some e) : (setsL T)[j]? = some (e.set : Int) := by simp [setsL, h]
theorem parsL_at {T : List Fnd} {j : Nat} {e : Fnd} (h : T[j]? = some e) : (parsL T)[j]? = some e.par := by simp [parsL, h]
theorem ltrsL_at {T : List Fnd} {j : Nat} {e : Fnd} (h : T[j]? = some e) : (ltrsL T)[j]? = some e.ltr := by simp [ltrsL, h]

theorem ext_pre2 {aft : Nat → Nat → Nat} {i : Nat} {e : Fnd} {T : List Fnd} {x : Nat} : ∀ {m : Nat}, x ≤ m → ∃ N, extX aft i e T m = extX aft i e T x ++ N ∧ True
  | 0, h => ⟨[], by obtain rfl : x = 0 := by omega
                    simp, trivial⟩
  | m + 1, h => by
    rcases Nat.eq_or_lt_of_le h with rfl | a
    · exact ⟨[], by simp, trivial⟩
    · obtain ⟨N, hN, _⟩ := ext_pre2 (aft := aft) (i := i) (e := e) (T := T) (x := x) (m := m) (by omega)
      rcases hk : knownB (extX aft i e T m) (aft e.set m) with _ | _
      · exact ⟨N ++ [newF aft i e m], by rw [ext_new hk, hN, List.append_assoc], trivial⟩
      · exact ⟨N, by rw [ext_old hk, hN], trivial⟩
theorem info_bool : (Try.prog.info? 4).map (fun i => (i.zero, i.size, i.bytes)) = some (some (.bool false), 1, 1) := by kernel_rfl
theorem info_int : (Try.prog.info? 3).map (fun i => (i.zero, i.size, i.bytes)) = some (some (.int .i64 0), 1, 8) := by kernel_rfl

end From

end Go.Proofs.Ytnnjcpihaobkaaa
