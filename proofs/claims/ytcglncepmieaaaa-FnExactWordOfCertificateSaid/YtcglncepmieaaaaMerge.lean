/-
  The first words to one state: the contract of mergingWord, and what both sides answer.
-/
import Derived.Test.YtcglncepmieaaaaFirst
import Derived.Test.YtcglncepmieaaaaWord
import Derived.Test.YtcglncepmieaaaaLaw
namespace Go.Proofs.Ytcglncepmieaaaa
open Go.RowKit Go.Deep Go.ChangeShapes Go.WideShapes

namespace Srch
open Hunt Room From Moved

/-- What is told of the first word that the program finds. -/
noncomputable def cutW (n m : Nat) (xss : List (List Int)) (b0 : Nat) : List Int × Int := toldW (firstF mergedB (fnd n m xss 400 b0))
noncomputable def freeW (n m : Nat) (xss : List (List Int)) (b0 : Nat) : List Int × Int := toldW (firstF mergedB (fnd n m xss 1024 b0))
set_option maxRecDepth 100000 in
set_option maxHeartbeats 2000000 in
theorem mergingWord_any (A : Option Addr) (n m cap b0 : Nat) (xss : List (List Int)) (w : World) (hg : Good n m xss) (hR : RowsAt w A m xss) (hb0 : b0 < 1024) :
    Calls Try.prog 91 #[.agg #[.int .i64 (n : Int), .slice A m cap], .int .u16 (b0 : Int)] w fun e w' => ∃ u, e = .returned (.tuple #[u, .int .i64 (cutW n m xss b0).2]) ∧
      w'.ownsRow w.heap.size 2 1 u (cutW n m xss b0).1.length ((cutW n m xss b0).1.map (Value.int .i64)) ∧ Below w.heap.size w w' := by
  have b1 : Below w.heap.size w (w.alloc (.cells #[.int .i64 (n : Int), .slice A m cap] 28)) := (Below.refl _ _).alloc (Nat.le_refl _) _
  have H1 := Lib.hid (hR.below b1)
  have B1 := Lib.hid b1
  clear hR b1
  go_enter Try.func91, Try.ntmps91
  go_wp2_with fail
  refine (firstWord_any 103 #[] #[] mergedB A n m cap b0 xss _ hg H1.out hb0 (fun _ _ => rfl) (fun b hb W' _ => (isMerged_any b W' hb).mono fun _ _ hh => ⟨hh.1, by obtain ⟨k, rfl⟩ := hh.2; exact below_drewN' (Below.refl _ _) k⟩)).mono ?_
  rintro e w2 ⟨u, rfl, ow, b2⟩
  have HO := Lib.hid ow
  have HB := Lib.hid (below_then B1.out b2)
  clear ow b2
  go_wp2_with fail
  go_ret2
  exact ⟨u, rfl, own_base HO.out (by rw [World.size_alloc]; exact Nat.le_succ _), HB.out⟩
end Srch

end Go.Proofs.Ytcglncepmieaaaa
