/-
  What a machine outputs for a word: the contracts of l06Run, outputsOf and of both OutputsOf.
-/
import Derived.Test.YtogbglbmkkbhcaaDoorMachV
import Derived.Deep.AppendLies
import Derived.Deep.RegionLaw
namespace Go.Proofs.YtogbglbmkkbhcaaDoor
open Go.RowKit Go.Deep Go.ChangeShapes Go.WideShapes

/-- What a letter outputs and where it leads, as the walks read it. -/
theorem GoodM.cells {n m k : Nat} {xss yss : List (List Int)} (h : GoodM n m k xss yss) {w : World} {A B : Option Addr} (hx : RowsAt w A m xss) (hy : RowsAt w B m yss) {x q : Nat} (hxm : x < m) (hq : q < n) :
    ∃ b off c1 b1 off1 b2 off2 c2 b3 off3, A = some ⟨b, off, none⟩ ∧ w.cell? ⟨b, off + x, none⟩ = some (.slice (some ⟨b1, off1, none⟩) n c1) ∧ w.cell? ⟨b1, off1 + q, none⟩ = some (.int .i64 ((nx xss x q : Nat) : Int)) ∧
      B = some ⟨b2, off2, none⟩ ∧ w.cell? ⟨b2, off2 + x, none⟩ = some (.slice (some ⟨b3, off3, none⟩) n c2) ∧ w.cell? ⟨b3, off3 + q, none⟩ = some (.int .i64 ((nx yss x q : Nat) : Int)) := by
  obtain ⟨row, b, off, A1, c1, hrow, rfl, hc, hnum⟩ := hx.at_ hxm
  obtain ⟨e, b1, off1, he, rfl, hc1⟩ := hnum.at_ (show q < row.length by rw [(h.good.rows x row hrow).1]; exact hq)
  obtain ⟨row', b2, off2, B1, c2, hrow', rfl, hc2, hnum'⟩ := hy.at_ hxm
  obtain ⟨e', b3, off3, he', rfl, hc3⟩ := hnum'.at_ (show q < row'.length by rw [(h.rows x row' hrow').1]; exact hq)
  rw [(h.good.next hrow hq).1] at he
  rw [(h.out hrow' hq).1] at he'
  obtain rfl := Option.some.inj he
  obtain rfl := Option.some.inj he'
  rw [(h.good.rows x row hrow).1] at hc
  rw [(h.rows x row' hrow').1] at hc2
  exact ⟨b, off, c1, b1, off1, b2, off2, c2, b3, off3, rfl, hc, hc1, rfl, hc2, hc3⟩

/-- A function that answers a list and a number. -/
def ListNum (L : List Int) (x : Int) (w : World) (e : Ending) (w' : World) : Prop :=
  ∃ v, e = .returned (.tuple #[v, .int .i64 x]) ∧ w'.ownsRow w.heap.size 2 1 v L.length (L.map (Value.int .i64)) ∧ Below w.heap.size w w'
theorem listNum_mk {w w' : World} {xs ys : List Int} {v : Value} {n : Nat} {x y : Int} (ho : w'.ownsRow w.heap.size 2 1 v n (xs.map (Value.int .i64))) (hb : Below w.heap.size w w') (h1 : xs = ys) (h2 : x = y) (hn : n = ys.length) :
    ListNum ys y w (.returned (.tuple #[v, .int .i64 x])) w' := by subst h1 h2 hn; exact ⟨v, rfl, ho, hb⟩

end Go.Proofs.YtogbglbmkkbhcaaDoor
