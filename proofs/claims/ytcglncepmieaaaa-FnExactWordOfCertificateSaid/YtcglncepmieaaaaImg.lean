/-
  ImageOf: the contracts of l01Image and of both ImageOf.
-/
import Derived.Test.YtcglncepmieaaaaPut
namespace Go.Proofs.Ytcglncepmieaaaa
open Go.RowKit Go.Deep Go.ChangeShapes Go.WideShapes

/-- The states to which a word leads from the first k of a set, as marks. -/
def imM (xss : List (List Int)) (set ws : List Int) (k : Nat) : Nat → Bool := fun q => (set.take k).any fun x => decide (toS xss ws x.toNat = q)
theorem imM_0 (xss : List (List Int)) (set ws : List Int) : imM xss set ws 0 = fun _ => false := by funext q; simp [imM]
theorem imM_step {xss : List (List Int)} {set ws : List Int} {k y : Nat} (hx : set[k]? = some (y : Int)) : upd (imM xss set ws k) (toS xss ws y) true = imM xss set ws (k + 1) := by
  funext q
  unfold imM upd
  rw [take_snoc hx]
  by_cases h : q = toS xss ws y
  · simp [h]
  · have : ¬ toS xss ws y = q := fun e => h e.symm
    simp [h, this]
def imageL (xss : List (List Int)) (set ws : List Int) : List Int := setL (imM xss set ws set.length) 10
/-- What ImageOf answers. -/
def imageOf (s : Int) (xss : List (List Int)) (set ws : List Int) : List Int × Int :=
  if codeB s xss set ws = 0 then (imageL xss set ws, 0) else ([], codeB s xss set ws)
theorem imageOf_no {s : Int} {xss : List (List Int)} {set ws : List Int} {c : Int} (h : codeB s xss set ws = c) (hc : ¬ c = 0) : imageOf s xss set ws = ([], c) := by
  unfold imageOf; rw [h, if_neg hc]
theorem imageOf_0 {s : Int} {xss : List (List Int)} {set ws : List Int} (h : codeB s xss set ws = 0) : imageOf s xss set ws = (imageL xss set ws, 0) := by
  unfold imageOf; rw [if_pos h]
theorem imageOf_len (s : Int) (xss : List (List Int)) (set ws : List Int) : (imageOf s xss set ws).1.length ≤ 10 := by
  unfold imageOf
  split
  · exact setL_len _ _
  · simp

set_option maxRecDepth 100000 in
set_option maxHeartbeats 2000000 in
theorem l01Image_any (p : Nat) (A A' A2 : Option Addr) (n m cap l cap' l2 cap2 : Nat) (xss : List (List Int)) (set ws : List Int) (w : World) (hg : Good n m xss) (c1 : w.cell? ⟨p, 1, none⟩ = some (.slice A m cap)) (h : RowsAt w A m xss)
    (hs : NumsAt w A2 l2 set) (h' : NumsAt w A' l ws) (hw : ∀ x ∈ ws, 0 ≤ x ∧ x < (m : Int)) (hset : ∀ x ∈ set, 0 ≤ x ∧ x < (n : Int)) (hl : l ≤ 4611686018427387904) (hl2 : l2 ≤ 4611686018427387904) :
    Calls Try.prog 77 #[.pointer (some ⟨p, 0, none⟩), .slice A2 l2 cap2, .slice A' l cap'] w fun e w' => ∃ v, e = .returned v ∧ w'.ownsRow w.heap.size 2 1 v (imageL xss set ws).length ((imageL xss set ws).map (Value.int .i64)) ∧ Below w.heap.size w w' := by
  have HG := Lib.hid hg
  have HWS := Lib.hid hw
  have HSET := Lib.hid hset
  have hn10 : n ≤ 10 := hg.n10
  have HSL := Lib.hid hs.1
  clear hg hw hset
  go_enter Try.func77, Try.ntmps77
  go_wp2_with fail
  go_loopw [7, 8] (fun v i wr => ∃ (k : Nat) (L : List Int), k ≤ l2 ∧ i = .int .i64 k ∧ L = setL (imM xss set ws k) 10 ∧ wr.ownsRow w.heap.size 2 1 v L.length (L.map (Value.int .i64)) ∧ Below w.heap.size w wr) (fun _ i _ => l2 - (intOf i).toNat)
  case atStart => exact ⟨0, [], Nat.zero_le _, rfl, by rw [imM_0]; rfl, own_none w _ (Nat.le_refl _), (Below.refl _ _).alloc (Nat.le_refl _) _⟩
  case round =>
    obtain ⟨k, L, hk, rfl, hL, hown, hbel⟩ := hrel
    obtain ⟨A3, c3, rfl⟩ := own_form hown
    have hlen : L.length ≤ 10 := by rw [hL]; exact setL_len _ _
    have HO := Lib.hid hown
    have HB := Lib.hid hbel
    have HL := Lib.hid hL
    have d1 : wr.cell? ⟨p, 1, none⟩ = some (.slice A m cap) := (hbel.cell (cell_lt c1)).trans c1
    clear hown hL
    by_cases hlt : k < l2
    · obtain ⟨x, b, off, hx, rfl, hc0⟩ := hs.at_ hlt
      have hc : wr.cell? ⟨b, off + k, none⟩ = some (.int .i64 x) := (hbel.cell (cell_lt hc0)).trans hc0
      have hxn := HSET.out x (List.mem_of_getElem? hx)
      obtain ⟨y, rfl⟩ : ∃ y : Nat, x = (y : Int) := ⟨x.toNat, by omega⟩
      have hyn : y < n := by omega
      have hto := HG.out.to ws y HWS.out hyn
      have hput : putL ((toS xss ws y : Nat) : Int) L = setL (imM xss set ws (k + 1)) 10 := by
        rw [HL.out, put_setL (by omega), imM_step hx]
      have HP := Lib.hid hput
      have i1 : (0 : Int) ≤ (k : Int) := by omega
      have i2 : (k : Int) < (l2 : Int) := by omega
      clear hx hxn hto hput hbel hc0
      go_wp2_with fail
      refine (l01To_any p A A' n m cap l cap' y xss ws wr HG.out d1 (h.below HB.out) (h'.below HB.out) HWS.out hyn hl).mono ?_
      rintro e w1 ⟨rfl, d, rfl⟩
      go_wp2_with fail
      refine (l00Put_any A3 L.length c3 L ((toS xss ws y : Nat) : Int) _ ((NumsAt.own HO.out rfl rfl).drewN d) (by omega)).mono ?_
      rw [HP.out]
      rintro e w2 ⟨a, rfl, o2, b2⟩
      have HO2 := Lib.hid o2
      have HB2 := Lib.hid (below_then (below_drewN' HB.out d) b2)
      clear o2 b2
      go_wp2_with fail
      go_roundw
      case rel => exact ⟨k + 1, _, by omega, by go_num, rfl, own_base HO2.out (by have := HB.out.size; simpa using this), HB2.out⟩
      case measure => simp [intOf]; omega
    · clear hbel
      go_wp2
      go_ret
      have hkn : k = l2 := by omega
      subst hkn
      have e : imageL xss set ws = L := by unfold imageL; rw [HSL.out, HL.out]
      rw [e]
      exact ⟨_, rfl, HO.out, HB.out⟩

end Go.Proofs.Ytcglncepmieaaaa
