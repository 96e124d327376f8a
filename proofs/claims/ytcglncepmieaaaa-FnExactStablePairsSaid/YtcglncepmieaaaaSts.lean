/-
  Lists of sets: what they read as, and the contract of listsOf (as in XDel and XClsI, for seats without lamps).
-/
import Derived.Test.YtcglncepmieaaaaList
import Derived.Test.YtcglncepmieaaaaTab
import Derived.Test.YtcglncepmieaaaaOwn2
import Derived.Deep.DeepCutAuto
namespace Go.Proofs.Ytcglncepmieaaaa
open Go.RowKit Go.Deep Go.ChangeShapes Go.WideShapes
open Hunt Srch From Moved

def bitU (b : Nat) : Value := .int .u16 (b : Int)
theorem ones_bitU (bs : List Nat) : ∀ u ∈ bs.map bitU, u.oneCell' = true := by
  intro u hu
  obtain ⟨b, _, rfl⟩ := List.mem_map.1 hu
  rfl
/-- The slice with the address A and the length n reads as the sets bs. -/
def SetsAt (w : World) (A : Option Addr) (n : Nat) (bs : List Nat) : Prop :=
  bs.length = n ∧ ∀ (k b : Nat), bs[k]? = some b → ∃ B off, A = some ⟨B, off, none⟩ ∧ w.cell? ⟨B, off + k, none⟩ = some (.int .u16 (b : Int))
theorem SetsAt.at_ {w : World} {A : Option Addr} {n : Nat} {bs : List Nat} (h : SetsAt w A n bs) {k : Nat} (hk : k < n) : ∃ b B off, bs[k]? = some b ∧ A = some ⟨B, off, none⟩ ∧ w.cell? ⟨B, off + k, none⟩ = some (.int .u16 (b : Int)) := by
  have hl : k < bs.length := by rw [h.1]; exact hk
  obtain ⟨B, off, e, hc⟩ := h.2 k bs[k] (List.getElem?_eq_getElem hl)
  exact ⟨_, B, off, List.getElem?_eq_getElem hl, e, hc⟩
theorem SetsAt.below {w w' : World} {A : Option Addr} {n : Nat} {bs : List Nat} (h : SetsAt w A n bs) (hb : Below w.heap.size w w') : SetsAt w' A n bs :=
  ⟨h.1, fun k b hx => by
    obtain ⟨B, off, e, hc⟩ := h.2 k b hx
    exact ⟨B, off, e, (hb.cell (cell_lt hc)).trans hc⟩⟩
theorem SetsAt.own {w : World} {base : Nat} {e : TypeId} {g n c : Nat} {bs : List Nat} (h : w.ownsRow base e 1 (.slice (some ⟨g, 0, none⟩) n c) n (bs.map bitU)) (hn : bs.length = n) : SetsAt w (some ⟨g, 0, none⟩) n bs :=
  ⟨hn, fun k b hb => ⟨g, 0, rfl, by
    have hk : k < n := by
      rcases Nat.lt_or_ge k bs.length with hlt | hge
      · omega
      · rw [List.getElem?_eq_none hge] at hb; cases hb
    rw [Nat.zero_add, h.cellAt k (by omega), List.getElem?_map, hb]; rfl⟩⟩

theorem tabV_none (lo hi : Nat) (w : World) : TabV lo hi w (.slice none 0 0) [] [] := by
  refine ⟨rfl, World.ownsRow_nil _ _ _ _, fun g hg => ?_, fun r u xs hu => ?_, fun r r' u u' g hu => ?_, fun r u g hu => ?_⟩
  · simp [Value.ownBlock] at hg
  · simp at hu
  · simp at hu
  · simp at hu

set_option maxRecDepth 100000 in
set_option maxHeartbeats 4000000 in
theorem listsOf_any (A : Option Addr) (n c : Nat) (bs : List Nat) (w : World) (h : SetsAt w A n bs) (hn : n ≤ 1048576) (hb : ∀ b ∈ bs, b < 1024) :
    Calls Try.prog 64 #[.slice A n c] w fun e w' => ∃ u, e = .returned u ∧ TabIn w.heap.size w'.heap.size w' u (bs.map fun b => listK b 10) ∧ Below w.heap.size w w' := by
  obtain ⟨i1, hi1, hy0, hy1, hy2⟩ := info_parts info_ints
  have HBS := Lib.hid hb
  have HL := Lib.hid h.1
  have HH := Lib.hid h
  clear hb h
  go_enter Try.func64, Try.ntmps64
  go_wp2_with fail
  go_loopw [3, 8] (fun ov iv wr => ∃ (k : Nat) (vs : List Value) (Y : List (List Int)), k ≤ n ∧ iv = .int .i64 k ∧ Y = (bs.take k).map (fun b => listK b 10) ∧ Y.length = k ∧ TabV w.heap.size wr.heap.size wr ov vs Y ∧ Below w.heap.size w wr) (fun _ iv _ => n - (intOf iv).toNat)
  case atStart => exact ⟨0, [], [], Nat.zero_le _, rfl, rfl, rfl, tabV_none _ _ _, Below.refl _ _⟩
  case round =>
    obtain ⟨k, vs, Y, hk, rfl, hY, hYl, htab, hbel⟩ := hrel
    obtain ⟨A3, C3, rfl⟩ := own_form htab.out
    have HT := Lib.hid htab
    have HB := Lib.hid hbel
    have HYY := Lib.hid hY
    have HYL := Lib.hid hYl
    have h1 := HH.out.below hbel
    have hk0 : (0 : Int) ≤ (k : Int) := by omega
    clear htab hbel hY
    by_cases hlt : k < n
    · have hkn : (k : Int) < (n : Int) := by omega
      obtain ⟨b, b0, off, hbk, rfl, hc⟩ := h1.at_ hlt
      have hb10 := HBS.out b (List.mem_of_getElem? hbk)
      have HBK := Lib.hid hbk
      have hym : Y.length < 1048576 := by omega
      clear hbk h1 hYl
      go_wp2_with fail
      refine (setList_any b wr hb10).mono ?_
      rintro e w4 ⟨u, rfl, o4, b4⟩
      obtain ⟨Z, hZ⟩ : ∃ Z, Z = listK b 10 := ⟨_, rfl⟩
      rw [← hZ] at o4
      obtain ⟨A5, C5, rfl⟩ := own_form o4
      have HT4 := Lib.hid (HT.out.below b4)
      have HI4 := Lib.hid (IntsIn.of o4)
      have HW4 := Lib.hid (below_then HB.out b4)
      have HLE := Lib.hid (show w.heap.size ≤ w4.heap.size from HW4.out.size)
      have HN := Lib.hid (show (bs.take (k + 1)).map (fun b => listK b 10) = Y ++ [Z] by rw [take_snoc HBK.out, List.map_append, ← HYY.out, hZ]; rfl)
      clear o4 b4 hZ hc
      go_wp2_with (at_builtin; refine wpList_append_own_at _ rfl _ _ 22 rfl (w.heap.size) 35 i1 (.slice none 0 0) 1 24 Try.underlying22 hi1 hy0 hy1 hy2 rfl (by decide) _ _ _ rfl (World.ownsRow.alloc (HT4.out.out) _) ⟨(w4).heap.size, 0, none⟩ 1 1 [.slice A5 Z.length C5] rfl rfl (cell_one_new _ _ _) (by simp [Value.oneCell']) (by unfold maxLen; omega) (by omega) (by rw [World.size_alloc]; exact Nat.le_succ_of_le HLE.out) ?_)
      intro v' w5 hown' hgrow _ hat
      have ba : Below w4.heap.size w4 (w4.alloc (.cells #[.slice A5 Z.length C5] 35)) := (Below.refl _ _).alloc (Nat.le_refl _) _
      have htab2 := TabV.snoc (HT4.out.below ba) (HI4.out.below ba) hown' hgrow (by rw [World.size_alloc]; exact hat) HB.out.size (Nat.le_refl _) (by have := ba.size; omega)
      rw [← HN.out] at htab2
      have HT5 := Lib.hid htab2
      have HB5 := Lib.hid (below_grown (below_then HW4.out ba) hgrow (fun g hg => (HT4.out.out.lt g hg).1))
      have HN2 := Lib.hid (show ((bs.take (k + 1)).map (fun b => listK b 10)).length = k + 1 by rw [HN.out, List.length_append, HYL.out]; rfl)
      clear hown' hgrow hat ba htab2
      go_wp2_with fail
      go_roundw
      case rel => exact ⟨k + 1, _, _, by omega, by go_num, rfl, HN2.out, HT5.out, HB5.out⟩
      case measure => simp [intOf]; omega
    · have hkn : k = n := by omega
      have HKN := Lib.hid hkn
      clear h1 hkn hYl
      go_wp2_with fail
      go_ret
      refine ⟨_, rfl, ⟨vs, ?_⟩, HB.out⟩
      have e : bs.map (fun b => listK b 10) = Y := by rw [HYY.out, HKN.out, List.take_of_length_le (by rw [HL.out]; exact Nat.le_refl _)]
      rw [e]
      exact HT.out

end Go.Proofs.Ytcglncepmieaaaa
