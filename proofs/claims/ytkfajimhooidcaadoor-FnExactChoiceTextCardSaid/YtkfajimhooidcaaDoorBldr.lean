/-
  Texts that are put together in a strings.Builder: the contracts of its WriteByte and WriteString, as Go's own text has them in this program. (String is laid in the module Shelf.)
-/
import Derived.Test.YtkfajimhooidcaaDoorBase
import Derived.Shelf.Strings.Builder1
import Derived.Maps.AppendAt
namespace Go.Proofs.YtkfajimhooidcaaDoor
open Go.RowKit Go.Deep Go.ChangeShapes Go.WideShapes

theorem bl_size : (Tryd.prog.info? 85).map (·.size) = some 2 := by kernel_rfl
theorem bl_lies : liesAt Tryd.prog Tryd.prog.depth 85 (2 / Tryd.prog.cellsOf 85) 0 85 1 = true := by kernel_rfl
theorem bl_u8 : (Tryd.prog.info? 5).map (fun i => (i.zero, i.size, i.bytes)) = some (some (.int .u8 0), 1, 1) := by kernel_rfl

set_option maxHeartbeats 1000000 in
set_option maxRecDepth 100000 in
theorem copyCheck_used (b : Nat) (w : World) (h0 : w.cell? ⟨b, 0, none⟩ = some (.pointer (some ⟨b, 0, none⟩))) :
    Calls Tryd.prog 68 #[.pointer (some ⟨b, 0, none⟩)] w fun e w' => e = .returned (.tuple #[]) ∧ w' = w := by
  obtain ⟨j, hj, _⟩ := Option.map_eq_some_iff.1 bl_size
  go_enter Tryd.func68, Tryd.ntmps68
  go_wp2
  rw [Lib.run_neq_ptr_same w _ Tryd.underlying83 hj]
  go_wp2
  go_end0
  exact ⟨rfl, rfl⟩

set_option maxHeartbeats 1000000 in
set_option maxRecDepth 100000 in
theorem copyCheck_fresh (b : Nat) (w : World) (h0 : w.cell? ⟨b, 0, none⟩ = some (.pointer none)) (hsh : w.shape? b = some (85, 2)) (hfz : w.frozen? ⟨b, 0, none⟩ = false) :
    Calls Tryd.prog 68 #[.pointer (some ⟨b, 0, none⟩)] w fun e w' => e = .returned (.tuple #[]) ∧ w' = w.setCell ⟨b, 0, none⟩ (.pointer (some ⟨b, 0, none⟩)) := by
  obtain ⟨j, hj, hjs⟩ := Option.map_eq_some_iff.1 bl_size
  go_enter Tryd.func68, Tryd.ntmps68
  go_wp2
  rw [Lib.run_to_unsafe w ⟨b, 0, none⟩ Tryd.underlying83 Tryd.underlying123 hj (by rw [hjs]; decide) hsh (Nat.zero_lt_succ 1)]
  simp only [Result.andThen]
  rw [Oper.upon_value]
  go_wp2
  rw [run_callFunc_extern Tryd.func86 (by kernel_rfl) (by kernel_rfl) (by kernel_rfl) (e := Extern.AbiNoEscape.same) (by kernel_rfl)]
  rw [Lib.run_noEscape]
  simp only [Result.andThen]
  rw [Oper.upon_value]
  go_wp2
  rw [Lib.run_from_unsafe w ⟨b, 0, none⟩ Tryd.underlying123 Tryd.underlying83 hj hsh bl_lies]
  simp only [Result.andThen]
  rw [Oper.upon_value]
  go_wp2
  go_end0
  exact ⟨rfl, rfl⟩

theorem ones_u8' (c : Int) : ∀ u ∈ [Value.int .u8 c], u.oneCell' = true := fun u hu => by rw [List.mem_singleton.1 hu]; rfl
/-- A builder in the block B that holds the cells bs. -/
abbrev Bldr (B : Nat) (bs : List Value) (w : World) : Prop := Lib.IsBuilder 85 5 B B bs w

/-- Blocks of another type than bytes, the builder's own block aside, keep what they hold. -/
def Kept (B : Nat) (w w' : World) : Prop := ∀ (c : Nat) (cs : Array Value) (t : TypeId) (fr : Nat × Nat), t ≠ 5 → c ≠ B → w.heap[c]? = some (.cells cs t fr) → w'.heap[c]? = w.heap[c]?
theorem Kept.refl (B : Nat) (w : World) : Kept B w w := fun _ _ _ _ _ _ _ => rfl
theorem Kept.trans {B : Nat} {w w' w'' : World} (h : Kept B w w') (h' : Kept B w' w'') : Kept B w w'' := fun c cs t fr ht hc hb => (h' c cs t fr ht hc ((h c cs t fr ht hc hb).trans hb)).trans (h c cs t fr ht hc hb)
theorem Kept.setB {B : Nat} {w w' : World} (h : Kept B w w') (j : Nat) (u : Value) : Kept B w (w'.setCell ⟨B, j, none⟩ u) := fun c cs t fr ht hc hb => by
  rw [heap_setCell_other _ _ _ _ hc]
  exact h c cs t fr ht hc hb
theorem kept_lt {w : World} {c : Nat} {o : Obj} (h : w.heap[c]? = some o) : c < w.heap.size := by
  rcases Nat.lt_or_ge c w.heap.size with hlt | hge
  · exact hlt
  · rw [Array.getElem?_eq_none hge] at h; cases h
theorem Kept.alloc {B : Nat} {w w' : World} (h : Kept B w w') (o : Obj) : Kept B w (w'.alloc o) := fun c cs t fr ht hc hb => by
  have h1 := h c cs t fr ht hc hb
  rw [← h1]
  exact ((Below.refl w'.heap.size w').alloc (Nat.le_refl _) o).block c (kept_lt (h1.trans hb))
theorem Kept.grown {B base n : Nat} {w w' w'' : World} {v : Value} {xs : List Value} (h : Kept B w w') (ho : w'.ownsRow base 5 1 v n xs) (hg : w'.grownBy w'' v.ownBlock) : Kept B w w'' := fun c cs t fr ht hc hb => by
  have h1 := (h c cs t fr ht hc hb).trans hb
  rw [h c cs t fr ht hc hb |>.symm]
  refine hg.block c (kept_lt h1) (fun e => ?_)
  rcases ho.2 with ⟨rfl, _⟩ | ⟨g, cap, cur, rfl, _, hgc, _⟩
  · simp [Value.ownBlock] at e
  · have : c = g := by simpa [Value.ownBlock] using e
    subst this
    rw [h1] at hgc
    exact ht (by simpa using (Obj.cells.inj (Option.some.inj hgc)).2.1)

theorem copyCheck_any (B : Nat) (bs : List Value) (w : World) (h : Bldr B bs w) :
    Calls Tryd.prog 68 #[.pointer (some ⟨B, 0, none⟩)] w fun e w' => e = .returned (.tuple #[]) ∧ (Lib.BuilderAt 85 5 B B (.pointer (some ⟨B, 0, none⟩)) bs w' ∧ Below B w w' ∧ Kept B w w') := by
  rcases h with h | h
  · refine (copyCheck_fresh B w h.cell0 h.shape h.frozen0).mono ?_
    rintro e w' ⟨rfl, rfl⟩
    exact ⟨rfl, h.used _, (Below.refl B w).setCell (p := ⟨B, 0, none⟩) h.1 _, (Kept.refl B w).setB 0 _⟩
  · refine (copyCheck_used B w h.cell0).mono ?_
    rintro e w' ⟨rfl, rfl⟩
    exact ⟨rfl, h, Below.refl B _, Kept.refl B _⟩

set_option maxHeartbeats 2000000 in
set_option maxRecDepth 100000 in
theorem writeByte_kept (B : Nat) (bs : List Value) (c : Int) (w : World) (h : Bldr B bs w) (hlen : bs.length + 1 ≤ 140737488355328) (_hBw : B ≤ w.heap.size) :
    Calls Tryd.prog 69 #[.pointer (some ⟨B, 0, none⟩), .int .u8 c] w fun e w' => e = .returned .nilIface ∧ (Bldr B (bs ++ [.int .u8 c]) w' ∧ Below B w w' ∧ Kept B w w') := by
  obtain ⟨i0, hi, hz0, hz1, hz2⟩ := info_parts bl_u8
  go_enter Tryd.func69, Tryd.ntmps69
  go_wp2_with fail
  refine (copyCheck_any B bs w h).mono ?_
  rintro e w1 ⟨rfl, h1, hb1, hk1⟩
  have hlt := h1.lt
  obtain ⟨hB, v, hbk, hown, hne⟩ := h1
  obtain ⟨A3, c3, rfl⟩ := own_form hown
  have c0 : w1.cell? ⟨B, 0, none⟩ = some (.pointer (some ⟨B, 0, none⟩)) := cell_of_row _ B 0 _ _ _ hbk
  have c1 : w1.cell? ⟨B, 1, none⟩ = some (.slice A3 bs.length c3) := cell_of_row _ B 1 _ _ _ hbk
  have HO := Lib.hid hown
  have HBK := Lib.hid hbk
  have HNE := Lib.hid hne
  have HB1 := Lib.hid hb1
  have HK1 := Lib.hid hk1
  have HBS := Lib.hid (show B ≤ (w1.alloc (.cells #[.int .u8 c] 5)).heap.size by have := hb1.size; rw [World.size_alloc]; omega)
  clear hown hbk hne hb1 hk1
  go_wp2_with (at_builtin; refine wpList_append_own _ rfl _ _ 72 rfl B 5 i0 (.int .u8 0) 1 1 Tryd.underlying72 hi hz0 hz1 hz2 rfl (by decide) _ _ _ rfl (HO.out.alloc _) ⟨w1.heap.size, 0, none⟩ 1 1 [.int .u8 c] rfl rfl ?c1 ?c2 ?c3 ?c4 ?c5 ?_)
  case c1 => exact cell_one_new _ _ _
  case c2 => exact ones_u8' c
  case c3 => unfold maxLen; omega
  case c4 => omega
  case c5 => exact HBS.out
  intro v' w2 hown' hgrow _
  have ba : Below w1.heap.size w1 (w1.alloc (.cells #[.int .u8 c] 5)) := (Below.refl _ _).alloc (Nat.le_refl _) _
  have hb2 : w2.heap[B]? = some (.cells #[.pointer (some ⟨B, 0, none⟩), .slice A3 bs.length c3] 85 (0, 0)) := (hgrow.block B (Nat.lt_of_lt_of_le hlt ba.size) (fun e => HNE.out e.symm)).trans ((ba.block B hlt).trans HBK.out)
  have d1 : w2.cell? ⟨B, 1, none⟩ = some (.slice A3 bs.length c3) := cell_of_row _ B 1 _ _ _ hb2
  have f1 : w2.frozen? ⟨B, 1, none⟩ = false := frozen_of_row _ B 1 _ _ hb2
  obtain ⟨A6, c6, rfl⟩ := own_form hown'
  have H2 := Lib.hid hb2
  have HO2 := Lib.hid hown'
  have HG := Lib.hid ((HB1.out.alloc (by have := HB1.out.size; omega) (.cells #[.int .u8 c] 5)).grown hgrow HBS.out (fun k hk => (HO.out.lt k hk).1))
  have HKG := Lib.hid ((HK1.out.alloc (.cells #[.int .u8 c] 5)).grown (HO.out.alloc _) hgrow)
  clear hb2 hown' hgrow ba c0 c1
  go_wp2_with fail
  go_ret
  exact ⟨rfl, .inr (Lib.BuilderAt.put (T := 85) (e := 5) hB H2.out (bs' := bs ++ [.int .u8 c]) (by simpa using HO2.out) (by decide)), HG.out.setCell (p := ⟨B, 1, none⟩) hB _, HKG.out.setB 1 _⟩

set_option maxHeartbeats 2000000 in
set_option maxRecDepth 100000 in
theorem writeString_kept (B : Nat) (bs : List Value) (s : ByteArray) (w : World) (h : Bldr B bs w) (hlen : bs.length + s.size ≤ 140737488355328) (hBw : B ≤ w.heap.size) :
    Calls Tryd.prog 51 #[.pointer (some ⟨B, 0, none⟩), .string s] w fun e w' => e = .returned (.tuple #[.int .i64 (s.size : Int), .nilIface]) ∧ (Bldr B (bs ++ Lib.strCells s) w' ∧ Below B w w' ∧ Kept B w w') := by
  obtain ⟨i0, hi, hz0, hz1, hz2⟩ := info_parts bl_u8
  go_enter Tryd.func51, Tryd.ntmps51
  go_wp2_with fail
  refine (copyCheck_any B bs w h).mono ?_
  rintro e w1 ⟨rfl, h1, hb1, hk1⟩
  have hlt := h1.lt
  obtain ⟨hB, v, hbk, hown, hne⟩ := h1
  obtain ⟨A3, c3, rfl⟩ := own_form hown
  have c0 : w1.cell? ⟨B, 0, none⟩ = some (.pointer (some ⟨B, 0, none⟩)) := cell_of_row _ B 0 _ _ _ hbk
  have c1 : w1.cell? ⟨B, 1, none⟩ = some (.slice A3 bs.length c3) := cell_of_row _ B 1 _ _ _ hbk
  have HO := Lib.hid hown
  have HBK := Lib.hid hbk
  have HNE := Lib.hid hne
  have HB1 := Lib.hid hb1
  have HK1 := Lib.hid hk1
  have HBS := Lib.hid (Nat.le_trans hBw hb1.size)
  clear hown hbk hne hb1 hk1
  go_wp2_with (at_builtin; refine Lib.wpList_append_own_string _ rfl _ _ 72 9 rfl B 5 i0 Tryd.underlying72 Tryd.underlying9 hi hz0 hz1 hz2 _ _ _ rfl HO.out s rfl (by unfold maxLen; omega) (by omega) HBS.out ?_)
  intro v' w2 hown' hgrow _
  have hb2 : w2.heap[B]? = some (.cells #[.pointer (some ⟨B, 0, none⟩), .slice A3 bs.length c3] 85 (0, 0)) := (hgrow.block B hlt (fun e => HNE.out e.symm)).trans HBK.out
  have d1 : w2.cell? ⟨B, 1, none⟩ = some (.slice A3 bs.length c3) := cell_of_row _ B 1 _ _ _ hb2
  have f1 : w2.frozen? ⟨B, 1, none⟩ = false := frozen_of_row _ B 1 _ _ hb2
  obtain ⟨A6, c6, rfl⟩ := own_form hown'
  have H2 := Lib.hid hb2
  have HO2 := Lib.hid hown'
  have HG := Lib.hid (HB1.out.grown hgrow HBS.out (fun k hk => (HO.out.lt k hk).1))
  have HKG := Lib.hid (HK1.out.grown HO.out hgrow)
  clear hb2 hown' hgrow c0 c1
  go_wp2_with fail
  go_ret2
  exact ⟨rfl, .inr (Lib.BuilderAt.put (T := 85) (e := 5) hB H2.out (bs' := bs ++ Lib.strCells s) (by simpa [Lib.strCells_length] using HO2.out) (by decide)), HG.out.setCell (p := ⟨B, 1, none⟩) hB _, HKG.out.setB 1 _⟩

theorem writeByte_any (B : Nat) (bs : List Value) (c : Int) (w : World) (h : Bldr B bs w) (hlen : bs.length + 1 ≤ 140737488355328) (hBw : B ≤ w.heap.size) :
    Calls Tryd.prog 69 #[.pointer (some ⟨B, 0, none⟩), .int .u8 c] w fun e w' => e = .returned .nilIface ∧ (Bldr B (bs ++ [.int .u8 c]) w' ∧ Below B w w') :=
  (writeByte_kept B bs c w h hlen hBw).mono fun _ _ ⟨h1, h2, h3, _⟩ => ⟨h1, h2, h3⟩
theorem writeString_any (B : Nat) (bs : List Value) (s : ByteArray) (w : World) (h : Bldr B bs w) (hlen : bs.length + s.size ≤ 140737488355328) (hBw : B ≤ w.heap.size) :
    Calls Tryd.prog 51 #[.pointer (some ⟨B, 0, none⟩), .string s] w fun e w' => e = .returned (.tuple #[.int .i64 (s.size : Int), .nilIface]) ∧ (Bldr B (bs ++ Lib.strCells s) w' ∧ Below B w w') :=
  (writeString_kept B bs s w h hlen hBw).mono fun _ _ ⟨h1, h2, h3, _⟩ => ⟨h1, h2, h3⟩

theorem bldr_new (w : World) : Bldr w.heap.size [] (w.alloc (.cells #[.pointer none, .slice none 0 0] 85)) :=
  .inl ⟨Nat.le_refl _, .slice none 0 0, heap_alloc_new _ _, World.ownsRow_nil _ _ _ _, by simp [Value.ownBlock]⟩
theorem builderAt_below {T e : TypeId} {B b : Nat} {p : Value} {bs : List Value} {w w' : World} (h : Lib.BuilderAt T e B b p bs w) (hb : Below w.heap.size w w') : Lib.BuilderAt T e B b p bs w' := by
  have hlt := h.lt
  obtain ⟨hB, v, hc, hown, hne⟩ := h
  exact ⟨hB, v, (hb.block _ hlt).trans hc, hown.kept (row := none) ⟨hb.os, hb.tape, hb.output, hb.size, fun k hk _ => hb.block k hk⟩ (by cases v.ownBlock <;> simp), hne⟩
theorem bldr_below {B : Nat} {bs : List Value} {w w' : World} (h : Bldr B bs w) (hb : Below w.heap.size w w') : Bldr B bs w' :=
  h.elim (fun x => .inl (builderAt_below x hb)) (fun x => .inr (builderAt_below x hb))
theorem strCells_app (a b : ByteArray) : Lib.strCells (a ++ b) = Lib.strCells a ++ Lib.strCells b := by simp [Lib.strCells]
theorem str_back (s : ByteArray) : (⟨s.data.toList.toArray⟩ : ByteArray) = s := by cases s; simp

end Go.Proofs.YtkfajimhooidcaaDoor
