/-
  FnExactReadWord: for every string the law returns true: ReadWord of the program and of the model give the same list and the same code, and the program's list is new memory each time. No condition.
-/
import Derived.Test.YtpjgegpcfjbceaaBase
import Derived.Maps.AppendAt
namespace Go.Proofs.Ytpjgegpcfjbceaa
open Go.RowKit Go.Deep Go.ChangeShapes Go.WideShapes

def okChar (c : UInt8) : Bool := decide (97 ≤ c.toNat ∧ c.toNat ≤ 99)
def rword (l : List UInt8) : List Int := l.map fun c => (c.toNat : Int) - 97
def readsTo (l : List UInt8) : List Int × Int :=
  if l = [45] then ([], 0) else if 1 ≤ l.length ∧ l.length ≤ 400 ∧ l.all okChar = true then (rword l, 0) else ([], 5)

theorem readsTo_dash : readsTo [45] = ([], 0) := rfl
theorem readsTo_ok {l : List UInt8} (h0 : ¬ l = [45]) (h1 : 1 ≤ l.length) (h2 : l.length ≤ 400) (h3 : l.all okChar = true) : readsTo l = (rword l, 0) := by
  unfold readsTo; rw [if_neg h0, if_pos ⟨h1, h2, h3⟩]
theorem readsTo_no {l : List UInt8} (h0 : ¬ l = [45]) (h : ¬ (1 ≤ l.length ∧ l.length ≤ 400 ∧ l.all okChar = true)) : readsTo l = ([], 5) := by
  unfold readsTo; rw [if_neg h0, if_neg h]
theorem okChar_t {c : UInt8} (h : 97 ≤ c.toNat ∧ c.toNat ≤ 99) : okChar c = true := by simp [okChar, h]
theorem okChar_f {c : UInt8} (h : ¬ (97 ≤ c.toNat ∧ c.toNat ≤ 99)) : okChar c = false := by simp only [okChar, decide_eq_false_iff_not]; exact h
theorem bytes_at {s : ByteArray} {k : Nat} (h : k < s.size) : s.data.toList[k]? = some s[k] := by
  rw [Array.getElem?_toList, Array.getElem?_eq_getElem h]; rfl
theorem bytes_len (s : ByteArray) : s.data.toList.length = s.size := rfl
theorem chars_snoc {l : List UInt8} {k : Nat} {c : UInt8} (h : (l.take k).all okChar = true) (hx : l[k]? = some c) (hp : okChar c = true) : (l.take (k + 1)).all okChar = true := by
  rw [List.take_add_one, hx]
  simp [hp]
  simpa using h
theorem chars_stop {l : List UInt8} {k : Nat} {c : UInt8} (hx : l[k]? = some c) (hp : okChar c = false) : l.all okChar = false := by
  rw [List.all_eq_false]
  exact ⟨c, List.mem_of_getElem? hx, by simp [hp]⟩
theorem rword_snoc {l : List UInt8} {k : Nat} {c : UInt8} (hx : l[k]? = some c) : (rword (l.take (k + 1))).map (Value.int .i64) = (rword (l.take k)).map (Value.int .i64) ++ [Value.int .i64 ((c.toNat : Int) - 97)] := by
  rw [take_snoc hx]; simp [rword]
theorem rword_below (l : List UInt8) : (rword l).all (belowB 3) = l.all okChar := by
  simp only [rword, List.all_map]
  congr 1
  funext c
  simp only [Function.comp, belowB, okChar]
  congr 1
  exact propext ⟨fun h => ⟨by omega, by omega⟩, fun h => ⟨by omega, by omega⟩⟩

theorem ones_i64 (xs : List Int) : ∀ u ∈ xs.map (Value.int .i64), u.oneCell' = true := ints_oneCell .i64 xs

theorem own_none (w : World) (base : Nat) (hb : base ≤ w.heap.size) : (w.alloc (.cells #[] 2)).ownsRow base 2 1 (.slice (some ⟨w.heap.size, 0, none⟩) 0 0) 0 [] :=
  World.ownsRow_lit (e := 2) w #[] 0 hb (Nat.zero_le _) rfl

def ReadsOut (s : ByteArray) (w : World) (e : Ending) (w' : World) : Prop :=
  ∃ v, e = .returned (.tuple #[v, .int .i64 (readsTo s.data.toList).2]) ∧ w'.ownsRow w.heap.size 2 1 v (readsTo s.data.toList).1.length ((readsTo s.data.toList).1.map (Value.int .i64)) ∧ Below w.heap.size w w'

theorem readsOut_mk {s : ByteArray} {w w' : World} {xs : List Int} {v : Value} {c : Int} (h : readsTo s.data.toList = (xs, c)) (ho : w'.ownsRow w.heap.size 2 1 v xs.length (xs.map (Value.int .i64))) (hb : Below w.heap.size w w') :
    ReadsOut s w (.returned (.tuple #[v, .int .i64 c])) w' := ⟨v, by rw [h], by rw [h]; exact ho, hb⟩

set_option maxHeartbeats 1000000 in
set_option maxRecDepth 100000 in
theorem specReadWord_any (s : ByteArray) (w : World) (hn : s.size ≤ 1048576) : Calls Try.prog 51 #[.string s] w (ReadsOut s w) := by
  have HN := Lib.hid hn
  have hn' : s.size ≤ 4611686018427387904 := by omega
  clear hn
  obtain ⟨i0, hi, hz0, hz1, hz2⟩ := info_parts info_int64
  by_cases hd : s.data.toList = [45]
  · have hd' : (s.toList == [45]) = true := by rw [ByteArray.toList_eq, hd]; rfl
    go_enter Try.func51, Try.ntmps51
    go_wp2
    go_ret2
    exact readsOut_mk (xs := []) (by rw [hd]; rfl) (own_none w _ (Nat.le_refl _)) ((Below.refl _ _).alloc (Nat.le_refl _) _)
  · have hd' : (s.toList == [45]) = false := by rw [ByteArray.toList_eq, beq_eq_false_iff_ne]; exact hd
    have HD := Lib.hid hd
    clear hd
    go_enter Try.func51, Try.ntmps51
    go_wp2
    go_loopw [4, 5] (fun v i wr => ∃ k : Nat, k ≤ s.size ∧ i = .int .i64 k ∧ (s.data.toList.take k).all okChar = true ∧ wr.ownsRow w.heap.size 2 1 v k ((rword (s.data.toList.take k)).map (Value.int .i64)) ∧ Below w.heap.size w wr)
      (fun _ i _ => s.size - (intOf i).toNat)
    case atStart => exact ⟨0, Nat.zero_le _, rfl, by simp, by simpa [rword] using own_none w _ (Nat.le_refl _), (Below.refl _ _).alloc (Nat.le_refl _) _⟩
    case round =>
      obtain ⟨k, hk, rfl, hall, hown, hbel⟩ := hrel
      obtain ⟨A3, c3, rfl⟩ := own_form hown
      have HO := Lib.hid hown
      have HB := Lib.hid hbel
      have HA := Lib.hid hall
      clear hown hbel hall
      by_cases hlt : k < s.size
      · have hk0 : (0 : Int) ≤ (k : Int) := by omega
        have hkn : (k : Int) < (s.size : Int) := by omega
        by_cases h97 : 97 ≤ s[k].toNat
        · have h97' : (97 : Int) ≤ (s[k].toNat : Int) := by omega
          have h97d : decide ((s[k].toNat : Int) < 97) = false := by simp; omega
          by_cases h99 : s[k].toNat ≤ 99
          · have h99' : (s[k].toNat : Int) ≤ 99 := by omega
            have h99d : decide ((99 : Int) < (s[k].toNat : Int)) = false := by simp; omega
            go_wp2_with (at_builtin; (refine wpList_append_own _ rfl _ _ 28 rfl w.heap.size 2 i0 (.int .i64 0) 1 8 Try.underlying28 hi hz0 hz1 hz2 rfl (by decide) _ _ _ rfl (HO.out.alloc _) ⟨wr.heap.size, 0, none⟩ 1 1 [.int .i64 ((s[k].toNat : Int) - 97)] rfl rfl (cell_one_new _ _ _) (ones_i64 [(s[k].toNat : Int) - 97]) (by unfold maxLen; omega) (by have := HN.out; omega) (by rw [World.size_alloc]; exact Nat.le_succ_of_le HB.out.size) ?_))
            intro v' w1 hown' hgrow _
            have HO1 := Lib.hid hown'
            have HG1 := Lib.hid hgrow
            clear hown' hgrow
            go_wp2
            go_roundw
            case rel =>
              refine ⟨k + 1, by omega, by go_num, chars_snoc HA.out (bytes_at hlt) (okChar_t ⟨h97, h99⟩), by rw [rword_snoc (bytes_at hlt)]; exact HO1.out, ?_⟩
              exact (HB.out.alloc HB.out.size _).grown HG1.out (by rw [World.size_alloc]; exact Nat.le_succ_of_le HB.out.size) (fun j hj => (HO.out.lt j hj).1)
            case measure => simp [intOf]; omega
          · have h99' : (99 : Int) < (s[k].toNat : Int) := by omega
            go_wp2
            go_ret2
            refine readsOut_mk (xs := []) (readsTo_no HD.out ?_) (own_none wr _ HB.out.size) (HB.out.alloc HB.out.size _)
            rintro ⟨_, _, h⟩
            rw [chars_stop (bytes_at hlt) (okChar_f (by omega))] at h
            cases h
        · have h97' : (s[k].toNat : Int) < 97 := by omega
          go_wp2
          go_ret2
          refine readsOut_mk (xs := []) (readsTo_no HD.out ?_) (own_none wr _ HB.out.size) (HB.out.alloc HB.out.size _)
          rintro ⟨_, _, h⟩
          rw [chars_stop (bytes_at hlt) (okChar_f (by omega))] at h
          cases h
      · have hkn : k = s.size := by omega
        have HA' : Hid (s.data.toList.all okChar = true) := by
          have h := HA.out
          rw [hkn, List.take_of_length_le (Nat.le_of_eq (bytes_len s))] at h
          exact h
        have HO' : Hid (wr.ownsRow w.heap.size 2 1 (.slice A3 s.size c3) s.size ((rword s.data.toList).map (Value.int .i64))) := by
          have h := HO.out
          rw [hkn, List.take_of_length_le (Nat.le_of_eq (bytes_len s))] at h
          exact h
        clear HA HO
        subst hkn
        by_cases hin : 1 ≤ s.size ∧ s.size ≤ 400
        · have hb : inB 1 400 (s.size : Int) = true := inB_t (by omega)
          go_wp2_with (go_at_call 79; refine (l00In_any _ _ _ _).mono ?_; rintro e w' ⟨rfl, rfl⟩)
          go_ret2
          refine readsOut_mk (xs := rword s.data.toList) (readsTo_ok HD.out (by rw [bytes_len]; exact hin.1) (by rw [bytes_len]; exact hin.2) HA'.out) ?_ HB.out
          rw [show (rword s.data.toList).length = s.size from by simp [rword]]
          exact HO'.out
        · have hb : inB 1 400 (s.size : Int) = false := inB_f (by omega)
          go_wp2_with (go_at_call 79; refine (l00In_any _ _ _ _).mono ?_; rintro e w' ⟨rfl, rfl⟩)
          go_ret2
          refine readsOut_mk (xs := []) (readsTo_no HD.out ?_) (own_none wr _ HB.out.size) (HB.out.alloc HB.out.size _)
          rw [bytes_len]
          exact fun h => hin ⟨h.1, h.2.1⟩

theorem own_nil (w : World) (base : Nat) : w.ownsRow base 2 1 (.slice none 0 0) 0 [] := World.ownsRow_nil _ _ _ _

theorem reads_step {s : ByteArray} {k : Nat} (h : k < s.size) :
    ((rword (s.data.toList.take k)).map (Value.int .i64) ++ List.replicate (s.size - k) (Value.int .i64 0)).set k (.int .i64 ((s[k].toNat : Int) - 97)) = (rword (s.data.toList.take (k + 1))).map (Value.int .i64) ++ List.replicate (s.size - (k + 1)) (.int .i64 0) := by
  have hl : (rword (s.data.toList.take k)).length = k := by unfold rword; rw [List.length_map, List.length_take, bytes_len]; omega
  rw [take_snoc (bytes_at h), show s.size - k = (s.size - (k + 1)) + 1 from by omega, List.replicate_succ, List.set_append_right _ _ (by rw [List.length_map, hl]; exact Nat.le_refl _), List.length_map, hl, Nat.sub_self, List.set_cons_zero]
  simp [rword]

set_option maxHeartbeats 1000000 in
set_option maxRecDepth 100000 in
theorem implReadWord_any (s : ByteArray) (w : World) (hn : s.size ≤ 4611686018427387904) : Calls Try.prog 52 #[.string s] w (ReadsOut s w) := by
  by_cases hd : s.data.toList = [45]
  · have hd' : (s.toList == [45]) = true := by rw [ByteArray.toList_eq, hd]; rfl
    go_enter Try.func52, Try.ntmps52
    go_wp2
    go_ret2
    exact readsOut_mk (xs := []) (by rw [hd]; rfl) (own_nil w _) (Below.refl _ _)
  · have hd' : (s.toList == [45]) = false := by rw [ByteArray.toList_eq, beq_eq_false_iff_ne]; exact hd
    have HD := Lib.hid hd
    clear hd
    by_cases h0 : s.size = 0
    · have hs : s.data.toList = [] := List.eq_nil_of_length_eq_zero h0
      have he : s.toList = [] := by rw [ByteArray.toList_eq, hs]
      have he' : (s.toList == []) = true := by rw [he]; rfl
      have he2 : s.toList.isEmpty = true := by rw [he]; rfl
      clear hd'
      have hd2 : (([] : List UInt8) == [45]) = false := rfl
      go_enter Try.func52, Try.ntmps52
      go_wp2
      go_ret2
      refine readsOut_mk (xs := []) (readsTo_no HD.out ?_) (own_nil w _) (Below.refl _ _)
      rw [bytes_len]
      omega
    · have hne : ¬ s.toList = [] := by rw [ByteArray.toList_eq]; exact fun h => h0 (by rw [← bytes_len, h]; rfl)
      have he' : (s.toList == []) = false := by rw [beq_eq_false_iff_ne]; exact hne
      have he2 : s.toList.isEmpty = false := by rw [List.isEmpty_eq_false_iff]; exact hne
      have HE := Lib.hid hne
      clear hne
      by_cases hlong : s.size ≤ 400
      · have hld : decide ((400 : Int) < (s.size : Int)) = false := by simp; omega
        have hmk := run_make_row' (P := Try.prog) 28 2 (.int .i64 0) 8 Try.underlying28 info_int64 rfl .i64 .i64 s.size (by omega) (by omega)
        go_enter Try.func52, Try.ntmps52
        go_wp2
        clear hmk
        go_loopw [20] (fun i wr => ∃ k : Nat, k ≤ s.size ∧ i = .int .i64 k ∧ wr.ownsRow w.heap.size 2 1 (.slice (some ⟨w.heap.size, 0, none⟩) s.size s.size) s.size ((rword (s.data.toList.take k)).map (Value.int .i64) ++ List.replicate (s.size - k) (.int .i64 0)) ∧ Below w.heap.size w wr)
          (fun i _ => s.size - (intOf i).toNat)
        case atStart =>
          refine ⟨0, Nat.zero_le _, rfl, ?_, (Below.refl _ _).alloc (Nat.le_refl _) _⟩
          have hs : (madeCells #[Value.int .i64 0] s.size).toList = (rword (s.data.toList.take 0)).map (Value.int .i64) ++ List.replicate (s.size - 0) (.int .i64 0) := by rw [toList_madeCells_one]; simp [rword]
          rw [← hs]
          exact World.ownsRow_lit w _ _ (Nat.le_refl _) (by unfold maxLen; omega) (by rw [size_madeCells, Nat.mul_one])
        case round =>
          obtain ⟨k, hk, rfl, hown, hbel⟩ := hrel
          have HO := Lib.hid hown
          have HB := Lib.hid hbel
          by_cases hlt : k < s.size
          · obtain ⟨u, hu⟩ : ∃ u, wr.cell? ⟨w.heap.size, k, none⟩ = some u := by
              rw [hown.cellAt k (by omega)]
              exact ⟨_, List.getElem?_eq_getElem (by rw [hown.1]; omega)⟩
            have hf : wr.frozen? ⟨w.heap.size, k, none⟩ = false := hown.frozenAt k
            have hk0 : (0 : Int) ≤ (k : Int) := by omega
            have hkn : (k : Int) < (s.size : Int) := by omega
            have hc0 : (s[k].toNat : Int) ≤ 255 := by have := s[k].toNat_lt; omega
            clear hown hbel
            go_wp2
            go_roundw
            case rel =>
              refine ⟨k + 1, by omega, by go_num, ?_, HB.out.setCell (Nat.le_refl _) _⟩
              rw [← reads_step hlt]
              exact (HO.out.stored k (.int .i64 ((s[k].toNat : Int) - 97))).1
            case measure => simp [intOf]; omega
          · have hkn : k = s.size := by omega
            have HO' : Hid (wr.ownsRow w.heap.size 2 1 (.slice (some ⟨w.heap.size, 0, none⟩) s.size s.size) s.size ((rword s.data.toList).map (Value.int .i64))) := by
              have h := HO.out
              rw [hkn, List.take_of_length_le (Nat.le_of_eq (bytes_len s)), Nat.sub_self, List.replicate_zero, List.append_nil] at h
              exact h
            clear HO hown hbel
            subst hkn
            have hrl : (rword s.data.toList).length = s.size := by simp [rword]
            have HR := Lib.hid hrl
            clear hrl
            rcases hall : (rword s.data.toList).all (belowB 3) with _ | _
            · go_wp2_with (go_at_call 86; refine (areBelow_any _ _ _ (rword s.data.toList) _ _ (NumsAt.own HO'.out HR.out rfl) hn).mono ?_; rintro e w' ⟨rfl, rfl⟩)
              go_ret2
              refine readsOut_mk (xs := []) (readsTo_no HD.out ?_) (own_nil wr _) HB.out
              rintro ⟨_, _, h⟩
              rw [← rword_below, hall] at h
              cases h
            · go_wp2_with (go_at_call 86; refine (areBelow_any _ _ _ (rword s.data.toList) _ _ (NumsAt.own HO'.out HR.out rfl) hn).mono ?_; rintro e w' ⟨rfl, rfl⟩)
              go_ret2
              refine readsOut_mk (xs := rword s.data.toList) (readsTo_ok HD.out (by rw [bytes_len]; omega) (by rw [bytes_len]; exact hlong) (by rw [← rword_below]; exact hall)) ?_ HB.out
              rw [HR.out]
              exact HO'.out
      · have hld : (400 : Int) < (s.size : Int) := by omega
        go_enter Try.func52, Try.ntmps52
        go_wp2
        go_ret2
        refine readsOut_mk (xs := []) (readsTo_no HD.out ?_) (own_nil w _) (Below.refl _ _)
        rw [bytes_len]
        exact fun h => hlong h.2.1

theorem readsOut_code (l : List UInt8) : (readsTo l).2 = 0 ∨ (readsTo l).2 = 5 := by
  unfold readsTo
  split
  · exact .inl rfl
  · split
    · exact .inl rfl
    · exact .inr rfl
theorem readsTo_len (l : List UInt8) : (readsTo l).1.length ≤ 400 := by
  unfold readsTo
  split
  · simp
  · split
    · rename_i h; simpa [rword] using h.2.1
    · simp

theorem own_below {w w' : World} {base : Nat} {e : TypeId} {v : Value} {n : Nat} {cs : List Value} (h : w.ownsRow base e 1 v n cs) (hb : Below w.heap.size w w') : w'.ownsRow base e 1 v n cs :=
  h.kept (row := none) ⟨hb.os, hb.tape, hb.output, hb.size, fun k hk _ => hb.block k hk⟩ (by
    rcases hv : v.ownBlock with _ | g
    · exact .inl rfl
    · exact .inr (by simp))
theorem own_grown {w w' : World} {base : Nat} {e : TypeId} {v : Value} {n : Nat} {cs : List Value} {row : Option Nat} {B : Nat} (h : w.ownsRow base e 1 v n cs) (hg : w.grownBy w' row) (hlt : ∀ k, v.ownBlock = some k → k < B) (hr : ∀ k, row = some k → B ≤ k) : w'.ownsRow base e 1 v n cs :=
  h.kept hg (by
    rcases hv : v.ownBlock with _ | g
    · exact .inl rfl
    · exact .inr (fun e => by have h1 := hlt g hv; have h2 := hr g e.symm; omega))
theorem below_grown {a w w' : World} {row : Option Nat} (h : Below a.heap.size a w) (hg : w.grownBy w' row) (hr : ∀ k, row = some k → a.heap.size ≤ k) : Below a.heap.size a w' := h.grown hg h.size hr

namespace fnExactReadWord
open Go.ChangeAt
open Go.ChangeMaps (open_string shut_string)

set_option maxHeartbeats 2000000 in
set_option maxRecDepth 100000 in
theorem walk (s : ByteArray) (w : World) :
    Calls Try.prog 11 #[.string s] w fun e w' => e = .returned (.bool true) ∧ Below w.heap.size w w' := by
  by_cases hbig : s.size ≤ 1048576
  · have hsmall : decide ((1048576 : Int) < (s.size : Int)) = false := by simp; omega
    have hn' : s.size ≤ 4611686018427387904 := by omega
    have HN := Lib.hid hbig
    have hlen := readsTo_len s.data.toList
    obtain ⟨xs, hxs⟩ : ∃ xs, xs = (readsTo s.data.toList).1 := ⟨_, rfl⟩
    obtain ⟨c, hc⟩ : ∃ c, c = (readsTo s.data.toList).2 := ⟨_, rfl⟩
    rw [← hxs] at hlen
    have HX := Lib.hid hxs
    have HC := Lib.hid hc
    clear hbig hxs hc
    go_enter Try.func11, Try.ntmps11
    go_wp2_with fail
    refine (specReadWord_any _ _ HN.out).mono ?_
    rintro e w1 ⟨v1, rfl, o1, b1⟩
    rw [← HX.out] at o1
    rw [← HC.out]
    obtain ⟨A1, c1, rfl⟩ := own_form o1
    have O1 := Lib.hid o1; have B1 := Lib.hid b1; clear o1 b1
    go_wp2_with fail
    refine (implReadWord_any _ _ hn').mono ?_
    rintro e w2 ⟨v2, rfl, o2, b2⟩
    rw [← HX.out] at o2
    rw [← HC.out]
    obtain ⟨A2, c2, rfl⟩ := own_form o2
    have L1 := Lib.hid (fun k hk => (O1.out.lt k hk).2)
    have O1 := Lib.hid (own_below O1.out b2)
    have O2 := Lib.hid o2; have B2 := Lib.hid (below_then B1.out b2)
    have Z2 := Lib.hid b2.size; clear o2 b2
    go_wp2_with fail
    refine (eqInt64S_any _ _ _ _ _ _ _ _ _ (NumsAt.own O2.out rfl rfl) (NumsAt.own O1.out rfl rfl) (by omega) (by omega)).mono ?_
    rintro e w3 ⟨rfl, m, rfl⟩
    rw [sameB_t rfl]
    have hk : (0 : Int) ≤ 1 + (xs.length : Int) := by omega
    have hk2 : (1 : Int) + (xs.length : Int) ≤ 4611686018427387904 := by omega
    go_wp2_with fail
    refine (markInt64S_any w1.heap.size A2 xs.length c2 _ 1 (w2.drewN m) O2.out (by omega) hk2).mono ?_
    rintro e w4 ⟨rfl, o4, g4, z4⟩
    have hr : ∀ k, (Value.slice A2 xs.length c2).ownBlock = some k → w1.heap.size ≤ k := fun k hk => (O2.out.lt k hk).1
    have O1 := Lib.hid (own_grown (w := w2.drewN m) O1.out g4 L1.out hr)
    have O4 := Lib.hid o4
    have B4 := Lib.hid (below_grown (below_drewN' B2.out m) g4 (fun k hk => Nat.le_trans B1.out.size (hr k hk)))
    clear o4 g4 z4 hr
    go_wp2_with fail
    refine (heldInt64S_any A2 xs.length c2 1 w4 (NumsAt.own O4.out (marks_length _ _) rfl) (by omega) hk2).mono ?_
    rintro e w5 ⟨rfl, rfl⟩
    go_wp2_with fail
    refine (implReadWord_any _ _ hn').mono ?_
    rintro e w6 ⟨v6, rfl, o6, b6⟩
    rw [← HX.out] at o6
    rw [← HC.out]
    obtain ⟨A6, c6, rfl⟩ := own_form o6
    have O1 := Lib.hid (own_below O1.out b6)
    have O4 := Lib.hid (own_below O4.out b6)
    have O6 := Lib.hid o6
    have B6 := Lib.hid (below_then B4.out b6)
    clear o6 b6
    go_wp2_with fail
    refine (eqInt64S_any _ _ _ _ _ _ _ _ _ (NumsAt.own O6.out rfl rfl) (NumsAt.own O1.out rfl rfl) (by omega) (by omega)).mono ?_
    rintro e w7 ⟨rfl, m7, rfl⟩
    rw [sameB_t rfl]
    go_wp2_with fail
    refine (heldInt64S_any A2 xs.length c2 1 (w6.drewN m7) (NumsAt.own (w := w6.drewN m7) O4.out (marks_length _ _) rfl) (by omega) hk2).mono ?_
    rintro e w8 ⟨rfl, rfl⟩
    go_wp2_with fail
    go_ret
    exact ⟨rfl, below_drewN' B6.out _⟩
  · have hbig' : (1048576 : Int) < (s.size : Int) := by omega
    go_enter Try.func11, Try.ntmps11
    go_wp2
    go_ret
    exact ⟨rfl, Below.refl _ _⟩

set_option maxRecDepth 100000 in
theorem lifted (os : Os) (started : os.Started) (H : Type) (enc : TypeId × Value → H) :
    ReturnsInHanded {} Try.checked os 11 .any (Rows.fnExactReadWordSpec.pre6 enc Try.prog Try.f11 Rows.fnExactReadWordRow.domain false) (Rows.fnExactReadWordSpec.post enc Try.prog Try.f11 false true false false) := by
  refine returnsInHanded_of_change (C := Try.checked) own started (by kernel_rfl) Try.func11
    (ChangeSpec.witness6 (enc := enc) (C := Try.checked) false ⟨#[], #[.string ByteArray.empty], []⟩ 8 (by kernel_rfl) (by kernel_rfl) (by kernel_rfl) (by kernel_rfl)) ?_
  intro W base args ds gs before hval0 hW hcnd _
  have hval : ∀ (j : Nat) t v, Try.f11.params[j]? = some t → args[j]? = some v → Value.okWide Try.prog W .any base t v := hval0
  have hW' := hW
  obtain ⟨p, q, hA0, hV, rfl, hfz, hnd⟩ := hW
  have hA : DataW.TrodAll enc Try.prog W 0 (fun _ => true) true Try.f11.params.toList args.toList ds p := hA0
  rw [Try.params11] at hA hval
  obtain ⟨v0, vs0, d0, ds0, p0, q0, hargs, rfl, rfl, h0, r0⟩ := trodAll_cons hA
  obtain ⟨rfl, rfl, rfl⟩ := trodAll_nil r0
  obtain rfl : args = #[v0] := by cases args; simp_all
  obtain ⟨rfl, rfl⟩ := trodVars_none hV
  have lt0 : ∀ x ∈ p0, x.block < W.heap.size := by obtain ⟨m, hm⟩ := h0; exact DataW.trod_lt m _ _ _ hm
  have k0 := h0
  obtain ⟨s, rfl, e1, e2, hs⟩ := open_string Try.underlying9 (hval 0 9 v0 rfl rfl) h0
  clear hA0 hval0
  refine (walk s W).mono fun e W' ⟨he, bel⟩ => ?_
  subst he
  exact ⟨_, rfl, _, _, _, [], _, [], hW', trodAll_mk1 (shut_bool Try.underlying4 _), (trodAll_cons_mk (Below.trod laidOut (by kernel_rfl) (of_decide_eq_true (by kernel_rfl)) k0 bel lt0) trodAll_mk0), rfl, bel.frame _, fun h => by cases h⟩

theorem over : Rows.fnExactReadWordRow.holds Try.pinned (OpenSpec.ofChange Rows.fnExactReadWordSpec) :=
  OpenClaim.holds_of_wide 11 Try.f11 rfl rfl rfl rfl rfl rfl rfl ⟨rfl, rfl, rfl, rfl, rfl⟩ rfl rfl rfl rfl rfl (by kernel_rfl) Try.func11 (by kernel_rfl)
    (of_decide_eq_true (by kernel_rfl)) (by unfold Func.isWrapper; first | (rw [if_pos (by decide +kernel)]; kernel_rfl) | (rw [if_neg (by decide +kernel)]; exact ⟨rfl, rfl⟩))
    (fun os started H enc _ => lifted os started H enc)

/-- The statement. -/
theorem proved : Rows.FnExactReadWordSaid := over
#print axioms proved
end fnExactReadWord
end Go.Proofs.Ytpjgegpcfjbceaa
