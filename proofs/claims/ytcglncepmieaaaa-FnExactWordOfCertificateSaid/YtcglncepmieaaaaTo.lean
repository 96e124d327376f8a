/-
  Where words lead: the contracts of l01To and l01Action, and of the model's ActionOf.
-/
import Derived.Test.YtcglncepmieaaaaWords
import Derived.Maps.AppendAt
namespace Go.Proofs.Ytcglncepmieaaaa
open Go.RowKit Go.Deep Go.ChangeShapes Go.WideShapes

/-- A valid automaton with n states and m letters. -/
structure Good (n m : Nat) (xss : List (List Int)) : Prop where
  letters : xss.length = m
  n1 : 1 ≤ n
  n10 : n ≤ 10
  m1 : 1 ≤ m
  m3 : m ≤ 3
  rows : ∀ (r : Nat) (xs : List Int), xss[r]? = some xs → xs.length = n ∧ ∀ x ∈ xs, 0 ≤ x ∧ x < (n : Int)

theorem good_of {s : Int} {m : Nat} {xss : List (List Int)} (h : okA s xss = true) (hm : xss.length = m) : ∃ n : Nat, s = (n : Int) ∧ Good n m xss := by
  obtain ⟨h1, h2, h3⟩ := okA_parts h
  obtain ⟨n, rfl⟩ : ∃ n : Nat, s = (n : Int) := ⟨s.toNat, by omega⟩
  exact ⟨n, rfl, hm, by omega, by omega, by omega, by omega, fun r xs hx => ⟨by have := (h3 r xs hx).1; omega, (h3 r xs hx).2⟩⟩

/-- The state to which the letter x leads from the state q. -/
def nx (xss : List (List Int)) (x q : Nat) : Nat := ((xss.getD x []).getD q 0).toNat
/-- The state to which a word leads from the state q. -/
def toS (xss : List (List Int)) (ws : List Int) (q : Nat) : Nat := ws.foldl (fun q x => nx xss x.toNat q) q
def actS (xss : List (List Int)) (n : Nat) (ws : List Int) : List Int := (List.range n).map fun q => ((toS xss ws q : Nat) : Int)

theorem Good.row {n m : Nat} {xss : List (List Int)} (h : Good n m xss) {x : Nat} (hx : x < m) : ∃ row, xss[x]? = some row ∧ row.length = n := by
  have hl : x < xss.length := by rw [h.letters]; exact hx
  exact ⟨_, List.getElem?_eq_getElem hl, (h.rows x _ (List.getElem?_eq_getElem hl)).1⟩
theorem Good.next {n m : Nat} {xss : List (List Int)} (h : Good n m xss) {x q : Nat} {row : List Int} (hx : xss[x]? = some row) (hq : q < n) : row[q]? = some ((nx xss x q : Nat) : Int) ∧ nx xss x q < n := by
  obtain ⟨hl, hr⟩ := h.rows x row hx
  have hq' : q < row.length := by rw [hl]; exact hq
  have h1 := hr row[q] (List.getElem_mem hq')
  have e : nx xss x q = (row[q]).toNat := by simp [nx, List.getD, hx, List.getElem?_eq_getElem hq']
  rw [e, List.getElem?_eq_getElem hq']
  refine ⟨by congr 1; omega, by omega⟩
theorem Good.nextD {n m : Nat} {xss : List (List Int)} (h : Good n m xss) {x q : Nat} (hx : x < m) (hq : q < n) : nx xss x q < n := by
  obtain ⟨row, hr, _⟩ := h.row hx
  exact (h.next hr hq).2
theorem toS_snoc {xss : List (List Int)} {ws : List Int} {k : Nat} {x : Int} (hx : ws[k]? = some x) (q : Nat) : toS xss (ws.take (k + 1)) q = nx xss x.toNat (toS xss (ws.take k) q) := by
  rw [take_snoc hx]; simp [toS, List.foldl_append]
theorem Good.to {n m : Nat} {xss : List (List Int)} (h : Good n m xss) : ∀ (ws : List Int) (q : Nat), (∀ x ∈ ws, 0 ≤ x ∧ x < (m : Int)) → q < n → toS xss ws q < n
  | [], q, _, hq => hq
  | x :: ws, q, hw, hq => by
    have hx := hw x (by simp)
    show toS xss ws (nx xss x.toNat q) < n
    exact h.to ws _ (fun y hy => hw y (by simp [hy])) (h.nextD (by omega) hq)

def ListOut (L : List Int) (c : Int) (w : World) (e : Ending) (w' : World) : Prop :=
  ∃ v, e = .returned (.tuple #[v, .int .i64 c]) ∧ w'.ownsRow w.heap.size 2 1 v L.length (L.map (Value.int .i64)) ∧ Below w.heap.size w w'
theorem listOut_mk {w w' : World} {xs : List Int} {v : Value} {c : Int} (ho : w'.ownsRow w.heap.size 2 1 v xs.length (xs.map (Value.int .i64))) (hb : Below w.heap.size w w') :
    ListOut xs c w (.returned (.tuple #[v, .int .i64 c])) w' := ⟨v, rfl, ho, hb⟩
theorem own_none (w : World) (base : Nat) (hb : base ≤ w.heap.size) : (w.alloc (.cells #[] 2)).ownsRow base 2 1 (.slice (some ⟨w.heap.size, 0, none⟩) 0 0) 0 [] :=
  World.ownsRow_lit (e := 2) w #[] 0 hb (Nat.zero_le _) rfl
theorem own_none' {w : World} {base g : Nat} (hg : g = w.heap.size) (hb : base ≤ w.heap.size) : (w.alloc (.cells #[] 2)).ownsRow base 2 1 (.slice (some ⟨g, 0, none⟩) 0 0) 0 [] := by subst hg; exact own_none w base hb
theorem ones_i64 (xs : List Int) : ∀ u ∈ xs.map (Value.int .i64), u.oneCell' = true := ints_oneCell .i64 xs

set_option maxHeartbeats 1000000 in
theorem l01To_any (p : Nat) (A A' : Option Addr) (n m cap l cap' q : Nat) (xss : List (List Int)) (ws : List Int) (w : World) (hg : Good n m xss) (c1 : w.cell? ⟨p, 1, none⟩ = some (.slice A m cap)) (h : RowsAt w A m xss) (h' : NumsAt w A' l ws)
    (hw : ∀ x ∈ ws, 0 ≤ x ∧ x < (m : Int)) (hq : q < n) (hl : l ≤ 4611686018427387904) :
    Calls Try.prog 126 #[.pointer (some ⟨p, 0, none⟩), .int .i64 (q : Int), .slice A' l cap'] w fun e w' => e = .returned (.int .i64 ((toS xss ws q : Nat) : Int)) ∧ ∃ k, w' = w.drewN k := by
  have HG := Lib.hid hg
  have HWS := Lib.hid hw
  have HL := Lib.hid h'.1
  clear hg hw
  go_enter Try.func126, Try.ntmps126
  go_wp2_with fail
  go_loopw [1, 7] (fun sv i wr => ∃ k d r : Nat, k ≤ l ∧ i = .int .i64 k ∧ sv = .int .i64 (r : Int) ∧ r < n ∧ r = toS xss (ws.take k) q ∧ wr = w.drewN d) (fun _ i _ => l - (intOf i).toNat)
  case atStart => exact ⟨0, 0, q, Nat.zero_le _, rfl, rfl, hq, rfl, rfl⟩
  case round =>
    obtain ⟨k, d, r, hk, rfl, rfl, hr, hrr, hww⟩ := hrel
    have HRR := Lib.hid hrr
    have HW := Lib.hid hww
    have R1 : RowsAt wr A m xss := by rw [hww]; exact h.drewN d
    have N1 : NumsAt wr A' l ws := by rw [hww]; exact h'.drewN d
    have d1 : wr.cell? ⟨p, 1, none⟩ = some (.slice A m cap) := by rw [hww]; exact c1
    clear hrr hww
    by_cases hlt : k < l
    · obtain ⟨x, b, off, hx, rfl, hc⟩ := N1.at_ hlt
      have hxm := HWS.out x (List.mem_of_getElem? hx)
      obtain ⟨xn, rfl⟩ : ∃ xn : Nat, x = (xn : Int) := ⟨x.toNat, by omega⟩
      have hxn : xn < m := by omega
      obtain ⟨row, b2, off2, A2, c2, hrow, rfl, hc2, hnum2⟩ := R1.at_ hxn
      have hrl : row.length = n := (HG.out.rows xn row hrow).1
      obtain ⟨e, b3, off3, he, rfl, hc3⟩ := hnum2.at_ (show r < row.length by omega)
      have hnx := HG.out.next hrow hr
      rw [he] at hnx
      obtain ⟨hnx1, hnx2⟩ := hnx
      obtain rfl := Option.some.inj hnx1
      have HX := Lib.hid hx
      have HNX := Lib.hid hnx2
      have i1 : (0 : Int) ≤ (k : Int) := by omega
      have i2 : (k : Int) < (l : Int) := by omega
      have i3 : (0 : Int) ≤ (xn : Int) := by omega
      have i4 : (xn : Int) < (m : Int) := by omega
      have i5 : (0 : Int) ≤ (r : Int) := by omega
      have i6 : (r : Int) < (row.length : Int) := by omega
      clear hx hxm hrow hnum2 hrl he hnx1 hnx2 R1 N1
      go_wp2_with fail
      go_quiet (fail)
      go_wp2_with fail
      go_roundw
      case rel => exact ⟨k + 1, _, nx xss xn r, by omega, by go_num, rfl, HNX.out, by rw [toS_snoc HX.out, ← HRR.out]; rfl, by rw [HW.out, World.drewN_drewN]⟩
      case measure => simp [intOf]; omega
    · go_wp2
      go_ret
      have hkl : k = l := by omega
      subst hkl
      exact ⟨ret_int (by rw [HRR.out, List.take_of_length_le (Nat.le_of_eq HL.out)]), _, HW.out⟩

def actTo (xss : List (List Int)) (ws : List Int) (k : Nat) : List Int := (List.range k).map fun q => ((toS xss ws q : Nat) : Int)
theorem actTo_len (xss : List (List Int)) (ws : List Int) (k : Nat) : (actTo xss ws k).length = k := by simp [actTo]
theorem actTo_succ (xss : List (List Int)) (ws : List Int) (k : Nat) : (actTo xss ws (k + 1)).map (Value.int .i64) = (actTo xss ws k).map (Value.int .i64) ++ [Value.int .i64 ((toS xss ws k : Nat) : Int)] := by
  simp [actTo, List.range_succ]

/-- What ActionOf answers. -/
def actionOf (s : Int) (xss : List (List Int)) (ws : List Int) : List Int × Int :=
  if okA s xss = true then (if isWordB (xss.length : Int) ws = true then (actTo xss ws s.toNat, 0) else ([], 2)) else ([], 1)
theorem actionOf_1 {s : Int} {xss : List (List Int)} {ws : List Int} (h : okA s xss = false) : actionOf s xss ws = ([], 1) := by unfold actionOf; rw [if_neg (by simp [h])]
theorem actionOf_2 {s : Int} {xss : List (List Int)} {ws : List Int} (h : okA s xss = true) (h' : isWordB (xss.length : Int) ws = false) : actionOf s xss ws = ([], 2) := by unfold actionOf; rw [if_pos h, if_neg (by simp [h'])]
theorem actionOf_0 {s : Int} {xss : List (List Int)} {ws : List Int} (h : okA s xss = true) (h' : isWordB (xss.length : Int) ws = true) : actionOf s xss ws = (actTo xss ws s.toNat, 0) := by unfold actionOf; rw [if_pos h, if_pos h']
theorem word_letters {m : Int} {ws : List Int} (h : isWordB m ws = true) : ∀ x ∈ ws, 0 ≤ x ∧ x < m := by
  simp only [isWordB, Bool.and_eq_true, List.all_eq_true, belowB, decide_eq_true_eq] at h
  exact h.2

def ListsTo (r : List Int × Int) (w : World) (e : Ending) (w' : World) : Prop := ListOut r.1 r.2 w e w'
theorem listsTo_mk {r : List Int × Int} {w w' : World} {xs : List Int} {v : Value} {c : Int} (h : r = (xs, c)) (ho : w'.ownsRow w.heap.size 2 1 v xs.length (xs.map (Value.int .i64))) (hb : Below w.heap.size w w') :
    ListsTo r w (.returned (.tuple #[v, .int .i64 c])) w' := by rw [h]; exact ⟨v, rfl, ho, hb⟩

end Go.Proofs.Ytcglncepmieaaaa
