/-
  A region whose first operations only read and whose last ones come one after another, but for one operation that only moves a temporary and may come between the last ones.
-/
import Derived.StillTailTactics
namespace Go.Proofs.Ytkhhemlfahdbnab
open Go

variable {P : Program} {ops : Array Oper} {md : Region.Mode}

/-- An exit that is no way out but the end of the list. -/
def endOnly (Q : Act → World → Prop) : Exit → Act → World → Prop := fun e a w => e = .normal ∧ Q a w

theorem no_outgrown {Q : Act → World → Prop} (h : LetsOut (endOnly Q)) : False := by
  obtain ⟨a, w, h, _⟩ := h
  cases h

theorem upon_end {o : Oper} {a : Act} {K : Act → World → Prop} {Q : Exit → Act → World → Prop} {r : Result Next} (h : o.upon P a K (endOnly (Q .normal)) r) : o.upon P a K Q r := by
  cases r with
  | ok n w' =>
    cases n
    case enter f args =>
      exact Calls.mono h fun e w'' he => by
        cases e with
        | returned v => exact he
        | panicked c => exact absurd he.1 (by simp)
        | outgrown => exact (no_outgrown he).elim
    all_goals exact h
  | halt x w' =>
    cases x
    case panic v => exact absurd h.1 (by simp)
    all_goals exact h

theorem wpOp_end {i : Nat} {a : Act} {w : World} {K K' : Act → World → Prop} {Q : Exit → Act → World → Prop} (hK : ∀ a w, K a w → K' a w) (h : wpOp P ops (endOnly (Q .normal)) i K a w) : wpOp P ops Q i K' a w := by
  refine wpOp_mono hK ?_
  unfold wpOp at *
  split
  · rename_i ho; simp only [ho] at h; exact h
  · rename_i o ho
    simp only [ho] at h
    split
    · rename_i hw
      simp only [hw, if_true] at h
      rcases h with h | h
      · exact .inl (upon_end h)
      · exact (no_outgrown h.2).elim
    · rename_i hw; simp only [hw] at h; exact h

theorem wpAny_end {Q : Exit → Act → World → Prop} : ∀ (fuel : Nat) (listed : Array Bool) (a : Act) (w : World), wpAny P md ops (endOnly (Q .normal)) fuel listed a w → wpAny P md ops Q fuel listed a w
  | 0, _, _, _, h => ⟨h.1, h.2.2⟩
  | fuel + 1, _, _, _, h => ⟨fun h0 => (h.1 h0).2, fun i hi => wpOp_end (fun a w => wpAny_end fuel _ a w) (h.2 i hi)⟩

/-- Operation n made to wait for operation f. -/
def waiting (ops : Array Oper) (n f : Nat) : Array Oper := ops.modify n fun o => { o with after := o.after.push ⟨f, .data⟩ }

theorem waiting_get (n f j : Nat) : (waiting ops n f)[j]? = if n = j then (ops[j]?).map (fun o => { o with after := o.after.push ⟨f, .data⟩ }) else ops[j]? := by
  unfold waiting
  rw [Array.getElem?_modify]

theorem waiting_size (n f : Nat) : (waiting ops n f).size = ops.size := by unfold waiting; exact Array.size_modify

theorem waiting_yielded (n f : Nat) (t : Array Value) : yielded (waiting ops n f) t = yielded ops t := by
  funext j
  have e : ((waiting ops n f)[j]?).bind (·.dst) = (ops[j]?).bind (·.dst) := by
    rw [waiting_get]
    by_cases h : n = j
    · rw [if_pos h]; cases ops[j]? <;> rfl
    · rw [if_neg h]
  unfold yielded
  rw [e]

theorem waiting_ready {n f : Nat} {listed : Array Bool} (hf : listed.getD f false = true) : Region.ready md (waiting ops n f) listed = Region.ready md ops listed := by
  unfold Region.ready
  rw [waiting_size]
  refine List.filter_congr fun i _ => ?_
  rw [waiting_get]
  split
  · cases ho : ops[i]? with
    | none => rfl
    | some o => simp only [Option.map_some, Array.all_push, hf, Bool.or_true, Bool.and_true]
  · rfl

theorem waiting_wpOp {n f i : Nat} {Q : Exit → Act → World → Prop} {K : Act → World → Prop} {a : Act} {w : World} (h : wpOp P (waiting ops n f) Q i K a w) : wpOp P ops Q i K a w := by
  unfold wpOp at *
  rw [waiting_get] at h
  split at h
  · rename_i ho
    by_cases hn : n = i
    · rw [if_pos hn] at ho
      cases hx : ops[i]? with
      | none => exact h
      | some o => rw [hx] at ho; cases ho
    · rw [if_neg hn] at ho
      simp only [ho]
      exact h
  · rename_i o' ho
    rw [waiting_yielded] at h
    by_cases hn : n = i
    · rw [if_pos hn] at ho
      cases hx : ops[i]? with
      | none => rw [hx] at ho; cases ho
      | some o =>
        rw [hx] at ho
        obtain rfl := Option.some.inj ho
        exact h
    · rw [if_neg hn] at ho
      simp only [ho]
      exact h

theorem waiting_any {n f : Nat} {Q : Exit → Act → World → Prop} : ∀ (fuel : Nat) (listed : Array Bool) (a : Act) (w : World), listed.getD f false = true →
    wpAny P md (waiting ops n f) Q fuel listed a w → wpAny P md ops Q fuel listed a w
  | 0, _, _, _, hf, h => ⟨by rw [← waiting_ready hf]; exact h.1, h.2⟩
  | fuel + 1, _, _, _, hf, h => ⟨fun h0 => h.1 (by rw [waiting_ready hf]; exact h0), fun i hi => waiting_wpOp (wpOp_mono (fun a w => waiting_any fuel _ a w (getD_set_true hf)) (h.2 i (by rw [waiting_ready hf]; exact hi)))⟩

theorem waiting_still {n f : Nat} {w : World} {Q Q' : Act → Prop} (hQ : ∀ a, Q a → Q' a) : ∀ (l : List Oper) (a : Act), wpStill P ops w Q l a → wpStill P (waiting ops n f) w Q' l a
  | [], _, h => hQ _ h
  | o :: l, a, h => by
    unfold wpStill at *
    rw [waiting_yielded]
    split
    · rename_i hw; simp only [hw, if_true] at h; exact Oper.still_mono (fun a => waiting_still hQ l a) h
    · rename_i hw; simp only [hw] at h; exact waiting_still hQ l _ h

theorem waiting_list {n f : Nat} {Q : Exit → Act → World → Prop} : ∀ (l : List Oper) (a : Act) (w : World), wpList P ops Q l a w → wpList P (waiting ops n f) Q l a w
  | [], _, _, h => h
  | o :: l, a, w, h => by
    unfold wpList at *
    rw [waiting_yielded]
    split
    · rename_i hw; simp only [hw, if_true] at h; exact h.imp (Oper.wp_mono (fun a w => waiting_list l a w)) id
    · rename_i hw; simp only [hw] at h; exact waiting_list l _ w h

theorem waiting_drop {n f : Nat} {l : List Oper} (hn : n < l.length) : (waiting l.toArray n f).toList.drop n = { l[n] with after := l[n].after.push ⟨f, .data⟩ } :: l.drop (n + 1) := by
  refine List.ext_getElem? fun j => ?_
  rw [List.getElem?_drop, Array.getElem?_toList, waiting_get]
  cases j with
  | zero => simp [hn]
  | succ j => simp [List.getElem?_drop, Nat.add_assoc, Nat.add_comm 1 j]

/-- What is asked of the region's shape. -/
def floatB (l : List Oper) (n f : Nat) : Bool :=
  Region.lexTailB .any (waiting l.toArray n f) n && Region.noSelect l.toArray && Region.free .any l.toArray (Array.replicate l.toArray.size false) f && (Region.ready .any l.toArray (Array.replicate l.toArray.size false)).contains f &&
    (Region.ready .any (waiting l.toArray n f) (Array.replicate l.toArray.size false)).contains f

theorem wp_region_float {id : Nat} {Q : Exit → Act → World → Prop} {a : Act} {w : World} {l : List Oper} (n f : Nat) (oi : Oper) (v : Value) (hm : P.follows .mixedOrders = true) (hB : floatB l n f = true)
    (hof : l[f]? = some oi) (hy : Yields P l.toArray oi v a)
    (h : wpStill P l.toArray { w with drawn := w.drawn + 1 } (fun a' => wpList P l.toArray (endOnly (Q .normal)) (l.drop n) a' { w with drawn := w.drawn + 1 }) (l.take n) a) : (Code.region id l.toArray true).wp P Q a w := by
  obtain ⟨W, hW⟩ : ∃ W : World, W = { w with drawn := w.drawn + 1 } := ⟨_, rfl⟩
  rw [← hW] at h
  simp only [floatB, Bool.and_eq_true] at hB
  obtain ⟨⟨⟨⟨hL, hsel⟩, hfree⟩, hr⟩, hr'⟩ := hB
  have hr : f ∈ Region.ready .any l.toArray (Array.replicate l.toArray.size false) := by simpa using hr
  have hr' : f ∈ Region.ready .any (waiting l.toArray n f) (Array.replicate l.toArray.size false) := by simpa using hr'
  simp only [Region.lexTailB, Bool.and_eq_true, decide_eq_true_eq] at hL
  obtain ⟨⟨⟨⟨hsel', hn⟩, hs⟩, hc⟩, hlex⟩ := hL
  rw [waiting_size] at hn hlex
  have hn' : n < l.length := by simpa using hn
  have htl : (l.take n).length = n := by simp; omega
  have hof' : l.toArray[f]? = some oi := by simpa using hof
  have hfl : f < l.length := by
    rcases Nat.lt_or_ge f l.length with h1 | h1
    · exact h1
    · rw [List.getElem?_eq_none h1] at hof; cases hof
  have inv0 : HeadInv .any (waiting l.toArray n f) n (Array.replicate l.toArray.size false) :=
    ⟨by simp [waiting_size], fun j oj _ hl => (by rw [getD_replicate_false] at hl; cases hl), fun t _ ht => getD_in (by rw [waiting_size] at ht; simpa using ht) (getD_replicate_false _ _)⟩
  have hdl : ((waiting l.toArray n f).toList.drop n).length = l.toArray.size - n := by simp [waiting_size]
  have H := wpAnyL_lex (md := .any) (g := l.toArray.size - n) hsel' hs hc (by rw [waiting_size]; exact hn) (l.take n) 0 _ a (fun j hj => by
    have hj' : j < n := by rw [htl] at hj; exact hj
    rw [waiting_get, if_neg (by omega)]
    simp [hj']) (by simpa using htl) inv0 (by rw [htl]; exact hlex) (waiting_still (n := n) (f := f) (fun a' h' => waiting_list (n := n) (f := f) _ a' W h') _ a h)
  have A := wpAny_of_head (Q' := endOnly (Q .normal)) (g := l.toArray.size - n) (fun listed a' hL => by
    have := wpAny_of_seq (P := P) (md := .any) (Q' := endOnly (Q .normal)) ((waiting l.toArray n f).toList.drop n) n listed a' W (fun j => by rw [List.getElem?_drop, Array.getElem?_toList]) (by rw [hdl]; exact hL.1)
      (by rw [waiting_drop hn', ← List.getElem_cons_drop hn'] at *; exact hL.2)
    rwa [hdl] at this) _ _ _ H
  rw [htl, show n + (l.toArray.size - n) = l.toArray.size by omega] at A
  obtain ⟨m, hm1⟩ : ∃ m, l.toArray.size = m + 1 := ⟨l.toArray.size - 1, by omega⟩
  have hfin : (((Array.replicate l.toArray.size false) : Array Bool).setIfInBounds f true).getD f false = true := by simp [hfl]
  refine wp_region_any hm ?_
  rw [← hW]
  refine wpAny_end _ _ _ _ ?_
  have A' : wpAny P .any (waiting l.toArray n f) (endOnly (Q .normal)) (m + 1) (Array.replicate l.toArray.size false) a W := by rw [← hm1]; exact A
  have B := A'.2 f hr'
  have C : wpAny P .any l.toArray (endOnly (Q .normal)) m ((Array.replicate l.toArray.size false).setIfInBounds f true) (a.put oi.dst v) W := by
    have B1 := waiting_wpOp B
    unfold wpOp at B1
    simp only [hof'] at B1
    refine waiting_any (n := n) (f := f) m _ _ W hfin ?_
    rcases hy with ⟨hw, hv⟩ | ⟨hw, rfl⟩
    · simp only [hw, if_true] at B1
      rcases B1 with B1 | B1
      · unfold Oper.wp at B1
        rw [hv W] at B1
        exact B1
      · exact (no_outgrown B1.2).elim
    · simp only [hw] at B1
      exact B1
  have D := wpAny_first (md := .any) (Q := endOnly (Q .normal)) hof' (Region.noSelect_spec hsel) (fun c a w h1 => absurd h1.1 (by simp)) m (Array.replicate l.toArray.size false) a W (Region.free_spec hof' hfree) hr hy C
  rw [← hm1] at D
  exact D

end Go.Proofs.Ytkhhemlfahdbnab
