/-
  Congruences: the contracts of leastStates, l01Congruent and keepsClasses.
-/
import Derived.Test.YtkbnbcecphmihaaDiv
namespace Go.Proofs.Ytkbnbcecphmihaa
open Go.RowKit Go.Deep Go.ChangeShapes Go.WideShapes

/-- The least state of each class among the first k states. -/
def leastK (cls : List Int) : Nat → List Int
  | 0 => []
  | k + 1 => if cls.getD k 0 = (cntK cls k : Int) then leastK cls k ++ [(k : Int)] else leastK cls k
theorem leastK_len (cls : List Int) : ∀ k, (leastK cls k).length = cntK cls k
  | 0 => rfl
  | k + 1 => by
    have := leastK_len cls k
    rw [leastK, cntK]
    split
    · rw [List.length_append, this]; rfl
    · exact this
theorem leastK_eq {cls : List Int} {k : Nat} {c : Int} (hc : cls[k]? = some c) (h : c = (cntK cls k : Int)) : leastK cls (k + 1) = leastK cls k ++ [(k : Int)] := by
  rw [leastK, if_pos (by rw [List.getD, hc]; exact h)]
theorem leastK_ne {cls : List Int} {k : Nat} {c : Int} (hc : cls[k]? = some c) (h : ¬ c = (cntK cls k : Int)) : leastK cls (k + 1) = leastK cls k := by
  rw [leastK, if_neg (by rw [List.getD, hc]; exact h)]

set_option maxRecDepth 100000 in
set_option maxHeartbeats 2000000 in
theorem leastStates_any (A : Option Addr) (n cap : Nat) (cls : List Int) (w : World) (h : NumsAt w A n cls) (hn : n ≤ 100) :
    Calls Try.prog 97 #[.slice A n cap] w fun e w' => ∃ v, e = .returned v ∧ w'.ownsRow w.heap.size 2 1 v (leastK cls n).length ((leastK cls n).map (Value.int .i64)) ∧ Below w.heap.size w w' := by
  obtain ⟨i0, hi, hz0, hz1, hz2⟩ := info_parts info_int64
  go_enter Try.func97, Try.ntmps97
  go_wp2_with fail
  go_loopw [3, 8] (fun v i wr => ∃ (k : Nat) (L : List Int), k ≤ n ∧ i = .int .i64 k ∧ L = leastK cls k ∧ wr.ownsRow w.heap.size 2 1 v L.length (L.map (Value.int .i64)) ∧ Below w.heap.size w wr) (fun _ i _ => n - (intOf i).toNat)
  case atStart => exact ⟨0, [], Nat.zero_le _, rfl, rfl, World.ownsRow_nil _ _ _ _, Below.refl _ _⟩
  case round =>
    obtain ⟨k, L, hk, rfl, hL, hown, hbel⟩ := hrel
    obtain ⟨A3, c3, rfl⟩ := own_form hown
    have hlen : L.length ≤ k := by rw [hL, leastK_len]; exact cntK_le cls k
    have hcnt : L.length = cntK cls k := by rw [hL, leastK_len]
    have HO := Lib.hid hown
    have HB := Lib.hid hbel
    have HL := Lib.hid hL
    clear hown hL
    by_cases hlt : k < n
    · obtain ⟨x, b, off, hx, rfl, hc0⟩ := h.at_ hlt
      have hc : wr.cell? ⟨b, off + k, none⟩ = some (.int .i64 x) := (hbel.cell (cell_lt hc0)).trans hc0
      have i1 : (0 : Int) ≤ (k : Int) := by omega
      have i2 : (k : Int) < (n : Int) := by omega
      by_cases hxe : x = (L.length : Int)
      · have hbe : (x == (L.length : Int)) = true := by rw [beq_iff_eq]; exact hxe
        have HC := Lib.hid (leastK_eq hx (by rw [← hcnt]; exact hxe))
        clear hx hxe hcnt hbel hc0
        go_wp2_with (at_builtin; refine wpList_append_own _ rfl _ _ 55 rfl w.heap.size 2 i0 (.int .i64 0) 1 8 Try.underlying55 hi hz0 hz1 hz2 rfl (by decide) _ _ _ rfl (HO.out.alloc _) ⟨wr.heap.size, 0, none⟩ 1 1 [.int .i64 (k : Int)] rfl rfl (cell_one_new _ _ _) (ones_i64 [(k : Int)]) (by unfold maxLen; omega) (by omega) (by rw [World.size_alloc]; exact Nat.le_succ_of_le HB.out.size) ?_)
        intro v' w2 hown' hgrow _
        have HO1 := Lib.hid hown'
        have HG1 := Lib.hid hgrow
        clear hown' hgrow
        go_wp2_with fail
        go_roundw
        case rel =>
          refine ⟨k + 1, L ++ [(k : Int)], by omega, by go_num, by rw [HC.out, ← HL.out], by rw [List.length_append, List.map_append]; exact HO1.out, ?_⟩
          exact (HB.out.alloc HB.out.size _).grown HG1.out (by rw [World.size_alloc]; exact Nat.le_succ_of_le HB.out.size) (fun j hj => (HO.out.lt j hj).1)
        case measure => simp [intOf]; omega
      · have hbe : (x == (L.length : Int)) = false := by rw [beq_eq_false_iff_ne]; exact hxe
        have HC := Lib.hid (leastK_ne hx (by rw [← hcnt]; exact hxe))
        clear hx hxe hcnt hbel hc0
        go_wp2_with fail
        go_roundw
        case rel => exact ⟨k + 1, L, by omega, by go_num, by rw [HC.out]; exact HL.out, HO.out, HB.out⟩
        case measure => simp [intOf]; omega
    · clear hbel
      go_wp2
      go_ret
      have hkn : k = n := by omega
      subst hkn
      rw [← HL.out]
      exact ⟨_, rfl, HO.out, HB.out⟩

/-! ### The classes of a division -/
def cl (cls : List Int) (j : Nat) : Nat := (cls.getD j 0).toNat
def lst (cls : List Int) (n c : Nat) : Nat := ((leastK cls n).getD c 0).toNat
structure DivOk (n : Nat) (cls : List Int) : Prop where
  len : cls.length = n
  at_ : ∀ j, j < n → cls[j]? = some ((cl cls j : Nat) : Int)
  lt : ∀ j, j < n → cl cls j < cntK cls n
  least : ∀ c, c < cntK cls n → (leastK cls n)[c]? = some ((lst cls n c : Nat) : Int) ∧ lst cls n c < n ∧ cl cls (lst cls n c) = c
theorem divOk_of {n : Nat} {cls : List Int} (h : divB (n : Int) cls = true) : DivOk n cls := by
  simp only [divB, Bool.and_eq_true, List.all_eq_true, List.mem_range, decide_eq_true_eq] at h
  obtain ⟨hall, hlen⟩ := h
  have hl : cls.length = n := by omega
  subst hl
  have hat : ∀ j, j < cls.length → cls[j]? = some ((cl cls j : Nat) : Int) ∧ cl cls j ≤ cntK cls j := by
    intro j hj
    have h1 := hall j hj
    rw [divAt_is (List.getElem?_eq_getElem hj)] at h1
    have h2 : 0 ≤ cls[j] ∧ cls[j] ≤ (cntK cls j : Int) := by simpa [inB] using h1
    have e : cl cls j = (cls[j]).toNat := by simp [cl, List.getD, List.getElem?_eq_getElem hj]
    rw [e, List.getElem?_eq_getElem hj]
    exact ⟨by congr 1; omega, by omega⟩
  have mono : ∀ d k, cntK cls k ≤ cntK cls (k + d) := by
    intro d k
    induction d with
    | zero => exact Nat.le_refl _
    | succ d ih =>
      refine Nat.le_trans ih ?_
      rw [← Nat.add_assoc]
      conv => rhs; unfold cntK
      split <;> omega
  have stp : ∀ k, k ≤ cls.length → ∀ c, c < cntK cls k → ∃ i, i < k ∧ (leastK cls k)[c]? = some (i : Int) ∧ cl cls i = c := by
    intro k
    induction k with
    | zero => intro _ c hc; exact absurd hc (Nat.not_lt_zero _)
    | succ k ih =>
      intro hk c hc
      obtain ⟨ha, hle⟩ := hat k (by omega)
      by_cases hx : ((cl cls k : Nat) : Int) = (cntK cls k : Int)
      · rw [leastK_eq ha hx]
        rw [cntK_eq ha hx] at hc
        rcases Nat.lt_or_ge c (cntK cls k) with hlt | hge
        · obtain ⟨i, hi, h1, h2⟩ := ih (by omega) c hlt
          exact ⟨i, by omega, by rw [List.getElem?_append_left (by rw [leastK_len]; exact hlt)]; exact h1, h2⟩
        · have hce : c = cntK cls k := by omega
          refine ⟨k, by omega, ?_, by omega⟩
          rw [List.getElem?_append_right (by rw [leastK_len]; exact hge), leastK_len, hce, Nat.sub_self]
          rfl
      · rw [leastK_ne ha hx]
        rw [cntK_ne ha hx] at hc
        obtain ⟨i, hi, h1, h2⟩ := ih (by omega) c hc
        exact ⟨i, by omega, h1, h2⟩
  refine ⟨rfl, fun j hj => (hat j hj).1, fun j hj => ?_, fun c hc => ?_⟩
  · obtain ⟨ha, hle⟩ := hat j hj
    have hm := mono (cls.length - (j + 1)) (j + 1)
    rw [show j + 1 + (cls.length - (j + 1)) = cls.length by omega] at hm
    by_cases hx : ((cl cls j : Nat) : Int) = (cntK cls j : Int)
    · rw [cntK_eq ha hx] at hm; omega
    · rw [cntK_ne ha hx] at hm; omega
  · obtain ⟨i, hi, h1, h2⟩ := stp cls.length (Nat.le_refl _) c hc
    have e : lst cls cls.length c = i := by simp [lst, List.getD, h1]
    rw [e]
    exact ⟨h1, hi, h2⟩

def Cong (n m : Nat) (xss : List (List Int)) (cls : List Int) : Prop := ∀ s t x, s < n → t < n → x < m → cl cls s = cl cls t → cl cls (nx xss x s) = cl cls (nx xss x t)
noncomputable def congB (n m : Nat) (xss : List (List Int)) (cls : List Int) : Bool := @decide (Cong n m xss cls) (Classical.propDecidable _)
theorem congB_t {n m : Nat} {xss : List (List Int)} {cls : List Int} (h : Cong n m xss cls) : congB n m xss cls = true := by
  unfold congB; exact @decide_eq_true _ (Classical.propDecidable _) h
theorem congB_f {n m : Nat} {xss : List (List Int)} {cls : List Int} (h : ¬ Cong n m xss cls) : congB n m xss cls = false := by
  unfold congB; exact @decide_eq_false _ (Classical.propDecidable _) h
theorem cong_low {n m : Nat} {xss : List (List Int)} {cls : List Int} (h : ∀ s, s < n → ∀ t, t < s → ∀ x, x < m → cl cls s = cl cls t → cl cls (nx xss x s) = cl cls (nx xss x t)) : Cong n m xss cls := by
  intro s t x hs ht hx e
  rcases Nat.lt_trichotomy s t with a | a | a
  · exact (h t ht s a x hx e.symm).symm
  · rw [a]
  · exact h s hs t a x hx e
theorem cong_least {n m : Nat} {xss : List (List Int)} {cls : List Int} (_hd : DivOk n cls) (h : ∀ x, x < m → ∀ s, s < n → cl cls (nx xss x s) = cl cls (nx xss x (lst cls n (cl cls s)))) : Cong n m xss cls := by
  intro s t x hs ht hx e
  rw [h x hx s hs, h x hx t ht, e]
theorem cong_not {n m : Nat} {xss : List (List Int)} {cls : List Int} {s x : Nat} (hd : DivOk n cls) (hs : s < n) (hx : x < m) (h : ¬ cl cls (nx xss x s) = cl cls (nx xss x (lst cls n (cl cls s)))) : ¬ Cong n m xss cls := by
  intro hc
  obtain ⟨_, h2, h3⟩ := hd.least (cl cls s) (hd.lt s hs)
  exact h (hc s _ x hs h2 hx h3.symm)

end Go.Proofs.Ytkbnbcecphmihaa
