/-
  Certificates that are checked: lists alone; the orders of lists of two numbers.
-/
import Derived.Test.YtcglncepmieaaaaFndC
import Derived.Test.YtcglncepmieaaaaStbD
import Derived.Test.YtcglncepmieaaaaImg
import Derived.Test.YtcglncepmieaaaaFindL
import Derived.Test.YtcglncepmieaaaaTo
namespace Go.Proofs.Ytcglncepmieaaaa
open Go.RowKit Go.Deep Go.ChangeShapes Go.WideShapes
open Hunt Srch From Moved

theorem word_ok {m : Nat} {ws : List Int} (h : isWordB (m : Int) ws = true) : okW m ws ∧ ws.length ≤ 400 := by
  simp only [isWordB, Bool.and_eq_true, decide_eq_true_eq, List.all_eq_true, belowB] at h
  exact ⟨fun x hx => h.2 x hx, h.1⟩
theorem merged_to {n m s t : Nat} {xss : List (List Int)} {ws : List Int} (hg : Good n m xss) (hs : s < n) (ht : t < n) (hw : okW m ws) :
    decide (Lib.onesCount (aftW (pairB s t) n xss ws) ≤ 1) = decide (toS xss ws s = toS xss ws t) := by
  have ha := acts hg
  have hin := pair_in hs ht
  have h1 : mergedB (goW (aftF n xss) (pairB s t) ws) = true ↔ goS (nx xss) ws s = goS (nx xss) ws t := by
    rw [merged_iff ((goW_in ha ws _ hw hin).1.lt hg.n10), pair_key ha hs ht hw]
  rw [Bool.eq_iff_iff, decide_eq_true_eq (p := toS xss ws s = toS xss ws t)]
  exact h1

/-- The word at a place merges the pair there. -/
def mgAt (m : Nat) (xss : List (List Int)) (gs : List (Nat × Nat)) (ws : List (List Int)) (i : Nat) : Bool :=
  isWordB (m : Int) (ws.getD i []) && decide (toS xss (ws.getD i []) (gs.getD i (0, 0)).1 = toS xss (ws.getD i []) (gs.getD i (0, 0)).2)
def mgB (n m : Nat) (xss : List (List Int)) (ws : List (List Int)) : Bool := decide (ws.length = (prL n n).length) && (List.range (prL n n).length).all (mgAt m xss (prL n n) ws)

/-- A list of two numbers comes before another one. -/
def befB (p q : List Int) : Bool := decide (p.getD 0 0 < q.getD 0 0) || (decide (p.getD 0 0 = q.getD 0 0) && decide (p.getD 1 0 < q.getD 1 0))
def rowB (n : Nat) (ps : List (List Int)) (i : Nat) : Bool := decide ((ps.getD i []).length = 2) && setB (n : Int) (ps.getD i []) && (decide (i = 0) || befB (ps.getD (i - 1) []) (ps.getD i []))
/-- The letter x leads from the pair at the place i to a pair of the list. -/
def inAt (xss : List (List Int)) (ps : List (List Int)) (i x : Nat) : Bool := decide ((imageL xss (ps.getD i []) [(x : Int)]).length = 2) && decide (0 ≤ findL ps (imageL xss (ps.getD i []) [(x : Int)]) 0)
def apoB (n m : Nat) (xss : List (List Int)) (ps : List (List Int)) : Bool :=
  (List.range ps.length).all (rowB n ps) && ((List.range ps.length).all (fun i => (List.range m).all (inAt xss ps i)) && decide (0 < ps.length))
/-- A certificate is right. -/
def rightB (n m : Nat) (xss : List (List Int)) (k : Int) (ps ws : List (List Int)) : Bool :=
  if k = 1 then decide (ps.length = 0) && mgB n m xss ws else if k = 2 then decide (ws.length = 0) && apoB n m xss ps else false
/-- What CheckCertificate answers. -/
def checkCertificate (s : Int) (xss : List (List Int)) (k : Int) (ps ws : List (List Int)) : Bool × Int := if okA s xss = true then (rightB s.toNat xss.length xss k ps ws, 0) else (false, 1)
theorem checkCertificate_1 {s : Int} {xss : List (List Int)} {k : Int} {ps ws : List (List Int)} (h : okA s xss = false) : checkCertificate s xss k ps ws = (false, 1) := by unfold checkCertificate; rw [if_neg (by simp [h])]
theorem checkCertificate_0 {n m : Nat} {xss : List (List Int)} {k : Int} {ps ws : List (List Int)} (h : okA (n : Int) xss = true) (hm : xss.length = m) : checkCertificate (n : Int) xss k ps ws = (rightB n m xss k ps ws, 0) := by unfold checkCertificate; rw [if_pos h, Int.toNat_natCast, hm]

theorem all_no {N k : Nat} {f : Nat → Bool} (hk : k < N) (hf : f k = false) : (List.range N).all f = false := by
  rw [List.all_eq_false]; exact ⟨k, List.mem_range.2 hk, by rw [hf]; simp⟩
theorem all_yes {N : Nat} {f : Nat → Bool} (h : ∀ k, k < N → f k = true) : (List.range N).all f = true := by
  rw [List.all_eq_true]; exact fun k hk => h k (List.mem_range.1 hk)

/-! ### sets as bits and as lists -/
theorem listK_has {b q : Nat} (hq : q < 10) : ((q : Nat) : Int) ∈ listK b 10 ↔ b.testBit q = true := by
  unfold listK
  rw [List.mem_map]
  constructor
  · rintro ⟨a, ha, e⟩
    have h1 := List.mem_filter.1 ha
    obtain rfl : a = q := by omega
    exact h1.2
  · intro h
    exact ⟨q, List.mem_filter.2 ⟨List.mem_range.2 hq, h⟩, rfl⟩
theorem listK_inj {b c : Nat} (hb : b < 1024) (hc : c < 1024) (h : listK b 10 = listK c 10) : b = c := by
  refine Nat.eq_of_testBit_eq fun q => ?_
  rcases Nat.lt_or_ge q 10 with a | a
  · rw [Bool.eq_iff_iff, ← listK_has a, ← listK_has a, h]
  · rw [Nat.testBit_lt_two_pow (Nat.lt_of_lt_of_le hb (Nat.pow_le_pow_right (by decide) a : 2 ^ 10 ≤ 2 ^ q)), Nat.testBit_lt_two_pow (Nat.lt_of_lt_of_le hc (Nat.pow_le_pow_right (by decide) a : 2 ^ 10 ≤ 2 ^ q))]
theorem set2_list : ∀ p < 10, ∀ q < 10, p < q → listK (setN [((p : Nat) : Int), ((q : Nat) : Int)]) 10 = [((p : Nat) : Int), ((q : Nat) : Int)] := by decide +kernel
/-- A valid set of two states. -/
theorem two_set {n : Nat} {l : List Int} (h2 : l.length = 2) (hs : setB (n : Int) l = true) : ∃ p q : Nat, p < q ∧ q < n ∧ l = [((p : Nat) : Int), ((q : Nat) : Int)] := by
  obtain ⟨x, y, rfl⟩ : ∃ x y, l = [x, y] := by
    rcases l with _ | ⟨x, _ | ⟨y, _ | ⟨z, l⟩⟩⟩
    · simp at h2
    · simp at h2
    · exact ⟨x, y, rfl⟩
    · simp at h2
  have hx := setB_mem hs x (by simp)
  have hy := setB_mem hs y (by simp)
  have h1 := List.all_eq_true.1 hs 1 (List.mem_range.2 (by simp))
  simp only [setAt, Bool.and_eq_true, Bool.or_eq_true, decide_eq_true_eq] at h1
  have hxy : x < y := by
    rcases h1.2 with h | h
    · omega
    · simpa using h
  exact ⟨x.toNat, y.toNat, by omega, by omega, by rw [show ((x.toNat : Nat) : Int) = x by omega, show ((y.toNat : Nat) : Int) = y by omega]⟩
theorem image_bits {n m p q x : Nat} {xss : List (List Int)} (hg : Good n m xss) (hp : p < n) (hq : q < n) (hx : x < m) : imageL xss [((p : Nat) : Int), ((q : Nat) : Int)] [(x : Int)] = listK (aftB (pairB p q) (xss.getD x []) n) 10 := by
  have hw : okW m [(x : Int)] := fun y hy => by rw [List.mem_singleton.1 hy]; omega
  have h1 := goW_pair hg hp hq hw
  have e1 : goW (aftF n xss) (pairB p q) [(x : Int)] = aftB (pairB p q) (xss.getD x []) n := by
    show aftF n xss (pairB p q) (x : Int).toNat = _
    rw [Int.toNat_natCast]; rfl
  rw [← e1, h1, listK_setL]
  unfold imageL
  congr 1
  funext r
  unfold imM bitF
  rw [Bool.eq_iff_iff, pair_bit]
  simp only [List.length_cons, List.length_nil, List.take, List.any_cons, List.any_nil, Bool.or_false, Bool.or_eq_true, decide_eq_true_eq, Int.toNat_natCast]
  show toS xss [(x : Int)] p = r ∨ toS xss [(x : Int)] q = r ↔ _
  exact ⟨fun h => h.elim (fun e => .inl e.symm) (fun e => .inr e.symm), fun h => h.elim (fun e => .inl e.symm) (fun e => .inr e.symm)⟩
theorem findL_has {xs : List Int} {Y : List (List Int)} : 0 ≤ findL Y xs 0 ↔ xs ∈ Y := by
  constructor
  · intro h
    refine Classical.byContradiction fun hn => ?_
    rw [findL_miss (fun j y hj e => hn (by rw [← e]; exact List.mem_of_getElem? hj))] at h
    omega
  · intro h
    obtain ⟨j, hj⟩ := List.getElem?_of_mem h
    obtain ⟨i, _, hi, hno⟩ := least (P := fun j => Y[j]? = some xs) j hj
    rw [findL_hit (k0 := 0) hi (fun j y hj' hy e => hno j hj' (by rw [← e]; exact hy))]
    omega
/-- The program's question and the model's are one. -/
theorem in_bits {n m i x : Nat} {xss : List (List Int)} {ps : List (List Int)} (hg : Good n m xss) (hx : x < m) (hi : i < ps.length) (hrows : ∀ j, j < ps.length → rowB n ps j = true) :
    ((ps.map setN).any fun d => decide (d = aftB (setN (ps.getD i [])) (xss.getD x []) n)) = inAt xss ps i x := by
  have hn := hg.n10
  have key : ∀ j, j < ps.length → ∃ p q : Nat, p < q ∧ q < n ∧ ps.getD j [] = [((p : Nat) : Int), ((q : Nat) : Int)] := fun j hj => by
    have h1 := hrows j hj
    simp only [rowB, Bool.and_eq_true, decide_eq_true_eq] at h1
    exact two_set h1.1.1 h1.1.2
  obtain ⟨p, q, hpq, hqn, hl⟩ := key i hi
  unfold inAt
  rw [hl, image_bits hg (by omega) hqn hx, setN_pair]
  have hw : okW m [(x : Int)] := fun y hy => by rw [List.mem_singleton.1 hy]; omega
  have hb10 : aftB (pairB p q) (xss.getD x []) n < 1024 := by
    have := aftF_lt hg (pairB p q) x ((pair_in (show p < n by omega) hqn).lt hn) hx
    exact this
  obtain ⟨b, hb⟩ : ∃ b, b = aftB (pairB p q) (xss.getD x []) n := ⟨_, rfl⟩
  rw [← hb] at hb10 ⊢
  rw [Bool.eq_iff_iff, List.any_eq_true, Bool.and_eq_true, decide_eq_true_eq, decide_eq_true_eq, findL_has]
  have mem : ∀ {l : List Int}, l ∈ ps → ∃ p q : Nat, p < q ∧ q < n ∧ l = [((p : Nat) : Int), ((q : Nat) : Int)] := fun {l} h => by
    obtain ⟨j, hj⟩ := List.getElem?_of_mem h
    have hjl : j < ps.length := by
      rcases Nat.lt_or_ge j ps.length with a | a
      · exact a
      · rw [List.getElem?_eq_none a] at hj; cases hj
    have h1 := key j hjl
    rw [List.getD_eq_getElem?_getD, hj] at h1
    exact h1
  constructor
  · rintro ⟨d, hd, he⟩
    obtain rfl := of_decide_eq_true he
    obtain ⟨l, hlm, hle⟩ := List.mem_map.1 hd
    obtain ⟨p', q', h1, h2, h3⟩ := mem hlm
    have h4 : listK (setN l) 10 = l := by rw [h3]; exact set2_list p' (by omega) q' (by omega) h1
    rw [hle] at h4
    exact ⟨by rw [h4, h3]; rfl, by rw [h4]; exact hlm⟩
  · rintro ⟨_, h2⟩
    refine ⟨b, List.mem_map.2 ⟨_, h2, ?_⟩, by simp⟩
    obtain ⟨p', q', h1, h3, h4⟩ := mem h2
    refine listK_inj ?_ hb10 ?_
    · rw [h4, setN_pair]; exact pair_lt p' (by omega) q' (by omega)
    · rw [h4, set2_list p' (by omega) q' (by omega) h1, ← h4]

theorem pair_readC {w : World} {At : Option Addr} {N k s t : Nat} {gs : List (Nat × Nat)} (h : RowsAt w At N (gs.map fun g => [((g.1 : Nat) : Int), ((g.2 : Nat) : Int)])) (hk : gs[k]? = some (s, t)) (hkl : k < N) :
    ∃ bT oT bR oR cR, At = some ⟨bT, oT, none⟩ ∧ w.cell? ⟨bT, oT + k, none⟩ = some (.slice (some ⟨bR, oR, none⟩) 2 cR) ∧ w.cell? ⟨bR, oR, none⟩ = some (.int .i64 (s : Int)) ∧ w.cell? ⟨bR, oR + 1, none⟩ = some (.int .i64 (t : Int)) := by
  obtain ⟨row, bT, oT, A', c', hrow, rfl, hc, hnum⟩ := h.at_ hkl
  rw [List.getElem?_map, hk] at hrow
  obtain rfl := (Option.some.inj hrow).symm
  obtain ⟨y, bR, oR, hy, rfl, hcy⟩ := hnum.at_ (show 0 < 2 by decide)
  obtain ⟨y', bR', oR', hy', he, hcy'⟩ := hnum.at_ (show 1 < 2 by decide)
  obtain ⟨rfl, rfl⟩ : bR = bR' ∧ oR = oR' := by simpa using he
  simp only [List.getElem?_cons_zero, Option.some.injEq] at hy
  simp only [List.getElem?_cons_succ, List.getElem?_cons_zero, Option.some.injEq] at hy'
  subst hy hy'
  exact ⟨bT, oT, bR, oR, c', rfl, hc, hcy, hcy'⟩

end Go.Proofs.Ytcglncepmieaaaa
