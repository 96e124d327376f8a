/-
  The word that a certificate yields: lists alone.
  The word that a certificate yields: the model's WordOfCertificate.
  The word that a certificate yields: the program's side.
  The word that a certificate yields: the contract of the program's WordOfCertificate.
-/
import Derived.Test.YtcglncepmieaaaaChkD
import Derived.Test.YtcglncepmieaaaaChkI
import Derived.Test.YtcglncepmieaaaaAll
import Derived.BigQuiet
import Derived.Deep.RegionHeld
namespace Go.Proofs.Ytcglncepmieaaaa
open Go.RowKit Go.Deep Go.ChangeShapes Go.WideShapes
open Hunt Srch From Moved

/-- Words are put together: as long as a set has several states, the word that sel tells for it. -/
def joinF (n : Nat) (xss : List (List Int)) (sel : Nat → List Int) : Nat → Nat → List Int
  | 0, _ => []
  | k + 1, b => if Lib.onesCount b ≤ 1 then [] else sel b ++ joinF n xss sel k (aftW b n xss (sel b))
/-- The least two states of a set. -/
def lo2 (b : Nat) : Nat × Nat := (((listK b 10).getD 0 0).toNat, ((listK b 10).getD 1 0).toNat)
def twoOk (b : Nat) : Bool := decide (Lib.onesCount b ≤ 1) || (decide ((lo2 b).1 < (lo2 b).2) && b.testBit (lo2 b).1 && b.testBit (lo2 b).2 && decide ((listK b 10).take 2 = [(((lo2 b).1 : Nat) : Int), (((lo2 b).2 : Nat) : Int)]) && decide ((lo2 b).2 < 10))
theorem two_all : (List.range 1024).all twoOk = true := by decide +kernel
theorem lo2_ok {b : Nat} (hb : b < 1024) (h : ¬ Lib.onesCount b ≤ 1) : (lo2 b).1 < (lo2 b).2 ∧ b.testBit (lo2 b).1 = true ∧ b.testBit (lo2 b).2 = true ∧ (listK b 10).take 2 = [(((lo2 b).1 : Nat) : Int), (((lo2 b).2 : Nat) : Int)] ∧ (lo2 b).2 < 10 := by
  have h1 := List.all_eq_true.1 two_all b (List.mem_range.2 hb)
  simp only [twoOk, Bool.or_eq_true, Bool.and_eq_true, decide_eq_true_eq] at h1
  rcases h1 with h1 | h1
  · exact absurd h1 h
  · exact ⟨h1.1.1.1.1, h1.1.1.1.2, h1.1.1.2, h1.1.2, h1.2⟩
/-- The place of a pair among all pairs. -/
theorem prL_nodup (n : Nat) : (prL n n).Nodup := by
  refine List.Pairwise.imp (fun {a b} h e => ?_) (prL_sorted n n)
  subst e
  rcases h with h | ⟨_, h⟩ <;> omega
def plG (n : Nat) (b : Nat) : Nat := (prL n n).findIdx fun g => g == lo2 b
theorem plG_ok {n b : Nat} (hn : n ≤ 10) (hb : In n b) (h : ¬ Lib.onesCount b ≤ 1) : plG n b < (prL n n).length ∧ (prL n n)[plG n b]? = some (lo2 b) := by
  have hb10 := hb.lt hn
  obtain ⟨h1, h2, h3, _, _⟩ := lo2_ok hb10 h
  have hm : lo2 b ∈ prL n n := prL_has (s := (lo2 b).1) (t := (lo2 b).2) h1 (hb _ h3)
  have hlt : plG n b < (prL n n).length := List.findIdx_lt_length_of_exists ⟨lo2 b, hm, by simp⟩
  refine ⟨hlt, ?_⟩
  have h4 := List.findIdx_getElem (p := fun g => g == lo2 b) (xs := prL n n) (w := hlt)
  rw [List.getElem?_eq_getElem hlt]
  exact congrArg some (eq_of_beq h4)
/-- The word that a certificate has for a set. -/
def selW (n : Nat) (ws : List (List Int)) (b : Nat) : List Int := ws.getD (plG n b) []
structure SelOk (n m : Nat) (xss : List (List Int)) (ws : List (List Int)) : Prop where
  len : ws.length = (prL n n).length
  ok : ∀ b, In n b → ¬ Lib.onesCount b ≤ 1 → okW m (selW n ws b) ∧ (selW n ws b).length ≤ 400 ∧ ¬ selW n ws b = [] ∧ In n (aftW b n xss (selW n ws b)) ∧ Lib.onesCount (aftW b n xss (selW n ws b)) < Lib.onesCount b ∧ ws[plG n b]? = some (selW n ws b)
theorem selOk_of {n m : Nat} {xss ws : List (List Int)} (hg : Good n m xss) (h : mgB n m xss ws = true) : SelOk n m xss ws := by
  unfold mgB at h
  simp only [Bool.and_eq_true, decide_eq_true_eq, List.all_eq_true, List.mem_range] at h
  refine ⟨h.1, fun b hb ho => ?_⟩
  have hn := hg.n10
  have ha := acts hg
  have hb10 := hb.lt hn
  obtain ⟨h1, h2, h3, _, _⟩ := lo2_ok hb10 ho
  obtain ⟨h4, h5⟩ := plG_ok hn hb ho
  have h6 := h.2 _ h4
  have hg5 : (prL n n).getD (plG n b) (0, 0) = lo2 b := by rw [List.getD_eq_getElem?_getD, h5]; rfl
  unfold mgAt at h6
  rw [hg5] at h6
  simp only [Bool.and_eq_true, decide_eq_true_eq] at h6
  obtain ⟨h7, h8⟩ := word_ok h6.1
  have hin := (goW_in ha (selW n ws b) b h7 hb).1
  have hlt : cnt (goW (aftF n xss) b (selW n ws b)) < cnt b := by
    rcases Nat.lt_or_ge (cnt (goW (aftF n xss) b (selW n ws b))) (cnt b) with a | a
    · exact a
    · exfalso
      have hle := cnt_le ha h7 hb
      obtain ⟨_, h9⟩ := goW_in ha (selW n ws b) b h7 hb
      have hnd : ((List.range 10).filter fun s => b.testBit s).Nodup := bits_nodup b
      -- as many images as states: the two least states have different images
      have hsub : ((List.range 10).filter fun s => (goW (aftF n xss) b (selW n ws b)).testBit s).length ≤ ((((List.range 10).filter fun s => b.testBit s).erase (lo2 b).1).map (goS (nx xss) (selW n ws b))).length := by
        refine nodup_sub (bits_nodup _) fun t ht => ?_
        obtain ⟨s, h10, rfl⟩ := (h9 t).1 ((mem_bits hin hn).1 ht)
        rw [List.mem_map]
        by_cases hs : s = (lo2 b).1
        · refine ⟨(lo2 b).2, (List.Nodup.mem_erase_iff hnd).2 ⟨by omega, (mem_bits hb hn).2 h3⟩, ?_⟩
          rw [hs]; exact h6.2.symm
        · exact ⟨s, (List.Nodup.mem_erase_iff hnd).2 ⟨hs, (mem_bits hb hn).2 h10⟩, rfl⟩
      rw [List.length_map, List.length_erase_of_mem ((mem_bits hb hn).2 h2)] at hsub
      have hpos : 0 < ((List.range 10).filter fun s => b.testBit s).length := List.length_pos_of_mem ((mem_bits hb hn).2 h2)
      unfold cnt at a
      omega
  have hws : ws[plG n b]? = some (selW n ws b) := by
    have hl : plG n b < ws.length := by rw [h.1]; exact h4
    unfold selW
    rw [List.getD_eq_getElem?_getD, List.getElem?_eq_getElem hl]; rfl
  refine ⟨h7, h8, fun e => ?_, hin, ?_, hws⟩
  · rw [e] at hlt
    exact absurd hlt (Nat.lt_irrefl _)
  · show Lib.onesCount (goW (aftF n xss) b (selW n ws b)) < Lib.onesCount b
    rw [ones_cnt (hin.lt hn), ones_cnt hb10]
    exact hlt
theorem joinF_stop {n : Nat} {xss : List (List Int)} {sel : Nat → List Int} {b : Nat} (h : Lib.onesCount b ≤ 1) : ∀ k, joinF n xss sel k b = []
  | 0 => rfl
  | k + 1 => by unfold joinF; rw [if_pos h]
theorem joinF_go {n : Nat} {xss : List (List Int)} {sel : Nat → List Int} {b k : Nat} (h : ¬ Lib.onesCount b ≤ 1) : joinF n xss sel (k + 1) b = sel b ++ joinF n xss sel k (aftW b n xss (sel b)) := by
  rw [joinF, if_neg h]
/-- One step more, where enough are left. -/
theorem joinF_more {n m : Nat} {xss ws : List (List Int)} (hs : SelOk n m xss ws) : ∀ (k : Nat) (b : Nat), In n b → Lib.onesCount b ≤ k + 1 → joinF n xss (selW n ws) (k + 1) b = joinF n xss (selW n ws) k b := by
  intro k
  induction k with
  | zero => intro b _ h; rw [joinF_stop h, joinF_stop h]
  | succ k ih =>
    intro b hb h
    by_cases ho : Lib.onesCount b ≤ 1
    · rw [joinF_stop ho, joinF_stop ho]
    · obtain ⟨_, _, _, h4, h5, _⟩ := hs.ok b hb ho
      rw [joinF_go ho, joinF_go ho, ih _ h4 (by omega)]
/-- The whole word. -/
def wordF (n : Nat) (xss ws : List (List Int)) : List Int := joinF n xss (selW n ws) 10 (2 ^ n - 1)
theorem joinF_len {n m : Nat} {xss ws : List (List Int)} (hs : SelOk n m xss ws) : ∀ (k b : Nat), In n b → (joinF n xss (selW n ws) k b).length ≤ 400 * k := by
  intro k
  induction k with
  | zero => intro b _; simp [joinF]
  | succ k ih =>
    intro b hb
    by_cases ho : Lib.onesCount b ≤ 1
    · rw [joinF_stop ho]; simp
    · obtain ⟨_, h2, _, h4, _, _⟩ := hs.ok b hb ho
      have := ih _ h4
      rw [joinF_go ho, List.length_append]
      omega
theorem image_gen {n m b : Nat} {xss : List (List Int)} {ws : List Int} (hg : Good n m xss) (hb : In n b) (hw : okW m ws) : imageL xss (listK b 10) ws = listK (aftW b n xss ws) 10 := by
  obtain ⟨_, h2⟩ := goW_in (acts hg) ws b hw hb
  rw [listK_setL (aftW b n xss ws)]
  unfold imageL
  congr 1
  funext r
  unfold imM bitF
  rw [List.take_length, Bool.eq_iff_iff, List.any_eq_true]
  show _ ↔ (goW (aftF n xss) b ws).testBit r = true
  rw [h2]
  constructor
  · rintro ⟨x, hx, he⟩
    unfold listK at hx
    obtain ⟨q, hq, rfl⟩ := List.mem_map.1 hx
    refine ⟨q, (List.mem_filter.1 hq).2, ?_⟩
    have := of_decide_eq_true he
    rw [Int.toNat_natCast] at this
    exact this
  · rintro ⟨q, hq, he⟩
    refine ⟨(q : Int), (listK_has (by have := hb q hq; have := hg.n10; omega)).2 hq, ?_⟩
    rw [Int.toNat_natCast, decide_eq_true_eq]
    exact he

/-- What WordOfCertificate answers. -/
def wordOfCertificate (s : Int) (xss : List (List Int)) (k : Int) (ps ws : List (List Int)) : List Int × Int :=
  if okA s xss = true then (if rightB s.toNat xss.length xss k ps ws = true then (if k = 2 then ([], 4) else if 400 < (wordF s.toNat xss ws).length then ([], 3) else (wordF s.toNat xss ws, 0)) else ([], 8)) else ([], 1)
theorem wordOfCertificate_1 {s k : Int} {xss ps ws : List (List Int)} (h : okA s xss = false) : wordOfCertificate s xss k ps ws = ([], 1) := by unfold wordOfCertificate; rw [if_neg (by simp [h])]
theorem wordOfCertificate_8 {n m : Nat} {k : Int} {xss ps ws : List (List Int)} (h : okA (n : Int) xss = true) (hm : xss.length = m) (hr : rightB n m xss k ps ws = false) : wordOfCertificate (n : Int) xss k ps ws = ([], 8) := by
  unfold wordOfCertificate; rw [if_pos h, Int.toNat_natCast, hm, hr, if_neg (by simp)]
theorem wordOfCertificate_4 {n m : Nat} {k : Int} {xss ps ws : List (List Int)} (h : okA (n : Int) xss = true) (hm : xss.length = m) (hr : rightB n m xss k ps ws = true) (hk : k = 2) : wordOfCertificate (n : Int) xss k ps ws = ([], 4) := by
  unfold wordOfCertificate; rw [if_pos h, Int.toNat_natCast, hm, hr, if_pos rfl, if_pos hk]
theorem wordOfCertificate_3 {n m : Nat} {k : Int} {xss ps ws : List (List Int)} (h : okA (n : Int) xss = true) (hm : xss.length = m) (hr : rightB n m xss k ps ws = true) (hk : ¬ k = 2) (hl : 400 < (wordF n xss ws).length) : wordOfCertificate (n : Int) xss k ps ws = ([], 3) := by
  unfold wordOfCertificate; rw [if_pos h, Int.toNat_natCast, hm, hr, if_pos rfl, if_neg hk, if_pos hl]
theorem wordOfCertificate_0 {n m : Nat} {k : Int} {xss ps ws : List (List Int)} (h : okA (n : Int) xss = true) (hm : xss.length = m) (hr : rightB n m xss k ps ws = true) (hk : ¬ k = 2) (hl : ¬ 400 < (wordF n xss ws).length) : wordOfCertificate (n : Int) xss k ps ws = (wordF n xss ws, 0) := by
  unfold wordOfCertificate; rw [if_pos h, Int.toNat_natCast, hm, hr, if_pos rfl, if_neg hk, if_neg hl]
theorem rightB_sel {n m : Nat} {k : Int} {xss ps ws : List (List Int)} (hg : Good n m xss) (hr : rightB n m xss k ps ws = true) (hk : ¬ k = 2) : SelOk n m xss ws := by
  unfold rightB at hr
  by_cases h1 : k = 1
  · rw [if_pos h1, Bool.and_eq_true] at hr; exact selOk_of hg hr.2
  · rw [if_neg h1, if_neg hk] at hr; cases hr
theorem wordOfCertificate_len (s : Int) (xss : List (List Int)) (k : Int) (ps ws : List (List Int)) : (wordOfCertificate s xss k ps ws).1.length ≤ 400 := by
  rcases hok : okA s xss with _ | _
  · rw [wordOfCertificate_1 hok]; simp
  · obtain ⟨n, rfl, hg⟩ := good_of hok rfl
    rcases hr : rightB n xss.length xss k ps ws with _ | _
    · rw [wordOfCertificate_8 hok rfl hr]; simp
    · by_cases hk : k = 2
      · rw [wordOfCertificate_4 hok rfl hr hk]; simp
      · by_cases hl : 400 < (wordF n xss ws).length
        · rw [wordOfCertificate_3 hok rfl hr hk hl]; simp
        · rw [wordOfCertificate_0 hok rfl hr hk hl]
          obtain ⟨V, hV⟩ : ∃ V, V = wordF n xss ws := ⟨_, rfl⟩
          rw [← hV] at hl ⊢
          show V.length ≤ 400
          omega
/-- What stands in the middle of the putting together. -/
structure JoinM (n m : Nat) (xss ws : List (List Int)) (X : List Int) (b r : Nat) : Prop where
  inn : In n b
  cnt : Lib.onesCount b ≤ r + 1
  eq : X ++ joinF n xss (selW n ws) r b = wordF n xss ws
  len : X.length + 400 * r ≤ 4000
theorem JoinM.start {n m : Nat} {xss ws : List (List Int)} (hn : n ≤ 10) : JoinM n m xss ws [] (2 ^ n - 1) 10 := by
  have hb := (full_in n).lt hn
  exact ⟨full_in n, by have := (ones_split hb).2.2.2; omega, by unfold wordF; rw [List.nil_append], by rw [List.length_nil]; omega⟩
theorem JoinM.stop {n m : Nat} {xss ws : List (List Int)} {X : List Int} {b r : Nat} (h : JoinM n m xss ws X b r) (ho : Lib.onesCount b ≤ 1) : X = wordF n xss ws := by
  have := h.eq
  rw [joinF_stop ho, List.append_nil] at this
  exact this
theorem JoinM.step {n m : Nat} {xss ws : List (List Int)} {X : List Int} {b r : Nat} (hs : SelOk n m xss ws) (h : JoinM n m xss ws X b r) (ho : ¬ Lib.onesCount b ≤ 1) : ∃ r', JoinM n m xss ws (X ++ selW n ws b) (aftW b n xss (selW n ws b)) r' := by
  obtain ⟨_, h2, _, h4, h5, _⟩ := hs.ok b h.inn ho
  have hc := h.cnt
  rcases r with _ | r
  · omega
  · have he := h.eq
    have hl := h.len
    rw [joinF_go ho, ← List.append_assoc] at he
    exact ⟨r, h4, by omega, he, by rw [List.length_append]; omega⟩

end Go.Proofs.Ytcglncepmieaaaa

namespace Go.Proofs.Ytcglncepmieaaaa
open Go.RowKit Go.Deep Go.ChangeShapes Go.WideShapes
open Hunt Srch From Moved

def lenV : Value → Nat
  | .slice _ n _ => n
  | _ => 0
theorem allL_full {n : Nat} (hn : n ≤ 10) : allL n = listK (2 ^ n - 1) 10 := (listK_full hn).symm
theorem take2_nums {w : World} {A : Option Addr} {n : Nat} {L : List Int} (h : NumsAt w A n L) (h2 : 2 ≤ n) : NumsAt w A 2 (L.take 2) := by
  have hl := h.1
  refine ⟨by rw [List.length_take, hl]; omega, fun k z hk => ?_⟩
  rw [List.getElem?_take] at hk
  split at hk
  · exact h.2 k z hk
  · cases hk

theorem find_plG {n b : Nat} (hn : n ≤ 10) (hb : In n b) (ho : ¬ Lib.onesCount b ≤ 1) : findL (prT (prL n n)) ((listK b 10).take 2) 0 = ((plG n b : Nat) : Int) := by
  obtain ⟨h1, h2⟩ := plG_ok hn hb ho
  rw [(lo2_ok (hb.lt hn) ho).2.2.2.1]
  have hk : (prT (prL n n))[plG n b]? = some [(((lo2 b).1 : Nat) : Int), (((lo2 b).2 : Nat) : Int)] := by unfold prT; rw [List.getElem?_map, h2]; rfl
  rw [findL_hit (k := plG n b) (k0 := 0) hk (fun j y hj hy e => ?_), Nat.zero_add]
  unfold prT at hy
  rw [List.getElem?_map] at hy
  obtain ⟨g, hg, he⟩ := Option.map_eq_some_iff.1 hy
  rw [e] at he
  simp only [List.cons.injEq, and_true] at he
  have hgl : g = lo2 b := Prod.ext (by omega) (by omega)
  rw [hgl, ← h2] at hg
  have := (List.getElem?_inj (Nat.lt_trans hj h1) (prL_nodup n)).1 hg
  omega
theorem prT_rows {gs : List (Nat × Nat)} : ∀ (r : Nat) (xs : List Int), (prT gs)[r]? = some xs → xs.length ≤ 4611686018427387904 := fun r xs h => by
  unfold prT at h
  rw [List.getElem?_map] at h
  obtain ⟨g, _, rfl⟩ := Option.map_eq_some_iff.1 h
  simp

set_option maxRecDepth 100000 in
set_option maxHeartbeats 8000000 in
theorem specWordOfCertificate_any (s : Int) (A : Option Addr) (m cap : Nat) (xss : List (List Int)) (k : Int) (Pd : Option Addr) (N c : Nat) (ps : List (List Int)) (Wd : Option Addr) (M d : Nat) (ws : List (List Int)) (w : World) (h : RowsAt w A m xss) (hm : m ≤ 4611686018427387904)
    (hrows : ∀ (r : Nat) (xs : List Int), xss[r]? = some xs → xs.length ≤ 4611686018427387904) (hP : RowsAt w Pd N ps) (hN : N ≤ 4611686018427387904) (hpr : ∀ (r : Nat) (xs : List Int), ps[r]? = some xs → xs.length ≤ 4611686018427387904)
    (hW : RowsAt w Wd M ws) (hM : M ≤ 4611686018427387904) (hwr : ∀ (r : Nat) (xs : List Int), ws[r]? = some xs → xs.length ≤ 4611686018427387904) :
    Calls Try.prog 38 #[.agg #[.int .i64 s, .slice A m cap], .agg #[.int .i64 k, .slice Pd N c, .slice Wd M d]] w (ListsTo (wordOfCertificate s xss k ps ws) w) := by
  obtain ⟨i0, hi, hz0, hz1, hz2⟩ := info_parts info_int64
  have HR := Lib.hid hrows
  have HM := Lib.hid h.1
  obtain ⟨W2, hW2⟩ : ∃ W2, W2 = (w.alloc (.cells #[.int .i64 s, .slice A m cap] 28)).alloc (.cells #[.int .i64 k, .slice Pd N c, .slice Wd M d] 41) := ⟨_, rfl⟩
  have b2 : Below w.heap.size w W2 := by rw [hW2]; go_grown
  have B2 := Lib.hid b2
  have HB2 := Lib.hid (show Box W2 w.heap.size [.int .i64 s, .slice A m cap] by rw [hW2]; exact Box.below (Box.new w _ _) ((Below.refl _ _).alloc (Nat.le_refl _) _))
  have HC2 := Lib.hid (show Box W2 (w.heap.size + 1) [.int .i64 k, .slice Pd N c, .slice Wd M d] by
    have h9 := Box.new (w.alloc (.cells #[.int .i64 s, .slice A m cap] 28)) #[.int .i64 k, .slice Pd N c, .slice Wd M d] 41
    rw [World.size_alloc, ← hW2] at h9
    exact h9)
  have HX2 := Lib.hid (h.below b2)
  have HP2 := Lib.hid (hP.below b2)
  have HV2 := Lib.hid (hW.below b2)
  have HW2 := Lib.hid hW2
  have HPR := Lib.hid hpr
  have HWR := Lib.hid hwr
  obtain ⟨R, hRR⟩ : ∃ R, R = wordOfCertificate s xss k ps ws := ⟨_, rfl⟩
  rw [← hRR]
  have HRR := Lib.hid hRR
  clear hrows b2 hW2 h hP hW hpr hwr hRR
  go_enter Try.func38, Try.ntmps38
  go_wp2_with fail
  rw [← HW2.out]
  refine (l01Ok_any w.heap.size s A m cap xss W2 (HB2.out 0 _ rfl) (HB2.out 1 _ rfl) HX2.out hm HR.out).mono ?_
  rintro e w1 ⟨rfl, d9, hd⟩
  have b1 : Below W2.heap.size W2 w1 := by rw [hd]; exact below_drewN' (Below.refl _ _) _
  have B1 := Lib.hid (below_then B2.out b1)
  have HX1 := Lib.hid (HX2.out.below b1)
  have HP1 := Lib.hid (HP2.out.below b1)
  have HV1 := Lib.hid (HV2.out.below b1)
  have HB1 := Lib.hid (Box.below HB2.out b1)
  have HC1 := Lib.hid (Box.below HC2.out b1)
  clear b1 hd
  rcases hok : okA s xss with _ | _
  · have HF := Lib.hid (HRR.out.trans (wordOfCertificate_1 hok))
    go_wp2_with fail
    go_ret2
    exact listsTo_mk (xs := []) HF.out (own_none' rfl B1.out.size) (B1.out.alloc B1.out.size _)
  · obtain ⟨n, hsn, hg⟩ := good_of hok HM.out
    subst hsn
    have HG := Lib.hid hg
    have HOK := Lib.hid hok
    have hn10 := hg.n10
    have hn1 := hg.n1
    clear hok hg
    go_wp2_with fail
    refine (l02Right_any w.heap.size (w.heap.size + 1) A Pd Wd n m cap N c M d k xss ps ws w1 HG.out HX1.out HB1.out HC1.out HP1.out hN HPR.out HV1.out hM HWR.out).mono ?_
    rintro e w3 ⟨rfl, b3⟩
    have B3 := Lib.hid (below_then B1.out b3)
    have HX3 := Lib.hid (HX1.out.below b3)
    have HV3 := Lib.hid (HV1.out.below b3)
    have HB3 := Lib.hid (Box.below HB1.out b3)
    have HC3 := Lib.hid (Box.below HC1.out b3)
    clear b3
    rcases hr : rightB n m xss k ps ws with _ | _
    · have HF := Lib.hid (HRR.out.trans (wordOfCertificate_8 HOK.out HM.out hr))
      clear hr
      go_wp2_with fail
      go_ret2
      exact listsTo_mk (xs := []) HF.out (own_none' rfl B3.out.size) (B3.out.alloc B3.out.size _)
    · have q0 := HB3.out 0 _ rfl
      have p0 := HC3.out 0 _ rfl
      by_cases hk : k = 2
      · have HF := Lib.hid (HRR.out.trans (wordOfCertificate_4 HOK.out HM.out hr hk))
        have hk2 : (k == 2) = true := by rw [beq_iff_eq]; exact hk
        clear hr hk
        go_wp2_with fail
        go_ret2
        exact listsTo_mk (xs := []) HF.out (own_none' rfl B3.out.size) (B3.out.alloc B3.out.size _)
      · have HSEL := Lib.hid (rightB_sel HG.out hr hk)
        have HF3 := Lib.hid (fun hl => HRR.out.trans (wordOfCertificate_3 HOK.out HM.out hr hk hl))
        have HF0 := Lib.hid (fun hl => HRR.out.trans (wordOfCertificate_0 HOK.out HM.out hr hk hl))
        have hk2 : (k == 2) = false := by rw [beq_eq_false_iff_ne]; exact hk
        clear hr hk
        go_wp2_with fail
        refine (l02Pairs_any n w3 hn10).mono ?_
        rintro e w4 ⟨u, rfl, ⟨us, t4⟩, b4⟩
        obtain ⟨At, ct, rfl⟩ := own_form t4.out
        obtain ⟨gs, hgs⟩ : ∃ gs, gs = prL n n := ⟨_, rfl⟩
        rw [← hgs] at t4 ⊢
        have hrp := TabIn.rows ⟨us, t4⟩ rfl
        obtain ⟨G, hGN⟩ : ∃ G, G = (prT gs).length := ⟨_, rfl⟩
        rw [← hGN] at hrp ⊢
        have HGN := Lib.hid (show G = gs.length by rw [hGN, prT_len])
        have hG100 : G ≤ 100 := by rw [HGN.out, hgs]; exact prL_leS n hn10
        have HGS := Lib.hid hgs
        have HT4 := Lib.hid hrp
        have B4 := Lib.hid (below_then B3.out b4)
        have HX4 := Lib.hid (HX3.out.below b4)
        have HV4 := Lib.hid (HV3.out.below b4)
        have HB4 := Lib.hid (Box.below HB3.out b4)
        have HC4 := Lib.hid (Box.below HC3.out b4)
        have q0 := HB4.out 0 _ rfl
        clear t4 b4 hgs hGN hrp p0
        obtain ⟨w5, hw5⟩ : ∃ w5, w5 = w4.alloc (.cells #[] 2) := ⟨_, rfl⟩
        have b5 : Below w4.heap.size w4 w5 := by rw [hw5]; exact (Below.refl _ _).alloc (Nat.le_refl _) _
        have HO5 := Lib.hid (show w5.ownsRow w4.heap.size 2 1 (.slice (some ⟨w4.heap.size, 0, none⟩) 0 0) ([] : List Int).length (([] : List Int).map (Value.int .i64)) by rw [hw5]; exact own_none w4 _ (Nat.le_refl _))
        have B5 := Lib.hid b5
        have HW5 := Lib.hid hw5
        have HQ5 := Lib.hid ((b5.cell (cell_lt q0)).trans q0)
        clear b5 hw5
        go_upto_region 9 with fail
        rw [← HW5.out]
        have q5 := HQ5.out
        clear q0
        go_wp2_with fail
        refine (l01All_any n w5 hn10).mono ?_
        rw [allL_full hn10]
        rintro e w6 ⟨u, rfl, o6, b6⟩
        have HO6 := Lib.hid (own_below HO5.out b6)
        have HL6 := Lib.hid o6
        have B6 := Lib.hid (below_then B5.out b6)
        have HS6 := Lib.hid (show w4.heap.size < w5.heap.size by rw [HW5.out, World.size_alloc]; exact Nat.lt_succ_self _)
        clear o6 b6 q5
        go_wp2_with fail
        go_loopw [7, 8] (fun ov sv wr => ∃ (X : List Int) (b r : Nat), JoinM n m xss ws X b r ∧ wr.ownsRow w4.heap.size 2 1 ov X.length (X.map (Value.int .i64)) ∧ wr.ownsRow w4.heap.size 2 1 sv (listK b 10).length ((listK b 10).map (Value.int .i64)) ∧ (∀ g, ov.ownBlock = some g → sv.ownBlock ≠ some g) ∧ Below w4.heap.size w4 wr) (fun _ sv _ => lenV sv)
        case atStart =>
          refine ⟨[], 2 ^ n - 1, 10, JoinM.start hn10, HO6.out, own_base HL6.out (Nat.le_of_lt HS6.out), fun g hg e => ?_, B6.out⟩
          have h1 : w4.heap.size = g := by simpa [Value.ownBlock] using hg
          have h2 := (HL6.out.lt g e).1
          have h3 := HS6.out
          omega
        case round =>
          obtain ⟨X, b, r, hj, hox, hos, hsep, hbel⟩ := hrel
          have hb10 := hj.inn.lt hn10
          obtain ⟨A7, C7, rfl⟩ := own_form hox
          obtain ⟨A8, C8, rfl⟩ := own_form hos
          have HJ := Lib.hid hj
          have HOX := Lib.hid hox
          have HSEP := Lib.hid hsep
          have HBL := Lib.hid hbel
          obtain ⟨L, hL⟩ : ∃ L, L = listK b 10 := ⟨_, rfl⟩
          rw [← hL] at hos ⊢
          have HOS := Lib.hid hos
          have HLL := Lib.hid hL
          have HLC := Lib.hid (show L.length = Lib.onesCount b by rw [hL]; exact listK_len hb10)
          clear hj hox hos hsep hbel hL
          by_cases ho : Lib.onesCount b ≤ 1
          · have hlt : ¬ (1 : Int) < (L.length : Int) := by have := HLC.out; omega
            have HXE := Lib.hid (HJ.out.stop ho)
            have B7 := Lib.hid (below_then B4.out HBL.out)
            by_cases hbig : 400 < X.length
            · have hb4 : (400 : Int) < (X.length : Int) := by omega
              have HF := Lib.hid (HF3.out (by rw [← HXE.out]; exact hbig))
              clear hbig ho
              go_wp2_with fail
              go_ret2
              exact listsTo_mk (xs := []) HF.out (own_none' rfl B7.out.size) (B7.out.alloc B7.out.size _)
            · have hb4 : ¬ (400 : Int) < (X.length : Int) := by omega
              have hF := HF0.out (by rw [← HXE.out]; exact hbig)
              rw [← HXE.out] at hF
              have HF := Lib.hid hF
              clear hbig ho hF
              go_wp2_with fail
              go_ret2
              exact listsTo_mk HF.out (own_base HOX.out B4.out.size) B7.out
          · have hlt : (1 : Int) < (L.length : Int) := by have := HLC.out; omega
            obtain ⟨s1, s2, s3, s4, s5, s6⟩ := HSEL.out.ok b HJ.out.inn ho
            obtain ⟨hp1, hp2⟩ := plG_ok hn10 HJ.out.inn ho
            have HFD := Lib.hid (find_plG hn10 HJ.out.inn ho)
            obtain ⟨r', hj'⟩ := HJ.out.step HSEL.out ho
            have HJ2 := Lib.hid hj'
            have HIM := Lib.hid (image_gen HG.out HJ.out.inn s1)
            rw [← HLL.out] at HFD HIM
            rw [← HGS.out] at HFD
            obtain ⟨g8, rfl, hnc, hcells⟩ := own_cells HOS.out rfl (by omega)
            have HN8 := Lib.hid (NumsAt.own HOS.out rfl rfl)
            obtain ⟨P, hPP⟩ : ∃ P, P = plG n b := ⟨_, rfl⟩
            rw [← hPP] at hp1 s6 HFD
            have hPM : P < M := by rw [← HV4.out.1, HSEL.out.len]; exact hp1
            obtain ⟨xs, bW, oW, A', c', hxs, rfl, hcw4, hnum⟩ := HV4.out.at_ hPM
            have hcw := (HBL.out.cell (cell_lt hcw4)).trans hcw4
            obtain rfl : selW n ws b = xs := Option.some.inj (s6.symm.trans hxs)
            obtain ⟨Z, hZ⟩ : ∃ Z, Z = selW n ws b := ⟨_, rfl⟩
            rw [← hZ] at s1 s2 s3 hcw hnum HJ2 HIM
            have hZ0 : 0 < Z.length := List.length_pos_iff.2 s3
            obtain ⟨z0, bx, ox, hz9, rfl, hcz⟩ := hnum.at_ hZ0
            have HNZ4 := Lib.hid hnum
            have HNZ := Lib.hid (hnum.below HBL.out)
            have HOKZ := Lib.hid s1
            have q1 := (Box.below HC4.out HBL.out) 2 _ rfl
            have HLN2 := Lib.hid (show (L.take 2).length = 2 by rw [List.length_take]; omega)
            have HQ1 := Lib.hid (fun d => l01Find_any At (some ⟨g8, 0, none⟩) G ct 2 C8 (prT gs) (L.take 2) (wr.drewN d) ((HT4.out.below HBL.out).drewN d) ((take2_nums HN8.out (by omega)).drewN d) (by omega) (by omega) prT_rows)
            rw [HFD.out] at HQ1
            have HXL := Lib.hid (show X.length ≤ 4000 by have := HJ.out.len; omega)
            have k1 : (0 : Int) ≤ (P : Int) := by omega
            have k2 : (P : Int) < (M : Int) := by omega
            have k3 : (2 : Int) ≤ (C8 : Int) := by omega
            have k4 : 2 ≤ C8 := by omega
            have HSZ := Lib.hid s2
            have HZ := Lib.hid hZ
            clear s1 s2 s3 s4 s5 s6 hp1 hp2 hj' hPP hxs hnum hcz hz9 hcells ho hZ hcw4
            go_upto_region 11 with fail
            go_quiet ((go_at_call 76; exact Calls.quiet_of (HQ1.out _)))
            obtain ⟨w9, hw9⟩ : ∃ w9, w9 = wr.drewN nq := ⟨_, rfl⟩
            have b9 : Below wr.heap.size wr w9 := by rw [hw9]; exact below_drewN' (Below.refl _ _) _
            rw [← hw9]
            have HB9 := Lib.hid (below_then HBL.out b9)
            have HOX9 := Lib.hid (own_below HOX.out b9)
            have HOS9 := Lib.hid (own_below HOS.out b9)
            have HNZ9 := Lib.hid (HNZ.out.below b9)
            clear b9 hw9 q1 hcw
            go_wp2_with (at_builtin; refine wpList_append_own_at _ rfl _ _ 35 rfl (w4.heap.size) 2 i0 (.int .i64 0) 1 8 Try.underlying35 hi hz0 hz1 hz2 rfl (by decide) _ _ _ rfl HOX9.out ⟨bx, ox, none⟩ Z.length c' (Z.map (Value.int .i64)) rfl (by rw [List.length_map, Nat.mul_one]) (nums_cells HNZ9.out) (ones_i64 Z) (by have := HXL.out; have := HSZ.out; unfold maxLen; omega) (by have := HXL.out; have := HSZ.out; omega) HB9.out.size ?_)
            intro v' w10 hown' hgrow _ hat
            have hv7 : ∀ g, (Value.slice A7 X.length C7).ownBlock = some g → w4.heap.size ≤ g ∧ g < w9.heap.size := fun g hg => HOX9.out.lt g hg
            have HB10 := Lib.hid (below_grown HB9.out hgrow (fun g hg => (hv7 g hg).1))
            have HOS10 := Lib.hid (HOS9.out.kept hgrow (.inr (fun e => HSEP.out g8 e.symm rfl)))
            obtain ⟨A9, C9, rfl⟩ := own_form hown'
            have HOX10 := Lib.hid (show w10.ownsRow w4.heap.size 2 1 (.slice A9 (X.length + Z.length) C9) (X ++ Z).length ((X ++ Z).map (Value.int .i64)) by rw [List.length_append, List.map_append]; exact hown')
            have HQA := Lib.hid ((Box.below HB4.out HB10.out) 1 _ rfl)
            have HSET := Lib.hid (show ∀ x ∈ L, 0 ≤ x ∧ x < (n : Int) from fun x hx => by
              rw [HLL.out] at hx
              unfold listK at hx
              obtain ⟨q, hq, rfl⟩ := List.mem_map.1 hx
              have := HJ.out.inn q (List.mem_filter.1 hq).2
              omega)
            have HXQ := Lib.hid (HX4.out.below HB10.out)
            clear hown' hgrow hat hv7
            go_wp2_with fail
            refine (l01Image_any w.heap.size A _ _ n m cap Z.length c' L.length C8 xss L Z w10 HG.out HQA.out HXQ.out (NumsAt.own HOS10.out rfl rfl) (HNZ4.out.below HB10.out) HOKZ.out HSET.out (by have := HSZ.out; omega) (by have := HLC.out; have := (ones_split hb10).2.2.2; omega)).mono ?_
            rw [HIM.out]
            rintro e w11 ⟨u, rfl, o11, b11⟩
            have HO11 := Lib.hid o11
            have HB11 := Lib.hid (below_then HB10.out b11)
            have HOX11 := Lib.hid (own_below HOX10.out b11)
            have HLEN := Lib.hid (show lenV u < L.length by
              obtain ⟨a9, c9, rfl⟩ := own_form o11
              have h1 := (HSEL.out.ok b HJ.out.inn (by have := HLC.out; omega)).2.2.2.2.1
              have h2 := (HSEL.out.ok b HJ.out.inn (by have := HLC.out; omega)).2.2.2.1
              rw [← HZ.out] at h1 h2
              show (listK (aftW b n xss Z) 10).length < L.length
              rw [listK_len (h2.lt hn10), HLC.out]
              exact h1)
            clear o11 b11
            go_wp2_with fail
            go_roundw
            case rel =>
              refine ⟨X ++ Z, aftW b n xss Z, r', HJ2.out, ?_, own_base HO11.out HB10.out.size, fun g hg e => ?_, HB11.out⟩
              · exact HOX11.out
              · have h1 := (HOX10.out.lt g hg).2
                have h2 := (HO11.out.lt g e).1
                omega
            case measure => exact HLEN.out

end Go.Proofs.Ytcglncepmieaaaa

namespace Go.Proofs.Ytcglncepmieaaaa
open Go.RowKit Go.Deep Go.ChangeShapes Go.WideShapes
open Hunt Srch From Moved

theorem lt_of_some' {α : Type} {gs : List α} {j : Nat} {g : α} (h : gs[j]? = some g) : j < gs.length := by
  rcases Nat.lt_or_ge j gs.length with a | a
  · exact a
  · rw [List.getElem?_eq_none a] at h; cases h
set_option maxRecDepth 100000 in
theorem slIndexE_any (A : Option Addr) (n cap v p : Nat) (bs : List Nat) (w : World) (h : SetsAt w A n bs) (hn : n ≤ 4611686018427387904) (hp : bs[p]? = some v) (hno : ∀ j, j < p → bs[j]? ≠ some v) :
    Calls Try.prog 128 #[.slice A n cap, .int .u16 (v : Int)] w fun e w' => e = .returned (.int .i64 (p : Int)) ∧ w = w' := by
  have HNO := Lib.hid hno
  have HPP := Lib.hid hp
  have hpn : p < n := by rw [← h.1]; exact lt_of_some' hp
  clear hno hp
  go_enter Try.func128, Try.ntmps128
  go_wp2_with fail
  go_loop [8] (fun i => ∃ k : Nat, k ≤ p ∧ i = .int .i64 k) (fun i => n - (intOf i).toNat)
  case atStart => exact ⟨0, Nat.zero_le _, rfl⟩
  case round =>
    obtain ⟨k, hk, rfl⟩ := hrel
    obtain ⟨x, b, off, hx, rfl, hc⟩ := h.at_ (show k < n by omega)
    have HX := Lib.hid hx
    have hk0 : (0 : Int) ≤ (k : Int) := by omega
    have hkn : (k : Int) < (n : Int) := by omega
    clear hx
    by_cases hkp : k = p
    · have hxv : x = v := by have h9 := HX.out; rw [hkp, HPP.out] at h9; exact (Option.some.inj h9).symm
      have hbq : ((v : Int) == (x : Int)) = true := by rw [beq_iff_eq]; omega
      have HKP := Lib.hid hkp
      clear hxv hkp
      go_wp2_with fail
      go_ret
      rw [HKP.out]
      exact ⟨rfl, rfl⟩
    · have hxv : ¬ x = v := fun e => HNO.out k (by omega) (by rw [HX.out, e])
      have hbq : ((v : Int) == (x : Int)) = false := by rw [beq_eq_false_iff_ne]; omega
      clear hxv
      go_wp2_with fail
      go_round
      case rel => exact ⟨k + 1, by omega, by go_num⟩
      case measure => simp [intOf]; omega

theorem prsS_head {b : Nat} (hb : b < 1024) (ho : ¬ Lib.onesCount b ≤ 1) : (prsS b)[0]? = some (pairB (lo2 b).1 (lo2 b).2) := by
  obtain ⟨h1, h2, h3, h4, h5⟩ := lo2_ok hb ho
  have hl : 2 ≤ (listK b 10).length := by rw [listK_len hb]; omega
  obtain ⟨L, hL⟩ : ∃ L, L = listK b 10 := ⟨_, rfl⟩
  unfold prsS
  rw [← hL] at h4 hl ⊢
  obtain ⟨x, y, L', rfl⟩ : ∃ x y L', L = x :: y :: L' := by
    rcases L with _ | ⟨x, _ | ⟨y, L'⟩⟩
    · simp at hl
    · simp at hl
    · exact ⟨x, y, L', rfl⟩
  simp only [List.take_succ_cons, List.take_zero, List.cons.injEq, and_true] at h4
  rw [h4.1, h4.2, ← setN_pair]
  unfold prsL prsU
  rw [List.length_cons, List.length_cons, List.range_succ_eq_map, List.flatMap_cons, List.getElem?_append_left (by simp)]
  rw [List.getElem?_map, List.getElem?_range (by omega)]
  simp
theorem plG_first {n b : Nat} (hn : n ≤ 10) (hb : In n b) (ho : ¬ Lib.onesCount b ≤ 1) : ((prL n n).map fun g => pairB g.1 g.2)[plG n b]? = some (pairB (lo2 b).1 (lo2 b).2) ∧ ∀ j, j < plG n b → ((prL n n).map fun g => pairB g.1 g.2)[j]? ≠ some (pairB (lo2 b).1 (lo2 b).2) := by
  obtain ⟨h1, h2⟩ := plG_ok hn hb ho
  refine ⟨by rw [List.getElem?_map, h2]; rfl, fun j hj e => ?_⟩
  rw [List.getElem?_map] at e
  obtain ⟨g, hg, he⟩ := Option.map_eq_some_iff.1 e
  have hl := prL_mem (s := g.1) (t := g.2) (List.mem_of_getElem? hg)
  obtain ⟨h3, _, _, _, _⟩ := lo2_ok (hb.lt hn) ho
  have hgl : g = lo2 b := by
    rcases pair_inj he with ⟨e1, e2⟩ | ⟨e1, e2⟩
    · exact Prod.ext e1 e2
    · omega
  rw [hgl, ← h2] at hg
  have := (List.getElem?_inj (Nat.lt_trans hj h1) (prL_nodup n)).1 hg
  omega

/-- What the function value of resetWord holds: the words and the pairs. -/
structure ClosW (n : Nat) (ws : List (List Int)) (B1 B2 : Nat) (Wd Pd : Option Addr) (M c N d : Nat) (w : World) : Prop where
  c1 : w.cell? ⟨B1, 0, none⟩ = some (.slice Wd M c)
  c2 : w.cell? ⟨B2, 0, none⟩ = some (.slice Pd N d)
  words : RowsAt w Wd M ws
  pairs : SetsAt w Pd N ((prL n n).map fun g => pairB g.1 g.2)
theorem ClosW.below {n : Nat} {ws : List (List Int)} {B1 B2 : Nat} {Wd Pd : Option Addr} {M c N d : Nat} {w w' : World} (h : ClosW n ws B1 B2 Wd Pd M c N d w) (hb : Below w.heap.size w w') : ClosW n ws B1 B2 Wd Pd M c N d w' :=
  ⟨(hb.cell (cell_lt h.c1)).trans h.c1, (hb.cell (cell_lt h.c2)).trans h.c2, h.words.below hb, h.pairs.below hb⟩

set_option maxRecDepth 100000 in
set_option maxHeartbeats 4000000 in
theorem resetSel_any (n m b B1 B2 : Nat) (xss ws : List (List Int)) (Wd Pd : Option Addr) (M c N d : Nat) (w0 w : World) (hn10 : n ≤ 10) (hs : SelOk n m xss ws) (hc0 : ClosW n ws B1 B2 Wd Pd M c N d w0) (hW0 : Below w0.heap.size w0 w) (hb : In n b) (ho : ¬ Lib.onesCount b ≤ 1) :
    Calls Try.prog 127 #[.int .u16 (b : Int), .pointer (some ⟨B1, 0, none⟩), .pointer (some ⟨B2, 0, none⟩)] w fun e w' => (∃ A' c', e = .returned (.slice A' (selW n ws b).length c') ∧ NumsAt w0 A' (selW n ws b).length (selW n ws b)) ∧ Below w.heap.size w w' := by
  have hc := hc0.below hW0
  have hb10 := hb.lt hn10
  have HPH := Lib.hid (prsS_head hb10 ho)
  obtain ⟨hf1, hf2⟩ := plG_first hn10 hb ho
  have HF1 := Lib.hid hf1
  have HF2 := Lib.hid hf2
  obtain ⟨hp1, hp2⟩ := plG_ok hn10 hb ho
  obtain ⟨P, hP⟩ : ∃ P, P = plG n b := ⟨_, rfl⟩
  obtain ⟨s1, s2, s3, s4, s5, s6⟩ := hs.ok b hb ho
  rw [← hP] at hp1 s6 HF1 HF2
  have hPM : P < M := by rw [← hc.words.1, hs.len]; exact hp1
  obtain ⟨xs, bW, oW, A', c', hxs, rfl, hcw0, hnum⟩ := hc0.words.at_ hPM
  have hcw := (hW0.cell (cell_lt hcw0)).trans hcw0
  obtain rfl : selW n ws b = xs := Option.some.inj (s6.symm.trans hxs)
  obtain ⟨Z, hZ⟩ : ∃ Z, Z = selW n ws b := ⟨_, rfl⟩
  rw [← hZ] at hcw hnum ⊢
  clear hcw0 hc0 hW0
  obtain ⟨v, hv⟩ : ∃ v, v = pairB (lo2 b).1 (lo2 b).2 := ⟨_, rfl⟩
  rw [← hv] at HPH HF1 HF2
  have hN : N ≤ 100 := by rw [← hc.pairs.1, List.length_map]; exact prL_leS n hn10
  have q1 := hc.c1
  have q2 := hc.c2
  have HC := Lib.hid hc
  have HNM := Lib.hid hnum
  have r1 : ∀ W', Below w.heap.size w W' → W'.cell? ⟨B1, 0, none⟩ = some (.slice (some ⟨bW, oW, none⟩) M c) := fun W' hb => (hb.cell (cell_lt q1)).trans q1
  have r2 : ∀ W', Below w.heap.size w W' → W'.cell? ⟨B2, 0, none⟩ = some (.slice Pd N d) := fun W' hb => (hb.cell (cell_lt q2)).trans q2
  have r3 : ∀ W', Below w.heap.size w W' → W'.cell? ⟨bW, oW + P, none⟩ = some (.slice A' Z.length c') := fun W' hb => (hb.cell (cell_lt hcw)).trans hcw
  have k1 : (0 : Int) ≤ (P : Int) := by omega
  have k2 : (P : Int) < (M : Int) := by omega
  clear s1 s2 s3 s4 s5 s6 hp1 hp2 hP hxs hf1 hf2 hnum hZ hv hc hs hb
  go_enter Try.func127, Try.ntmps127
  go_upto_region 1 with fail
  refine wp_region_held_drew (S := (fun w' => Below w.heap.size w w')) (by kernel_rfl) ?_ (fun hHeld => ?_)
  · exact below_drewN' (Below.refl _ _) 1
  refine wpAnyH_take (i := 0) (v := ?_) rfl (by kernel_rfl) (by kernel_rfl) (by kernel_rfl) (fun _ _ _ h => h) (Or.inl ⟨by kernel_rfl, ?_⟩) (by assumption) ?_
  rotate_left
  · (intro w hSw; (try dsimp only at hSw); go_simp; try with_reducible rfl)
  simp only [Act.put, List.setIfInBounds_toArray]
  refine wpAnyH_take (i := 1) (v := ?_) rfl (by kernel_rfl) (by kernel_rfl) (by kernel_rfl) (fun _ _ _ h => h) (Or.inl ⟨by kernel_rfl, ?_⟩) (by assumption) ?_
  rotate_left
  · (intro w hSw; (try dsimp only at hSw); go_simp; try with_reducible rfl)
  simp only [Act.put]
  refine wpAnyH_take (i := 2) (v := ?_) rfl (by kernel_rfl) (by kernel_rfl) (by kernel_rfl) (fun _ _ _ h => h) (Or.inl ⟨by kernel_rfl, ?_⟩) (by assumption) ?_
  rotate_left
  · (intro w hSw; (try dsimp only at hSw); go_simp; try with_reducible rfl)
  simp only [Act.put]
  refine wpAnyH_ready (rs := [3]) (by kernel_rfl) (by simp) ?_
  refine AllReadyH.cons rfl (fun K hK => ?_) AllReadyH.nil
  go_simp
  go_at_call 99
  refine (pairs_any b _ hb10).mono ?_
  rintro e w5 ⟨u, rfl, o5, b5⟩
  have B5 : Hid (Below w.heap.size w w5) := Lib.hid (below_then (below_drewN' (Below.refl _ _) 1) b5)
  obtain ⟨Q, hQ⟩ : ∃ Q, Q = prsS b := ⟨_, rfl⟩
  rw [← hQ] at o5 HPH
  have hQl : 0 < Q.length := lt_of_some' HPH.out
  obtain ⟨A5, C5, rfl⟩ := own2_form o5
  obtain ⟨g5, rfl, hc5⟩ : ∃ g5, A5 = some ⟨g5, 0, none⟩ ∧ w5.cell? ⟨g5, 0, none⟩ = some (.int .u16 (v : Int)) := by
    rcases o5.2 with ⟨hv0, h0⟩ | ⟨g, cap', cur, hv0, hg, hh, hnc, hcap, hsz, htake⟩
    · omega
    · simp only [Value.slice.injEq] at hv0
      obtain ⟨rfl, _, rfl⟩ := hv0
      refine ⟨g, rfl, (o5.cellAt 0 (by omega)).trans ?_⟩
      rw [List.getElem?_map, HPH.out]; rfl
  clear o5 b5 hQ
  refine hK.out _ _ B5.out (fun hHeld5 => ?_)
  clear hK K
  refine wpAnyH_take (i := 4) (v := ?_) rfl (by kernel_rfl) (by kernel_rfl) (by kernel_rfl) (fun _ _ _ h => h) (Or.inl ⟨by kernel_rfl, ?_⟩) (by assumption) ?_
  rotate_left
  · (intro w hSw; (try dsimp only at hSw); go_simp; try with_reducible rfl)
  simp only [Act.put]
  refine wpAnyH_ready (rs := [5]) (by kernel_rfl) (by simp) ?_
  refine AllReadyH.cons rfl (fun K hK => ?_) AllReadyH.nil
  go_simp
  refine hK.out _ _ B5.out (fun hHeld6 => ?_)
  clear hK K
  refine wpAnyH_ready (rs := [6]) (by kernel_rfl) (by simp) ?_
  refine AllReadyH.cons rfl (fun K hK => ?_) AllReadyH.nil
  go_simp
  go_at_call 128
  refine (slIndexE_any Pd N d v P _ w5 (HC.out.below B5.out).pairs (by omega) HF1.out HF2.out).mono ?_
  rintro e w6 ⟨rfl, rfl⟩
  refine hK.out _ _ B5.out (fun hHeld7 => ?_)
  clear hK K
  refine wpAnyH_take (i := 7) (v := ?_) rfl (by kernel_rfl) (by kernel_rfl) (by kernel_rfl) (fun _ _ _ h => h) (Or.inl ⟨by kernel_rfl, ?_⟩) (by assumption) ?_
  rotate_left
  · (intro w hSw; (try dsimp only at hSw); go_simp; try with_reducible rfl)
  simp only [Act.put]
  refine wpAnyH_take (i := 8) (v := ?_) rfl (by kernel_rfl) (by kernel_rfl) (by kernel_rfl) (fun _ _ _ h => h) (Or.inl ⟨by kernel_rfl, ?_⟩) (by assumption) ?_
  rotate_left
  · (intro w hSw; (try dsimp only at hSw); go_simp; try with_reducible rfl)
  simp only [Act.put]
  refine wpAnyH_take (i := 9) (v := ?_) rfl (by kernel_rfl) (by kernel_rfl) (by kernel_rfl) (fun _ _ _ h => h) (Or.inl ⟨by kernel_rfl, ?_⟩) (by assumption) ?_
  rotate_left
  · (intro w hSw; (try dsimp only at hSw); go_simp; try with_reducible rfl)
  simp only [Act.put]
  refine wpAnyH_done (by kernel_rfl) ?_ _
  go_simp
  go_wp2_with fail
  go_ret
  exact ⟨⟨A', c', rfl, HNM.out⟩, B5.out⟩

set_option maxRecDepth 100000 in
set_option maxHeartbeats 4000000 in
theorem joinWords_any (F : Nat) (caps : Array Value) (A : Option Addr) (n m cap : Nat) (xss ws : List (List Int)) (w : World) (hg : Good n m xss) (hR : RowsAt w A m xss) (hs : SelOk n m xss ws)
    (henter : ∀ (args : Array Value) (W : World), (callFunc F args).run Try.prog W = .ok (.enter F args) W)
    (hsel : ∀ b, In n b → ¬ Lib.onesCount b ≤ 1 → ∀ W', Below w.heap.size w W' → Calls Try.prog F (#[.int .u16 (b : Int)] ++ caps) W' fun e w' => (∃ A' c', e = .returned (.slice A' (selW n ws b).length c') ∧ NumsAt w A' (selW n ws b).length (selW n ws b)) ∧ Below W'.heap.size W' w') :
    Calls Try.prog 60 #[.agg #[.int .i64 (n : Int), .slice A m cap], .func (.func F) #[] caps] w fun e w' => ∃ u, e = .returned u ∧ w'.ownsRow w.heap.size 2 1 u (wordF n xss ws).length ((wordF n xss ws).map (Value.int .i64)) ∧ Below w.heap.size w w' := by
  obtain ⟨i0, hi, hz0, hz1, hz2⟩ := info_parts info_int64
  have hn10 := hg.n10
  have HG := Lib.hid hg
  have HS := Lib.hid hs
  have HEN := Lib.hid henter
  have HSL := Lib.hid hsel
  obtain ⟨w1, hw1⟩ : ∃ w1, w1 = w.alloc (.cells #[.int .i64 (n : Int), .slice A m cap] 28) := ⟨_, rfl⟩
  have b1 : Below w.heap.size w w1 := by rw [hw1]; exact (Below.refl _ _).alloc (Nat.le_refl _) _
  have HBX := Lib.hid (show Box w1 w.heap.size [.int .i64 (n : Int), .slice A m cap] by rw [hw1]; exact Box.new _ _ _)
  have HX := Lib.hid (hR.below b1)
  have HB1 := Lib.hid b1
  have HW := Lib.hid hw1
  obtain ⟨R, hRR⟩ : ∃ R, R = wordF n xss ws := ⟨_, rfl⟩
  rw [← hRR]
  have HRR := Lib.hid hRR
  clear hR b1 hw1 hg hs henter hsel hRR
  go_enter Try.func60, Try.ntmps60
  go_wp2_with fail
  rw [← HW.out]
  refine (allStates_any A n m cap w1 hn10).mono ?_
  obtain ⟨F0, hF⟩ : ∃ F0, F0 = 2 ^ n - 1 := ⟨_, rfl⟩
  have HJ0 := Lib.hid (JoinM.start (m := m) (xss := xss) (ws := ws) hn10)
  rw [← hF] at HJ0 ⊢
  rintro e w2 ⟨rfl, b2⟩
  have B2 := Lib.hid b2
  clear b2 hF
  go_wp2_with fail
  go_loopw [5, 6] (fun ov sv wr => ∃ (X : List Int) (b r : Nat), JoinM n m xss ws X b r ∧ sv = .int .u16 (b : Int) ∧ wr.ownsRow w1.heap.size 2 1 ov X.length (X.map (Value.int .i64)) ∧ Below w1.heap.size w1 wr) (fun _ sv _ => Lib.onesCount (intOf sv).toNat)
  case atStart => exact ⟨[], F0, 10, HJ0.out, rfl, World.ownsRow_nil _ _ _ _, B2.out⟩
  case round =>
    obtain ⟨X, b, r, hj, rfl, hox, hbel⟩ := hrel
    have hb10 := hj.inn.lt hn10
    obtain ⟨A5, C5, rfl⟩ := own_form hox
    have HJ := Lib.hid hj
    have HOX := Lib.hid hox
    have HBL := Lib.hid hbel
    clear hj hox hbel
    by_cases ho : Lib.onesCount b ≤ 1
    · have HXE := Lib.hid (show R = X by rw [HRR.out]; exact (HJ.out.stop ho).symm)
      have HMB := Lib.hid (isMerged_any b wr hb10)
      rw [decide_eq_true ho] at HMB
      clear ho
      go_wp2_with fail
      refine HMB.out.mono ?_
      rintro e w3 ⟨rfl, d, hd⟩
      have b3 : Below wr.heap.size wr w3 := by rw [hd]; exact below_drewN' (Below.refl _ _) _
      have HB3 := Lib.hid (below_then HB1.out (below_then HBL.out b3))
      have HO3 := Lib.hid (own_base (own_below HOX.out b3) HB1.out.size)
      clear hd b3
      go_wp2_with fail
      go_ret
      rw [HXE.out]
      exact ⟨_, rfl, HO3.out, HB3.out⟩
    · obtain ⟨s1, s2, s3, s4, s5, _⟩ := HS.out.ok b HJ.out.inn ho
      obtain ⟨r', hj'⟩ := HJ.out.step HS.out ho
      have HJ2 := Lib.hid hj'
      have HMB := Lib.hid (isMerged_any b wr hb10)
      rw [decide_eq_false ho] at HMB
      have HCL := Lib.hid (fun W' hW => HSL.out b HJ.out.inn ho W' hW)
      obtain ⟨Z, hZ⟩ : ∃ Z, Z = selW n ws b := ⟨_, rfl⟩
      rw [← hZ] at s1 s2 s3 s5 HJ2 HCL
      have HOKZ := Lib.hid s1
      have HSZ := Lib.hid s2
      have HDEC := Lib.hid s5
      have hZ0 : 0 < Z.length := List.length_pos_iff.2 s3
      have HXL := Lib.hid (show X.length ≤ 4000 by have := HJ.out.len; omega)
      clear s1 s2 s3 s4 s5 hj' hZ ho
      go_wp2_with fail
      refine HMB.out.mono ?_
      rintro e w3 ⟨rfl, d, hd⟩
      have b3 : Below wr.heap.size wr w3 := by rw [hd]; exact below_drewN' (Below.refl _ _) _
      have HB3 := Lib.hid (below_then HBL.out b3)
      have HO3 := Lib.hid (own_below HOX.out b3)
      clear hd b3
      go_wp2_with fail
      rw [HEN.out, Oper.upon_enter]
      refine (HCL.out _ (below_then HB1.out HB3.out)).mono ?_
      rintro e w4 ⟨⟨A', c', rfl, hnum⟩, b4⟩
      obtain ⟨z0, bx, ox, hz9, rfl, hcz⟩ := hnum.at_ hZ0
      have HB4 := Lib.hid (below_then HB3.out b4)
      have HO4 := Lib.hid (own_below HO3.out b4)
      have HNZ := Lib.hid (hnum.below (below_then HB1.out HB4.out))
      have HNZ0 := Lib.hid hnum
      clear b4 hnum hcz hz9
      go_wp2_with (at_builtin; refine wpList_append_own _ rfl _ _ 35 rfl (w1.heap.size) 2 i0 (.int .i64 0) 1 8 Try.underlying35 hi hz0 hz1 hz2 rfl (by decide) _ _ _ rfl HO4.out ⟨bx, ox, none⟩ Z.length c' (Z.map (Value.int .i64)) rfl (by rw [List.length_map, Nat.mul_one]) (nums_cells HNZ.out) (ones_i64 Z) (by have := HXL.out; have := HSZ.out; unfold maxLen; omega) (by have := HXL.out; have := HSZ.out; omega) HB4.out.size ?_)
      intro v' w5 hown' hgrow _
      have HB5 := Lib.hid (below_grown HB4.out hgrow (fun g hg => (HO4.out.lt g hg).1))
      obtain ⟨A9, C9, rfl⟩ := own_form hown'
      have HO5 := Lib.hid (show w5.ownsRow w1.heap.size 2 1 (.slice A9 (X.length + Z.length) C9) (X ++ Z).length ((X ++ Z).map (Value.int .i64)) by rw [List.length_append, List.map_append]; exact hown')
      have q0 := (Box.below HBX.out HB5.out) 0 _ rfl
      have q1 := (Box.below HBX.out HB5.out) 1 _ rfl
      clear hown' hgrow
      go_wp2_with fail
      refine (afterWord_any A _ n m cap Z.length c' b xss Z w5 HG.out (HX.out.below HB5.out) (HNZ0.out.below (below_then HB1.out HB5.out)) HOKZ.out (by have := HSZ.out; omega) hb10).mono ?_
      rintro e w6 ⟨rfl, hD10, b6⟩
      have HB6 := Lib.hid (below_then HB5.out b6)
      have HO6 := Lib.hid (own_below HO5.out b6)
      clear b6 q0 q1
      go_wp2_with fail
      go_roundw
      case rel => exact ⟨X ++ Z, _, r', HJ2.out, rfl, HO6.out, HB6.out⟩
      case measure => have := HDEC.out; simpa [intOf] using this

set_option maxRecDepth 100000 in
set_option maxHeartbeats 4000000 in
theorem resetWord_any (A Wd : Option Addr) (n m cap M c : Nat) (xss ws : List (List Int)) (w : World) (hg : Good n m xss) (hR : RowsAt w A m xss) (hs : SelOk n m xss ws) (hW : RowsAt w Wd M ws) :
    Calls Try.prog 78 #[.slice Wd M c, .agg #[.int .i64 (n : Int), .slice A m cap]] w (ListsTo (if 400 < (wordF n xss ws).length then ([], 3) else (wordF n xss ws, 0)) w) := by
  have hn10 := hg.n10
  have HG := Lib.hid hg
  have HS := Lib.hid hs
  obtain ⟨W2, hW2⟩ : ∃ W2, W2 = (w.alloc (.cells #[.slice Wd M c] 105)).alloc (.cells #[.int .i64 (n : Int), .slice A m cap] 28) := ⟨_, rfl⟩
  have b2 : Below w.heap.size w W2 := by rw [hW2]; go_grown
  have B2 := Lib.hid b2
  have HWB := Lib.hid (show W2.cell? ⟨w.heap.size, 0, none⟩ = some (.slice Wd M c) by rw [hW2]; exact (((Below.refl _ _).alloc (Nat.le_refl _) _).cell (by simp)).trans (cell_of_row _ _ 0 _ _ _ (heap_alloc_new _ _)))
  have HB2 := Lib.hid (show Box W2 (w.heap.size + 1) [.int .i64 (n : Int), .slice A m cap] by
    have h9 := Box.new (w.alloc (.cells #[.slice Wd M c] 105)) #[.int .i64 (n : Int), .slice A m cap] 28
    rw [World.size_alloc, ← hW2] at h9
    exact h9)
  have HX2 := Lib.hid (hR.below b2)
  have HV2 := Lib.hid (hW.below b2)
  have HW2 := Lib.hid hW2
  obtain ⟨V, hV⟩ : ∃ V, V = wordF n xss ws := ⟨_, rfl⟩
  rw [← hV]
  have HVV := Lib.hid hV
  obtain ⟨R, hRR⟩ : ∃ R : List Int × Int, R = if 400 < V.length then ([], 3) else (V, 0) := ⟨_, rfl⟩
  rw [← hRR]
  have HRR := Lib.hid hRR
  have c0 := HB2.out 0 _ rfl
  have c1 := HB2.out 1 _ rfl
  rw [hW2] at c0 c1
  clear hR hW b2 hW2 hg hs hV hRR
  go_enter Try.func78, Try.ntmps78
  go_wp2_with fail
  rw [← HW2.out]
  clear c0 c1
  refine (allStates_any A n m cap W2 hn10).mono ?_
  obtain ⟨F0, hF⟩ : ∃ F0, F0 = 2 ^ n - 1 := ⟨_, rfl⟩
  rw [← hF]
  have hF10 : F0 < 1024 := by have := pow_le hn10; have := Nat.two_pow_pos n; omega
  have HPS := Lib.hid (show prsS F0 = (prL n n).map fun g => pairB g.1 g.2 by rw [hF]; exact prsS_full hn10)
  rintro e w3 ⟨rfl, b3⟩
  have B3 := Lib.hid (below_then B2.out b3)
  have HX3 := Lib.hid (HX2.out.below b3)
  have HV3 := Lib.hid (HV2.out.below b3)
  have HB3 := Lib.hid (Box.below HB2.out b3)
  have HWB3 := Lib.hid ((b3.cell (cell_lt HWB.out)).trans HWB.out)
  clear b3 hF
  go_wp2_with fail
  refine (pairs_any F0 w3 hF10).mono ?_
  rw [HPS.out]
  rintro e w4 ⟨u, rfl, o4, b4⟩
  obtain ⟨Q, hQ⟩ : ∃ Q, Q = (prL n n).map fun g => pairB g.1 g.2 := ⟨_, rfl⟩
  rw [← hQ] at o4
  obtain ⟨A4, C4, rfl⟩ := own2_form o4
  have HS4 := Lib.hid (show SetsAt w4 A4 Q.length Q by
    rcases o4.2 with ⟨hv0, h0⟩ | ⟨g, cap', cur, hv0, hg, hh, hnc, hcap, hsz, htake⟩
    · have hq : Q = [] := List.eq_nil_of_length_eq_zero (by omega)
      refine ⟨rfl, fun k b hb => ?_⟩
      rw [hq] at hb; simp at hb
    · simp only [Value.slice.injEq] at hv0
      obtain ⟨rfl, _, rfl⟩ := hv0
      exact SetsAt.own o4 rfl)
  have HQ := Lib.hid hQ
  have B4 := Lib.hid (below_then B3.out b4)
  have HX4 := Lib.hid (HX3.out.below b4)
  have HV4 := Lib.hid (HV3.out.below b4)
  have HB4 := Lib.hid (Box.below HB3.out b4)
  have HWB4 := Lib.hid ((b4.cell (cell_lt HWB3.out)).trans HWB3.out)
  obtain ⟨w5, hw5⟩ : ∃ w5, w5 = w4.alloc (.cells #[.slice A4 Q.length C4] 81) := ⟨_, rfl⟩
  have b5 : Below w4.heap.size w4 w5 := by rw [hw5]; exact (Below.refl _ _).alloc (Nat.le_refl _) _
  have HCL := Lib.hid (show ClosW n ws w.heap.size w4.heap.size Wd A4 M c Q.length C4 w5 from
    ⟨(b5.cell (cell_lt HWB4.out)).trans HWB4.out, by rw [hw5]; exact cell_of_row _ _ 0 _ _ _ (heap_alloc_new _ _), HV4.out.below b5, by have h9 := HS4.out.below b5; rw [HQ.out] at h9 ⊢; exact h9⟩)
  have B5 := Lib.hid (below_then B4.out b5)
  have HX5 := Lib.hid (HX4.out.below b5)
  have HB5 := Lib.hid (Box.below HB4.out b5)
  have HW5 := Lib.hid hw5
  clear o4 b4 hQ b5 hw5
  go_upto_region 2 with fail
  rw [← HW5.out]
  have q0 := HB5.out 0 _ rfl
  have q1 := HB5.out 1 _ rfl
  go_wp2_with fail
  refine (joinWords_any 127 #[.pointer (some ⟨w.heap.size, 0, none⟩), .pointer (some ⟨w4.heap.size, 0, none⟩)] A n m cap xss ws w5 HG.out HX5.out HS.out (fun _ _ => rfl) (fun b hb ho W' hW => by
    exact resetSel_any n m b _ _ xss ws Wd A4 M c Q.length C4 w5 W' hn10 HS.out HCL.out hW hb ho)).mono ?_
  rw [← HVV.out]
  rintro e w6 ⟨u, rfl, o6, b6⟩
  obtain ⟨A6, C6, rfl⟩ := own_form o6
  have HO6 := Lib.hid o6
  have B6 := Lib.hid (below_then B5.out b6)
  clear o6 b6 q0 q1
  by_cases hbig : 400 < V.length
  · have hb4 : (400 : Int) < (V.length : Int) := by omega
    have HF := Lib.hid (HRR.out.trans (if_pos hbig))
    clear hbig
    go_wp2_with fail
    go_ret2
    exact listsTo_mk (xs := []) HF.out (World.ownsRow_nil _ _ _ _) B6.out
  · have hb4 : ¬ (400 : Int) < (V.length : Int) := by omega
    have HF := Lib.hid (HRR.out.trans (if_neg hbig))
    clear hbig
    go_wp2_with fail
    go_ret2
    exact listsTo_mk HF.out (own_base HO6.out B5.out.size) B6.out

end Go.Proofs.Ytcglncepmieaaaa

namespace Go.Proofs.Ytcglncepmieaaaa
open Go.RowKit Go.Deep Go.ChangeShapes Go.WideShapes
open Hunt Srch From Moved

theorem taHit (x : Value) (w : World) : (Instr.typeAssert (.iface 105 x) 100 105 true).run Try.prog w = .ok (.tuple #[x, .bool true]) w := by kernel_rfl
theorem taMiss (x : Value) (w : World) : (Instr.typeAssert (.iface 150 x) 100 105 true).run Try.prog w = .ok (.tuple #[.slice none 0 0, .bool false]) w := by kernel_rfl

set_option maxRecDepth 100000 in
set_option maxHeartbeats 4000000 in
theorem implWordOfCertificate_any (s : Int) (A : Option Addr) (m cap : Nat) (xss : List (List Int)) (k : Int) (Pd : Option Addr) (N c : Nat) (ps : List (List Int)) (Wd : Option Addr) (M d : Nat) (ws : List (List Int)) (w : World) (h : RowsAt w A m xss) (hm : m ≤ 4611686018427387904)
    (hrows : ∀ (r : Nat) (xs : List Int), xss[r]? = some xs → xs.length ≤ 4611686018427387904) (hP : RowsAt w Pd N ps) (hN : N ≤ 4611686018427387904) (hpr : ∀ (r : Nat) (xs : List Int), ps[r]? = some xs → xs.length ≤ 4611686018427387904)
    (hW : RowsAt w Wd M ws) (hM : M ≤ 4611686018427387904) (hwr : ∀ (r : Nat) (xs : List Int), ws[r]? = some xs → xs.length ≤ 4611686018427387904) :
    Calls Try.prog 39 #[.agg #[.int .i64 s, .slice A m cap], .agg #[.int .i64 k, .slice Pd N c, .slice Wd M d]] w (ListsTo (wordOfCertificate s xss k ps ws) w) := by
  have HR := Lib.hid hrows
  have HM := Lib.hid h.1
  obtain ⟨W2, hW2⟩ : ∃ W2, W2 = (w.alloc (.cells #[.int .i64 s, .slice A m cap] 28)).alloc (.cells #[.int .i64 k, .slice Pd N c, .slice Wd M d] 41) := ⟨_, rfl⟩
  have b2 : Below w.heap.size w W2 := by rw [hW2]; go_grown
  have B2 := Lib.hid b2
  have HB2 := Lib.hid (show Box W2 w.heap.size [.int .i64 s, .slice A m cap] by rw [hW2]; exact Box.below (Box.new w _ _) ((Below.refl _ _).alloc (Nat.le_refl _) _))
  have HC2 := Lib.hid (show Box W2 (w.heap.size + 1) [.int .i64 k, .slice Pd N c, .slice Wd M d] by
    have h9 := Box.new (w.alloc (.cells #[.int .i64 s, .slice A m cap] 28)) #[.int .i64 k, .slice Pd N c, .slice Wd M d] 41
    rw [World.size_alloc, ← hW2] at h9
    exact h9)
  have HX2 := Lib.hid (h.below b2)
  have HP2 := Lib.hid (hP.below b2)
  have HV2 := Lib.hid (hW.below b2)
  have HPL := Lib.hid hP.1
  have HWL := Lib.hid hW.1
  have HW2 := Lib.hid hW2
  have HPR := Lib.hid hpr
  have HWR := Lib.hid hwr
  obtain ⟨R, hRR⟩ : ∃ R, R = wordOfCertificate s xss k ps ws := ⟨_, rfl⟩
  rw [← hRR]
  have HRR := Lib.hid hRR
  clear hRR
  have c0 := HB2.out 0 _ rfl
  have c1 := HB2.out 1 _ rfl
  rw [hW2] at c0 c1
  clear hrows b2 hW2 h hP hW hpr hwr
  go_enter Try.func39, Try.ntmps39
  go_wp2_with fail
  rw [← HW2.out]
  refine (implValid_any s A m cap xss W2 HX2.out hm HR.out).mono ?_
  rintro e w1 ⟨rfl, b1⟩
  have B1 := Lib.hid (below_then B2.out b1)
  have HX1 := Lib.hid (HX2.out.below b1)
  have HP1 := Lib.hid (HP2.out.below b1)
  have HV1 := Lib.hid (HV2.out.below b1)
  have HB1 := Lib.hid (Box.below HB2.out b1)
  have HC1 := Lib.hid (Box.below HC2.out b1)
  clear b1 c0 c1
  rcases hok : okA s xss with _ | _
  · have HF := Lib.hid (HRR.out.trans (wordOfCertificate_1 hok))
    go_wp2_with fail
    go_ret2
    exact listsTo_mk (xs := []) HF.out (World.ownsRow_nil _ _ _ _) B1.out
  · obtain ⟨n, hsn, hg⟩ := good_of hok HM.out
    subst hsn
    have HG := Lib.hid hg
    have HOK := Lib.hid hok
    have d0 := HC1.out 0 _ rfl
    have d1 := HC1.out 1 _ rfl
    have d2 := HC1.out 2 _ rfl
    clear hok hg
    go_wp2_with fail
    refine (claimOf_any k Pd Wd N c M d ps ws w1 HPL.out HWL.out).mono ?_
    rintro e w3 ⟨rfl, b3⟩
    have B3 := Lib.hid (below_then B1.out b3)
    have HX3 := Lib.hid (HX1.out.below b3)
    have HP3 := Lib.hid (HP1.out.below b3)
    have HV3 := Lib.hid (HV1.out.below b3)
    have HB3 := Lib.hid (Box.below HB1.out b3)
    have q0 := HB3.out 0 _ rfl
    have q1 := HB3.out 1 _ rfl
    clear b3 d0 d1 d2
    by_cases h1 : k = 1 ∧ ps.length = 0
    · have hk2 : ¬ k = 2 := by omega
      rcases hD : mgB n m xss ws with _ | _
      · have HF := Lib.hid (HRR.out.trans (wordOfCertificate_8 HOK.out HM.out ((rightB_1 (ws := ws) h1).trans hD)))
        have HMm := Lib.hid (mergesHolds_any Wd A M d n m cap ws xss w3 HG.out HX3.out HV3.out hM HWR.out)
        rw [hD] at HMm
        rw [claimV_1 h1]
        clear hD h1 hk2
        go_wp2_with fail
        refine HMm.out.mono ?_
        rintro e w4 ⟨rfl, b4⟩
        have B4 := Lib.hid (below_then B3.out b4)
        clear b4
        go_wp2_with fail
        go_ret2
        exact listsTo_mk (xs := []) HF.out (World.ownsRow_nil _ _ _ _) B4.out
      · have hr := (rightB_1 (n := n) (m := m) (xss := xss) (ws := ws) h1).trans hD
        have HSEL := Lib.hid (selOk_of HG.out hD)
        have HF3 := Lib.hid (fun hl => HRR.out.trans (wordOfCertificate_3 HOK.out HM.out hr hk2 hl))
        have HF0 := Lib.hid (fun hl => HRR.out.trans (wordOfCertificate_0 HOK.out HM.out hr hk2 hl))
        have HRE := Lib.hid (show R = if 400 < (wordF n xss ws).length then ([], 3) else (wordF n xss ws, 0) by
          by_cases hl : 400 < (wordF n xss ws).length
          · rw [if_pos hl]; exact HF3.out hl
          · rw [if_neg hl]; exact HF0.out hl)
        have HMm := Lib.hid (mergesHolds_any Wd A M d n m cap ws xss w3 HG.out HX3.out HV3.out hM HWR.out)
        rw [hD] at HMm
        rw [claimV_1 h1]
        clear hD h1 hk2 hr
        go_wp2_with fail
        refine HMm.out.mono ?_
        rintro e w4 ⟨rfl, b4⟩
        have B4 := Lib.hid (below_then B3.out b4)
        have HX4 := Lib.hid (HX3.out.below b4)
        have HV4 := Lib.hid (HV3.out.below b4)
        have HB4 := Lib.hid (Box.below HB3.out b4)
        have z0 := HB4.out 0 _ rfl
        have z1 := HB4.out 1 _ rfl
        have hta := taHit (.slice Wd M d) w4
        clear b4 q0 q1
        go_wp2_with fail
        refine (resetWord_any A Wd n m cap M d xss ws w4 HG.out HX4.out HSEL.out HV4.out).mono ?_
        rw [← HRE.out]
        rintro e w5 ⟨u, rfl, o5, b5⟩
        have HO5 := Lib.hid (own_base o5 B4.out.size)
        have B5 := Lib.hid (below_then B4.out b5)
        clear o5 b5 z0 z1
        go_wp2_with fail
        go_ret2
        exact listsTo_mk rfl HO5.out B5.out
    · by_cases h2 : k = 2 ∧ ws.length = 0
      · rcases hD : apoB n m xss ps with _ | _
        · have HF := Lib.hid (HRR.out.trans (wordOfCertificate_8 HOK.out HM.out ((rightB_2 (ps := ps) h2).trans hD)))
          have HMm := Lib.hid (apartHolds_any Pd A N c n m cap ps xss w3 HG.out HX3.out HP3.out hN HPR.out)
          rw [hD] at HMm
          rw [claimV_2 h1 h2]
          clear hD h1 h2
          go_wp2_with fail
          refine HMm.out.mono ?_
          rintro e w4 ⟨rfl, b4⟩
          have B4 := Lib.hid (below_then B3.out b4)
          clear b4
          go_wp2_with fail
          go_ret2
          exact listsTo_mk (xs := []) HF.out (World.ownsRow_nil _ _ _ _) B4.out
        · have HF := Lib.hid (HRR.out.trans (wordOfCertificate_4 HOK.out HM.out ((rightB_2 (ps := ps) h2).trans hD) h2.1))
          have HMm := Lib.hid (apartHolds_any Pd A N c n m cap ps xss w3 HG.out HX3.out HP3.out hN HPR.out)
          rw [hD] at HMm
          rw [claimV_2 h1 h2]
          clear hD h1 h2
          go_wp2_with fail
          refine HMm.out.mono ?_
          rintro e w4 ⟨rfl, b4⟩
          have B4 := Lib.hid (below_then B3.out b4)
          have hta := taMiss (.slice Pd N c) w4
          clear b4
          go_wp2_with fail
          go_ret2
          exact listsTo_mk (xs := []) HF.out (World.ownsRow_nil _ _ _ _) B4.out
      · have HF := Lib.hid (HRR.out.trans (wordOfCertificate_8 HOK.out HM.out (rightB_0 (n := n) (m := m) (xss := xss) h1 h2)))
        rw [claimV_0 h1 h2]
        clear h1 h2
        go_wp2_with fail
        go_ret2
        exact listsTo_mk (xs := []) HF.out (World.ownsRow_nil _ _ _ _) B3.out

end Go.Proofs.Ytcglncepmieaaaa
