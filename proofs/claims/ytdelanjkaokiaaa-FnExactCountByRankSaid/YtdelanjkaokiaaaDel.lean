/-
  slices.DeleteFunc over lists of sets, for any function value that keeps a state of its own.
-/
import Derived.Test.YtdelanjkaokiaaaLamp
import Derived.Lib.SliceRun
namespace Go.Proofs.Ytdelanjkaokiaaa
open Go.RowKit Go.Deep Go.ChangeShapes Go.WideShapes

def bitU (b : Nat) : Value := .int .u16 (b : Int)
theorem ones_bitU (bs : List Nat) : ∀ u ∈ bs.map bitU, u.oneCell' = true := by
  intro u hu
  obtain ⟨b, _, rfl⟩ := List.mem_map.1 hu
  rfl
/-- A list of sets of a call's own. -/
def SetsIn (base : Nat) (w : World) (v : Value) (bs : List Nat) : Prop := w.ownsRow base 80 1 v bs.length (bs.map bitU)
theorem own_setCells {base g n c : Nat} {e : TypeId} : ∀ (zs xs ys : List Value) (w : World), w.ownsRow base e 1 (.slice (some ⟨g, 0, none⟩) n c) n (xs ++ ys) → ys.length = zs.length → (w.setCells g xs.length zs).ownsRow base e 1 (.slice (some ⟨g, 0, none⟩) n c) n (xs ++ zs)
  | [], xs, ys, w, h, hl => by
    obtain rfl : ys = [] := List.eq_nil_of_length_eq_zero hl
    exact h
  | z :: zs, xs, [], w, h, hl => by simp at hl
  | z :: zs, xs, y :: ys, w, h, hl => by
    have h1 := (h.stored xs.length z).1
    rw [List.set_append_right _ _ (Nat.le_refl _), Nat.sub_self, List.set_cons_zero] at h1
    have h2 : (w.setCell ⟨g, xs.length, none⟩ z).ownsRow base e 1 (.slice (some ⟨g, 0, none⟩) n c) n ((xs ++ [z]) ++ ys) := by simpa using h1
    have h3 := own_setCells zs (xs ++ [z]) ys _ h2 (by simpa using hl)
    simpa [World.setCells] using h3
theorem only_setCells {g : Nat} : ∀ (zs : List Value) (o : Nat) (w : World), Only g (g + 1) w (w.setCells g o zs)
  | [], _, w => Only.refl _ _ _
  | z :: zs, o, w => by
    have h1 := only_setCellL w g o z
    exact h1.trans (only_setCells zs (o + 1) _)
theorem own_prefix {w : World} {base g n c : Nat} {e : TypeId} {xs ys : List Value} (h : w.ownsRow base e 1 (.slice (some ⟨g, 0, none⟩) n c) n (xs ++ ys)) : w.ownsRow base e 1 (.slice (some ⟨g, 0, none⟩) xs.length c) xs.length xs := by
  obtain ⟨h1, h2⟩ := h
  rw [Nat.mul_one, List.length_append] at h1
  refine ⟨by simp, ?_⟩
  rcases h2 with ⟨h', _⟩ | ⟨g', cap', cur, h', hb, hg, hnc, hcm, hcs, htake⟩
  · simp at h'
  · simp only [Value.slice.injEq, Option.some.injEq, Addr.mk.injEq, and_true, true_and] at h'
    obtain ⟨rfl, rfl⟩ := h'
    refine .inr ⟨g, c, cur, rfl, hb, hg, by omega, hcm, hcs, ?_⟩
    rw [Nat.mul_one] at htake ⊢
    have h3 := congrArg (List.take xs.length) htake
    rw [List.take_take, Nat.min_eq_left (by omega), List.take_left] at h3
    exact h3

section
variable (F : Nat) (caps : Array Value) (P : Nat → Bool) (J : World → Nat → Prop) (g : Nat)
/-- What the function value does at each element: it tells P of it, and keeps a state of its own; the list's block g is not its. -/
structure DelOk (bs : List Nat) (lo hi : Nat) : Prop where
  enter : ∀ (args : Array Value) (W : World), (callFunc F args).run Try.prog W = .ok (.enter F args) W
  apart : g < lo ∨ hi ≤ g
  call : ∀ (k b : Nat) (W : World), bs[k]? = some b → J W k → Calls Try.prog F (#[.int .u16 (b : Int)] ++ caps) W fun e w' => e = .returned (.bool (P b)) ∧ J w' (k + 1) ∧ Only lo hi W w'
  keep : ∀ (W W' : World) (k : Nat), J W k → Only g (g + 1) W W' → J W' k
end

theorem keep_snoc {P : Nat → Bool} {bs : List Nat} {k b : Nat} (h : bs[k]? = some b) : (bs.take (k + 1)).filter (fun b => !P b) = (bs.take k).filter (fun b => !P b) ++ if P b = true then [] else [b] := by
  rw [List.take_add_one, h]
  simp only [Option.toList, List.filter_append]
  congr 1
  cases hp : P b <;> simp [hp]

set_option maxRecDepth 100000 in
set_option maxHeartbeats 2000000 in
theorem indexFuncU_any (F : Nat) (caps : Array Value) (P : Nat → Bool) (J : World → Nat → Prop) (ty : TypeId) (g lo hi base n c : Nat) (bs : List Nat) (w : World) (hok : DelOk F caps P J g bs lo hi) (hn : n ≤ 4611686018427387904) (hl : bs.length = n)
    (ho : w.ownsRow base ty 1 (.slice (some ⟨g, 0, none⟩) n c) n (bs.map bitU)) (hJ : J w 0) :
    Calls Try.prog 137 #[.slice (some ⟨g, 0, none⟩) n c, .func (.func F) #[] caps] w fun e w' =>
      ((e = .returned (.int .i64 (-1)) ∧ bs.filter (fun b => !P b) = bs ∧ J w' n) ∨ ∃ (k b : Nat), e = .returned (.int .i64 k) ∧ bs[k]? = some b ∧ P b = true ∧ (bs.take k).filter (fun b => !P b) = bs.take k ∧ J w' (k + 1)) ∧
      w'.ownsRow base ty 1 (.slice (some ⟨g, 0, none⟩) n c) n (bs.map bitU) ∧ Only lo hi w w' := by
  have HOK := Lib.hid hok
  have HL := Lib.hid hl
  clear hok hl
  go_enter Try.func137, Try.ntmps137
  go_wp2_with fail
  go_loopw [8] (fun i wr => ∃ k : Nat, k ≤ n ∧ i = .int .i64 k ∧ (bs.take k).filter (fun b => !P b) = bs.take k ∧ J wr k ∧ wr.ownsRow base ty 1 (.slice (some ⟨g, 0, none⟩) n c) n (bs.map bitU) ∧ Only lo hi w wr) (fun i _ => n - (intOf i).toNat)
  case atStart => exact ⟨0, Nat.zero_le _, rfl, rfl, hJ, ho, Only.refl _ _ _⟩
  case round =>
    obtain ⟨k, hk, rfl, hflt, hJk, hown, hon⟩ := hrel
    have HFL := Lib.hid hflt
    have HJ := Lib.hid hJk
    have HO := Lib.hid hown
    have HON := Lib.hid hon
    clear hflt hJk hon
    by_cases hlt : k < n
    · obtain ⟨b, hb⟩ : ∃ b, bs[k]? = some b := ⟨bs[k]'(by rw [HL.out]; exact hlt), List.getElem?_eq_getElem (by rw [HL.out]; exact hlt)⟩
      have hc : wr.cell? ⟨g, k, none⟩ = some (.int .u16 (b : Int)) := by
        rw [hown.cellAt k (by omega), List.getElem?_map, hb]; rfl
      have HB := Lib.hid hb
      have hk0 : (0 : Int) ≤ (k : Int) := by omega
      have hkn : (k : Int) < (n : Int) := by omega
      clear hb hown
      go_wp2_with fail
      rw [HOK.out.enter, Oper.upon_enter]
      refine (HOK.out.call k b wr HB.out HJ.out).mono ?_
      rintro e w1 ⟨rfl, j1, o1⟩
      have HJ1 := Lib.hid j1
      have HO1 := Lib.hid (o1.own HO.out (fun g' hg' => by cases hg'; exact HOK.out.apart))
      have HON1 := Lib.hid (HON.out.trans o1)
      clear j1 o1 hc
      rcases hpb : P b with _ | _
      · have HPB := Lib.hid hpb
        clear hpb
        go_wp2_with fail
        go_roundw
        case rel => exact ⟨k + 1, by omega, by go_num, by rw [keep_snoc HB.out, HFL.out, HPB.out, take_snoc HB.out]; rfl, HJ1.out, HO1.out, HON1.out⟩
        case measure => simp [intOf]; omega
      · have HPB := Lib.hid hpb
        clear hpb
        go_wp2_with fail
        go_ret
        exact ⟨.inr ⟨k, b, rfl, HB.out, HPB.out, HFL.out, HJ1.out⟩, HO1.out, HON1.out⟩
    · have hkn : k = n := by omega
      have HKN := Lib.hid hkn
      clear hkn hown
      go_wp2_with fail
      go_ret
      have hf := HFL.out
      rw [List.take_of_length_le (by rw [HL.out, HKN.out]; exact Nat.le_refl _)] at hf
      exact ⟨.inl ⟨rfl, hf, by rw [← HKN.out]; exact HJ.out⟩, HO.out, HON.out⟩


set_option maxRecDepth 100000 in
set_option maxHeartbeats 4000000 in
theorem deleteFuncU_any (F : Nat) (caps : Array Value) (P : Nat → Bool) (J : World → Nat → Prop) (ty : TypeId) (g lo hi base n c : Nat) (bs : List Nat) (w : World) (hok : DelOk F caps P J g bs lo hi) (hn : n ≤ 4611686018427387904) (hl : bs.length = n)
    (ho : w.ownsRow base ty 1 (.slice (some ⟨g, 0, none⟩) n c) n (bs.map bitU)) (hJ : J w 0) :
    Calls Try.prog 126 #[.slice (some ⟨g, 0, none⟩) n c, .func (.func F) #[] caps] w fun e w' => ∃ m : Nat, m = (bs.filter fun b => !P b).length ∧ e = .returned (.slice (some ⟨g, 0, none⟩) m c) ∧
      w'.ownsRow base ty 1 (.slice (some ⟨g, 0, none⟩) m c) m ((bs.filter fun b => !P b).map bitU) ∧ J w' n ∧ ∀ lo' hi', lo' ≤ lo → hi ≤ hi' → lo' ≤ g → g < hi' → Only lo' hi' w w' := by
  have HOK := Lib.hid hok
  have HL := Lib.hid hl
  have hwide : ∀ {a b : World}, Only lo hi a b → ∀ lo' hi', lo' ≤ lo → hi ≤ hi' → lo' ≤ g → g < hi' → Only lo' hi' a b := fun h lo' hi' h1 h2 _ _ => h.wide h1 h2
  clear hok hl
  go_enter Try.func126, Try.ntmps126
  go_wp2_with fail
  refine (indexFuncU_any F caps P J ty g lo hi base n c bs w HOK.out hn HL.out ho hJ).mono ?_
  rintro e w1 ⟨⟨rfl, hall, j1⟩ | ⟨i, b0, rfl, hb0, hp0, hpre, j1⟩, o1, on1⟩
  · have HO1 := Lib.hid o1
    have HON1 := Lib.hid on1
    have HJ1 := Lib.hid j1
    have HALL := Lib.hid hall
    clear o1 on1 j1 hall
    go_wp2_with fail
    go_ret
    refine ⟨n, by rw [HALL.out, HL.out], rfl, by rw [HALL.out]; exact HO1.out, HJ1.out, hwide HON1.out⟩
  · have hin : i < n := by
      rcases Nat.lt_or_ge i bs.length with h | h
      · rw [← HL.out]; exact h
      · rw [List.getElem?_eq_none h] at hb0; cases hb0
    have HO1 := Lib.hid o1
    have HON1 := Lib.hid on1
    have HJ1 := Lib.hid j1
    have HB0 := Lib.hid hb0
    have HP0 := Lib.hid hp0
    have HPRE := Lib.hid hpre
    have hi0 : ((i : Int) == -1) = false := by rw [beq_eq_false_iff_ne]; omega
    clear o1 on1 j1 hb0 hp0 hpre
    go_wp2_with fail
    go_loopw [5, 6] (fun iv jv wr => ∃ (a j : Nat) (KL mid : List Nat), j ≤ n ∧ a < j ∧ iv = .int .i64 a ∧ jv = .int .i64 j ∧ a = KL.length ∧ KL = (bs.take j).filter (fun b => !P b) ∧ KL.length + mid.length = j ∧ wr.ownsRow base ty 1 (.slice (some ⟨g, 0, none⟩) n c) n ((KL ++ mid ++ bs.drop j).map bitU) ∧ J wr j ∧ Only (min lo g) (max hi (g + 1)) w wr ∧ w.heap.size ≤ wr.heap.size) (fun _ jv _ => n - (intOf jv).toNat)
    case atStart =>
      have hlen : (bs.take i).length = i := by rw [List.length_take, HL.out]; omega
      have hk1 : (bs.take (i + 1)).filter (fun b => !P b) = bs.take i := by rw [keep_snoc HB0.out, HP0.out, HPRE.out]; simp
      refine ⟨i, i + 1, bs.take i, [b0], by omega, by omega, rfl, rfl, hlen.symm, hk1.symm, by rw [hlen]; rfl, ?_, HJ1.out, HON1.out.wide (Nat.min_le_left _ _) (Nat.le_max_left _ _), HON1.out.size⟩
      have e1 : bs.take i ++ [b0] ++ bs.drop (i + 1) = bs := by
        have := take_snoc HB0.out
        rw [← this, List.take_append_drop]
      rw [e1]
      exact HO1.out
    case round =>
      obtain ⟨a, j, KL, mid, hj, haj, rfl, rfl, ha, hKL, hlen, hown, hJj, hon, hsz⟩ := hrel
      have HA := Lib.hid ha
      have HKL := Lib.hid hKL
      have HLEN := Lib.hid hlen
      have HO := Lib.hid hown
      have HJJ := Lib.hid hJj
      have HON := Lib.hid hon
      have HSZ := Lib.hid hsz
      clear hKL hJj hon hsz
      by_cases hlt : j < n
      · obtain ⟨b, hb⟩ : ∃ b, bs[j]? = some b := ⟨bs[j]'(by rw [HL.out]; exact hlt), List.getElem?_eq_getElem (by rw [HL.out]; exact hlt)⟩
        have hcell : wr.cell? ⟨g, j, none⟩ = some (.int .u16 (b : Int)) := by
          rw [hown.cellAt j (by omega), List.getElem?_map, List.getElem?_append_right (by rw [List.length_append]; omega), List.length_append, hlen, Nat.sub_self, List.getElem?_drop, Nat.add_zero, hb]; rfl
        have HB := Lib.hid hb
        have hj0 : (0 : Int) ≤ (j : Int) := by omega
        have hjn : (j : Int) < (n : Int) := by omega
        clear hb hown hlen ha
        go_wp2_with fail
        rw [HOK.out.enter, Oper.upon_enter]
        refine (HOK.out.call j b wr HB.out HJJ.out).mono ?_
        rintro e w2 ⟨rfl, j2, o2⟩
        have hown2 := o2.own HO.out (fun g' hg' => by cases hg'; exact HOK.out.apart)
        have HO2 := Lib.hid hown2
        have HJ2 := Lib.hid j2
        have HON2 := Lib.hid (HON.out.trans (o2.wide (Nat.min_le_left _ _) (Nat.le_max_left _ _)))
        have HSZ2 := Lib.hid (Nat.le_trans HSZ.out o2.size)
        have hD : bs.drop j = b :: bs.drop (j + 1) := by
          have hjl : j < bs.length := by rw [HL.out]; exact hlt
          rw [List.drop_eq_getElem_cons hjl]
          have := HB.out
          rw [List.getElem?_eq_getElem hjl] at this
          rw [Option.some.inj this]
        have HD := Lib.hid hD
        clear j2 o2 hcell hD
        rcases hpb : P b with _ | _
        · -- it stays
          obtain ⟨x, mid', rfl⟩ : ∃ x mid', mid = x :: mid' := by
            rcases mid with _ | ⟨x, mid'⟩
            · have h1 := HLEN.out; have h2 := HA.out; simp at h1; omega
            · exact ⟨x, mid', rfl⟩
          have HPB := Lib.hid hpb
          have hu : w2.cell? ⟨g, a, none⟩ = some (.int .u16 (x : Int)) := by
            rw [hown2.cellAt a (by omega), List.getElem?_map, List.append_assoc, List.getElem?_append_right (by rw [HA.out]; exact Nat.le_refl _), HA.out, Nat.sub_self]; rfl
          have hf : w2.frozen? ⟨g, a, none⟩ = false := hown2.frozenAt a
          have hst := hown2.stored a (.int .u16 (b : Int))
          have hset : ((KL ++ x :: mid' ++ bs.drop j).map bitU).set a (.int .u16 (b : Int)) = ((KL ++ [b]) ++ (mid' ++ [b]) ++ bs.drop (j + 1)).map bitU := by
            rw [HD.out, HA.out]
            simp [List.set_append_right, bitU]
          have HS1 := Lib.hid (hset ▸ hst.1)
          have HS2 := Lib.hid (only_setCellL w2 g a (.int .u16 (b : Int)))
          have ha0 : (0 : Int) ≤ (a : Int) := by omega
          have han : (a : Int) < (n : Int) := by omega
          clear hown2 hst hset hpb
          go_wp2_with fail
          go_roundw
          case rel =>
            refine ⟨a + 1, j + 1, KL ++ [b], mid' ++ [b], by omega, by omega, by go_num, by go_num, by rw [List.length_append, HA.out]; rfl, ?_, ?_, HS1.out, HOK.out.keep _ _ _ HJ2.out HS2.out, HON2.out.trans (HS2.out.wide (Nat.min_le_right _ _) (Nat.le_max_right _ _)), by rw [World.size_setCell]; exact HSZ2.out⟩
            · rw [keep_snoc HB.out, HPB.out, ← HKL.out]; rfl
            · have := HLEN.out
              simp only [List.length_append, List.length_cons, List.length_nil] at this ⊢
              omega
          case measure => simp [intOf]; omega
        · -- it goes
          have HPB := Lib.hid hpb
          clear hpb hown2
          go_wp2_with fail
          go_roundw
          case rel =>
            refine ⟨a, j + 1, KL, mid ++ [b], by omega, by omega, rfl, by go_num, HA.out, ?_, ?_, ?_, HJ2.out, HON2.out, HSZ2.out⟩
            · rw [keep_snoc HB.out, HPB.out, ← HKL.out]; simp
            · have := HLEN.out
              simp only [List.length_append, List.length_cons, List.length_nil]
              omega
            · have h := HO2.out
              rw [HD.out] at h
              simpa using h
          case measure => simp [intOf]; omega
      · have hjn : j = n := by omega
        have hD : bs.drop j = [] := by rw [hjn]; exact List.drop_of_length_le (by rw [HL.out]; exact Nat.le_refl _)
        rw [hD, List.append_nil] at hown
        have hT : bs.take j = bs := by rw [hjn]; exact List.take_of_length_le (by rw [HL.out]; exact Nat.le_refl _)
        have hcc : n ≤ c := by
          rcases hown.2 with ⟨h', _⟩ | ⟨g', cap', cur, h', _, _, hnc, _⟩
          · cases h'
          · simp only [Value.slice.injEq] at h'
            omega
        have hclr := Lib.run_clear_slice (P := Try.prog) wr 148 80 0 (.int .u16 0) Try.underlying148 (fun _ => rfl) rfl rfl g a (n - a) (c - a) (by omega)
          (fun q hq => by rw [hown.cellAt (a + q) (by omega), List.getElem?_eq_getElem (by rw [List.length_map, List.length_append]; omega)]; rfl) (fun q hq => hown.frozenAt (a + q))
        have HOW := Lib.hid hown
        have HT := Lib.hid hT
        have HJN := Lib.hid hjn
        have ha0 : (0 : Int) ≤ (a : Int) := by omega
        have han : (a : Int) ≤ (n : Int) := by omega
        have hac : (a : Int) ≤ (c : Int) := by omega
        clear hD hT hown HO hjn ha hlen
        go_wp2_with fail
        go_ret
        have hown := HOW.out
        have hmid : mid.length = n - a := by have h1 := HLEN.out; have h2 := HA.out; have h3 := HJN.out; omega
        rw [List.map_append] at hown
        have h4 := own_setCells (List.replicate (n - a) (.int .u16 0)) (KL.map bitU) (mid.map bitU) wr hown (by rw [List.length_map, List.length_replicate, hmid])
        rw [List.length_map, ← HA.out] at h4
        have h5 := own_prefix h4
        rw [List.length_map, ← HA.out] at h5
        have h6 := only_setCells (g := g) (List.replicate (n - a) (Value.int .u16 0)) a wr
        have hKB : (bs.filter fun b => !P b) = KL := by rw [HKL.out, HT.out]
        rw [hKB]
        refine ⟨a, HA.out, rfl, h5, HOK.out.keep _ _ _ (by rw [← HJN.out]; exact HJJ.out) h6, ?_⟩
        exact fun lo' hi' h1 h2 h3 h4 => (HON.out.wide (by omega) (by omega)).trans (h6.wide h3 h4)

end Go.Proofs.Ytdelanjkaokiaaa
