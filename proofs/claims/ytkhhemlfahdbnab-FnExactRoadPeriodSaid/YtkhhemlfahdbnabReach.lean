/-
  What can be reached: the contract of l01Reached.
-/
import Derived.Test.YtkhhemlfahdbnabQueue
import Derived.Test.YtkhhemlfahdbnabKeeps
namespace Go.Proofs.Ytkhhemlfahdbnab
open Go.RowKit Go.Deep Go.ChangeShapes Go.WideShapes

/-- The states that have been found, those still to be seen; `now` is being seen, its letters below x are done. -/
structure Seen (n m : Nat) (xss : List (List Int)) (s : Nat) (f : Nat → Bool) (T : List Nat) (now x : Nat) : Prop where
  start : f s = true
  ok : ∀ q, f q = true → q < n ∧ Reach m xss s q
  todo : ∀ q ∈ T, f q = true
  nowOk : f now = true
  done : ∀ q, f q = true → q ∉ T → q ≠ now → ∀ y, y < m → f (nx xss y q) = true
  part : ∀ y, y < x → f (nx xss y now) = true
theorem Seen.old {n m : Nat} {xss : List (List Int)} {s : Nat} {f : Nat → Bool} {T : List Nat} {now x : Nat} (h : Seen n m xss s f T now x) (ht : f (nx xss x now) = true) : Seen n m xss s f T now (x + 1) :=
  ⟨h.start, h.ok, h.todo, h.nowOk, h.done, fun y hy => by
    rcases Nat.lt_or_ge y x with a | a
    · exact h.part y a
    · obtain rfl : y = x := by omega
      exact ht⟩
theorem upd_mono {f : Nat → Bool} {v q : Nat} (h : f q = true) : upd f v true q = true := by unfold upd; split <;> simp_all
theorem Seen.new {n m : Nat} {xss : List (List Int)} {s : Nat} {f : Nat → Bool} {T : List Nat} {now x : Nat} (hg : Good n m xss) (h : Seen n m xss s f T now x) (hx : x < m) (_ht : f (nx xss x now) = false) :
    Seen n m xss s (upd f (nx xss x now) true) (T ++ [nx xss x now]) now (x + 1) := by
  have hself : upd f (nx xss x now) true (nx xss x now) = true := by simp [upd]
  refine ⟨upd_mono h.start, fun q hq => ?_, fun q hq => ?_, upd_mono h.nowOk, fun q hq hT hne y hy => ?_, fun y hy => ?_⟩
  · unfold upd at hq
    split at hq
    · rename_i e
      rw [e]
      exact ⟨hg.nextD hx (h.ok now h.nowOk).1, (h.ok now h.nowOk).2.step hx⟩
    · exact h.ok q hq
  · rcases List.mem_append.1 hq with a | a
    · exact upd_mono (h.todo q a)
    · obtain rfl : q = nx xss x now := by simpa using a
      exact hself
  · have hq' : f q = true := by
      unfold upd at hq
      split at hq
      · rename_i e; exact absurd (List.mem_append_right T (by simp [e])) hT
      · exact hq
    exact upd_mono (h.done q hq' (fun hm => hT (List.mem_append_left _ hm)) hne y hy)
  · rcases Nat.lt_or_ge y x with a | a
    · exact upd_mono (h.part y a)
    · obtain rfl : y = x := by omega
      exact hself

/-- Between the rounds: nothing is being seen. -/
structure Found (n m : Nat) (xss : List (List Int)) (s : Nat) (f : Nat → Bool) (T : List Nat) : Prop where
  start : f s = true
  ok : ∀ q, f q = true → q < n ∧ Reach m xss s q
  todo : ∀ q ∈ T, f q = true
  done : ∀ q, f q = true → q ∉ T → ∀ y, y < m → f (nx xss y q) = true
theorem Found.pop {n m : Nat} {xss : List (List Int)} {s : Nat} {f : Nat → Bool} {T : List Nat} {now : Nat} (h : Found n m xss s f (now :: T)) : Seen n m xss s f T now 0 :=
  ⟨h.start, h.ok, fun q hq => h.todo q (by simp [hq]), h.todo now (by simp), fun q hq hT hne => h.done q hq (by simp [hT, hne]), by omega⟩
theorem Seen.found {n m : Nat} {xss : List (List Int)} {s : Nat} {f : Nat → Bool} {T : List Nat} {now : Nat} (h : Seen n m xss s f T now m) : Found n m xss s f T :=
  ⟨h.start, h.ok, h.todo, fun q hq hT y hy => by
    by_cases e : q = now
    · subst e; exact h.part y hy
    · exact h.done q hq hT e y hy⟩
theorem Found.all {n m : Nat} {xss : List (List Int)} {s : Nat} {f : Nat → Bool} (h : Found n m xss s f []) : f = reachF m xss s :=
  reachF_eq (fun q hq => (h.ok q hq).2) fun _ hq => hq.closed h.start fun q' hq' x hx => h.done q' hq' (by simp) x hx
theorem found_start {n m : Nat} {xss : List (List Int)} {s : Nat} (hs : s < n) : Found n m xss s (upd (fun _ => false) s true) [s] := by
  have e : ∀ q, upd (fun _ => false) s true q = true → q = s := fun q hq => by
    unfold upd at hq
    split at hq
    · assumption
    · cases hq
  refine ⟨by simp [upd], fun q hq => ?_, fun q hq => ?_, fun q hq hT => ?_⟩
  · rw [e q hq]; exact ⟨hs, Reach.refl s⟩
  · obtain rfl : q = s := by simpa using hq
    simp [upd]
  · exact absurd (by simp [e q hq]) hT
def ints (T : List Nat) : List Int := T.map fun q => ((q : Nat) : Int)

set_option maxRecDepth 100000 in
set_option maxHeartbeats 1500000 in
theorem l01Reached_any (p : Nat) (A : Option Addr) (n m cap s : Nat) (xss : List (List Int)) (w : World) (hg : Good n m xss) (c1 : w.cell? ⟨p, 1, none⟩ = some (.slice A m cap)) (hR : RowsAt w A m xss) (hs : s < n) :
    Calls Try.prog 148 #[.pointer (some ⟨p, 0, none⟩), .int .i64 (s : Int)] w fun e w' => ∃ v, e = .returned v ∧ w'.ownsRow w.heap.size 2 1 v (setL (reachF m xss s) 10).length ((setL (reachF m xss s) 10).map (Value.int .i64)) ∧ Below w.heap.size w w' := by
  have HG := Lib.hid hg
  have hn10 : n ≤ 10 := hg.n10
  have hm3 : m ≤ 3 := hg.m3
  clear hg
  go_enter Try.func148, Try.ntmps148
  go_wp2_with fail
  go_loopw [5, 6] (fun ov tv wr => ∃ (f : Nat → Bool) (T : List Nat) (L : List Int), Found n m xss s f T ∧ L = setL f 10 ∧ wr.ownsRow w.heap.size 2 1 ov L.length (L.map (Value.int .i64)) ∧ queueAt wr w.heap.size tv (ints T) ∧ (∀ q, ov.ownBlock = some q → tv.ownBlock ≠ some q) ∧ 2 * (10 - L.length) + T.length ≤ 20 ∧ Below w.heap.size w wr) (fun ov tv _ => 2 * (10 - slLen ov) + slLen tv)
  case atStart =>
    have h1 : setL (upd (fun _ => false) s true) 10 = [(s : Int)] := by
      rw [setL_gap (f := fun _ => false) 10 (by omega) (fun _ _ _ => rfl)]; simp [setL]
    refine ⟨upd (fun _ => false) s true, [s], [(s : Int)], found_start hs, h1.symm, ?_, ?_, ?_, by simp, by go_grown⟩
    · exact (World.ownsRow_lit (e := 2) w #[.int .i64 (s : Int)] 1 (Nat.le_refl _) (by decide) rfl).alloc _
    · have h2 := World.ownsRow_lit (e := 2) (size := 1) (base := w.heap.size) (w.alloc (.cells #[.int .i64 (s : Int)] 2)) #[.int .i64 (s : Int)] 1 (by simp) (by decide) rfl
      rw [World.size_alloc] at h2
      exact queue_of_own (n := 1) (xs := [(s : Int)]) h2 (by omega)
    · intro q hq; simp [Value.ownBlock] at hq ⊢; omega
  case round =>
    obtain ⟨f0, T0, L0, hF, hL, hown, hq, hne, hmeas, hbel⟩ := hrel
    have HF := Lib.hid hF
    have HL := Lib.hid hL
    have HO := Lib.hid hown
    have HQ := Lib.hid hq
    have HNE := Lib.hid hne
    have HB := Lib.hid hbel
    have HM0 := Lib.hid hmeas
    obtain ⟨A3, c3, rfl⟩ := own_form hown
    clear hF hL hown hq hne hbel hmeas
    rcases T0 with _ | ⟨now, T0⟩
    · have hfa := HF.out.all
      have hout : setL (reachF m xss s) 10 = L0 := by rw [HL.out, hfa]
      have HOUT := Lib.hid hout
      obtain ⟨g, off, cap', cur, hv, _⟩ := HQ.out
      subst hv
      clear hfa hout
      go_wp2_with fail
      go_ret
      rw [HOUT.out]
      exact ⟨_, rfl, HO.out, HB.out⟩
    · obtain ⟨g, off, cap', hv, hc, hle, hq'⟩ := queue_pop (x := (now : Int)) (xs := ints T0) HQ.out
      subst hv
      have hl : (ints T0).length = T0.length := by simp [ints]
      have hq0 : cap' = 0 → queueAt ‹World› w.heap.size (.slice (some ⟨g, off, none⟩) (ints T0).length 0) (ints T0) := fun h0 => queue_zero (x := (now : Int)) (xs := ints T0) HQ.out h0 hle
      have HQ0 := Lib.hid hq0
      have HQ' := Lib.hid hq'
      have hnown : now < n := (HF.out.ok now (HF.out.todo now (by simp))).1
      clear hq' hle hl hq0
      go_wp2_with fail
      all_goals
        go_loopw [5, 6, 8] (fun ov tv i wr' => ∃ (x : Nat) (f : Nat → Bool) (T : List Nat) (L : List Int), x ≤ m ∧ i = .int .i64 x ∧ Seen n m xss s f T now x ∧ L = setL f 10 ∧ wr'.ownsRow w.heap.size 2 1 ov L.length (L.map (Value.int .i64)) ∧ queueAt wr' w.heap.size tv (ints T) ∧ (∀ q, ov.ownBlock = some q → tv.ownBlock ≠ some q) ∧ 2 * (10 - L.length) + T.length < 2 * (10 - L0.length) + (T0.length + 1) ∧ Below w.heap.size w wr') (fun _ _ i _ => m - (intOf i).toNat)
        case atStart =>
          refine ⟨0, f0, T0, L0, Nat.zero_le _, rfl, HF.out.pop, HL.out, HO.out, ?_, ?_, by omega, HB.out⟩
          · first
              | exact HQ'.out
              | exact HQ0.out (by assumption)
          · exact HNE.out
        case round =>
          obtain ⟨x, f, T, L, hx, rfl, hS, hL, hown, hq, hne, hmeas, hbel⟩ := hrel
          obtain ⟨A4, c4, rfl⟩ := own_form hown
          have hlen : L.length ≤ 10 := by rw [hL]; exact setL_len _ _
          have HS := Lib.hid hS
          have HL1 := Lib.hid hL
          have HO1 := Lib.hid hown
          have HQ1 := Lib.hid hq
          have HNE1 := Lib.hid hne
          have HB1 := Lib.hid hbel
          have HM1 := Lib.hid hmeas
          have d1 : World.cell? ‹World› ⟨p, 1, none⟩ = some (.slice A m cap) := (hbel.cell (cell_lt c1)).trans c1
          clear hS hL hown hq hne hmeas
          by_cases hlt : x < m
          · have hto := HG.out.nextD hlt hnown
            obtain ⟨b, off1, b2, off2, cr, hA, hcr, hcells⟩ := row_base HG.out (hR.below hbel) hlt
            subst hA
            have f1 := hcells now hnown
            have i1 : (0 : Int) ≤ (x : Int) := by omega
            have i2 : (x : Int) < (m : Int) := by omega
            have i3 : (0 : Int) ≤ (now : Int) := by omega
            have i4 : (now : Int) < (n : Int) := by omega
            have hhas : hasB L ((nx xss x now : Nat) : Int) = f (nx xss x now) := by rw [HL1.out]; exact has_setL (by omega)
            rcases hft : f (nx xss x now) with _ | _
            · have hput : putL ((nx xss x now : Nat) : Int) L = setL (upd f (nx xss x now) true) 10 := by rw [HL1.out]; exact put_setL (by omega)
              have hcnt : (setL (upd f (nx xss x now) true) 10).length = L.length + 1 := by rw [HL1.out]; exact setL_count hft 10 (by omega)
              rw [hft] at hhas
              have HP := Lib.hid hput
              have HN := Lib.hid (HS.out.new HG.out hlt hft)
              have HCNT := Lib.hid hcnt
              clear hft hput hcnt hcells hbel hto
              go_wp2_with fail
              refine (l00Has_any A4 L.length c4 L ((nx xss x now : Nat) : Int) _ (NumsAt.own HO1.out rfl rfl) (by omega)).mono ?_
              rw [hhas]
              rintro e w1 ⟨rfl, rfl⟩
              go_wp2_with fail
              refine (l00Put_any A4 L.length c4 L ((nx xss x now : Nat) : Int) _ (NumsAt.own HO1.out rfl rfl) (by omega)).mono ?_
              rw [HP.out]
              rintro e w2 ⟨a2, rfl, o2, b2⟩
              obtain ⟨A5, c5, rfl⟩ := own_form o2
              have HO2 := Lib.hid o2
              have HB2 := Lib.hid b2
              have HQ2 := Lib.hid (queue_below HQ1.out b2)
              clear o2 b2
              have hTl : (ints T).length ≤ 1000 := by have := HM1.out; have := HM0.out; simp [ints] at this ⊢; omega
              have HTL := Lib.hid hTl
              clear hTl
              go_wp2_with (at_builtin; refine wpList_append_queue _ rfl _ _ rfl rfl w.heap.size _ (ints T) rfl (queue_below HQ2.out ((Below.refl _ _).alloc (Nat.le_refl _) _)) ⟨w2.heap.size, 0, none⟩ 1 ((nx xss x now : Nat) : Int) rfl (cell_one_new _ _ _) HTL.out (by have h1 := HB1.out.size; have h2 := HB2.out.size; rw [World.size_alloc]; omega) ?_)
              intro v3 w3 hq3 hg3 hat3
              have HQ3 := Lib.hid hq3
              have HG3 := Lib.hid hg3
              have HA3 := Lib.hid hat3
              clear hq3 hg3 hat3
              go_wp2_with fail
              go_roundw
              case rel =>
                obtain ⟨gq, hgq, hgb, hglt⟩ := queue_block HQ1.out
                refine ⟨x + 1, upd f (nx xss x now) true, T ++ [nx xss x now], _, by omega, by go_num, HN.out, rfl, ?_, ?_, ?_, ?_, ?_⟩
                · exact own_base (own_grown' (B := wr.heap.size) ((HO2.out).alloc _) HG3.out (fun k hk => by rw [hgq] at hk; obtain rfl := Option.some.inj hk; exact hglt) (fun k hk => (HO2.out.lt k hk).1)) HB1.out.size
                · have := HQ3.out; simpa [ints] using this
                · intro q hq1 hq2
                  have h1 := HO2.out.lt q hq1
                  rcases HA3.out with e | ⟨g3, e, hge⟩
                  · have h2 := Option.some.inj (hgq.symm.trans (e.symm.trans hq2))
                    omega
                  · have h2 := Option.some.inj (e.symm.trans hq2)
                    try rw [World.size_alloc] at hge
                    omega
                · have h1 := HM1.out
                  have h2 := HCNT.out
                  have h3 := setL_len (upd f (nx xss x now) true) 10
                  rw [h2] at h3 ⊢
                  rw [List.length_append]
                  simp only [List.length_cons, List.length_nil]
                  omega
                · exact ((below_then HB1.out HB2.out).alloc (by have h1 := HB1.out.size; have h2 := HB2.out.size; omega) _).grown HG3.out (by have h1 := HB1.out.size; have h2 := HB2.out.size; rw [World.size_alloc]; omega) (fun k hk => by rw [hgq] at hk; obtain rfl := Option.some.inj hk; exact hgb)
              case measure => simp [intOf]; omega
            · rw [hft] at hhas
              have HN := Lib.hid (HS.out.old hft)
              clear hft hcells hbel hto
              go_wp2_with fail
              refine (l00Has_any A4 L.length c4 L ((nx xss x now : Nat) : Int) _ (NumsAt.own HO1.out rfl rfl) (by omega)).mono ?_
              rw [hhas]
              rintro e w1 ⟨rfl, rfl⟩
              go_wp2_with fail
              go_roundw
              case rel => exact ⟨x + 1, f, T, L, by omega, by go_num, HN.out, HL1.out, HO1.out, HQ1.out, HNE1.out, HM1.out, HB1.out⟩
              case measure => simp [intOf]; omega
          · clear hbel
            go_wp2_with fail
            go_roundw
            case rel =>
              have hxm : x = m := by omega
              subst hxm
              exact ⟨f, T, L, HS.out.found, HL1.out, HO1.out, HQ1.out, HNE1.out, by have := HM1.out; have := HM0.out; simp at this; omega, HB1.out⟩
            case measure =>
              have h1 := queue_len HQ1.out
              have h2 := HM1.out
              simp [slLen, ints] at h1 ⊢
              omega

end Go.Proofs.Ytkhhemlfahdbnab
