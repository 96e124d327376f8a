/-
  The program's search: what the function 'extend' inside searchFrom does.
-/
import Derived.Test.YtcglncepmieaaaaSrch
import Derived.Test.YtcglncepmieaaaaClone
import Derived.Deep.DeepCutAuto
import Derived.Deep.RegionLaw
namespace Go.Proofs.Ytcglncepmieaaaa
open Go.RowKit Go.Deep Go.ChangeShapes Go.WideShapes

namespace Srch
open Hunt Room

theorem info_rset : (Try.prog.info? 167).map (fun i => (i.zero, i.size, i.bytes)) = some (some (.agg #[.int .u16 0, .slice none 0 0]), 2, 32) := by kernel_rfl
set_option maxRecDepth 100000 in
theorem clone_u (u : Value) (base : Nat) (ws : List Int) (w : World) (h : w.ownsRow base 2 1 u ws.length (ws.map (Value.int .i64))) (hn : ws.length ≤ 1048576) :
    Calls Try.prog 117 #[u] w fun e w' => ∃ v, e = .returned v ∧ w'.ownsRow w.heap.size 2 1 v ws.length (ws.map (Value.int .i64)) ∧ Below w.heap.size w w' := by
  obtain ⟨A, c, rfl⟩ := own_form h
  rcases h.2 with ⟨e0, e1⟩ | ⟨g, cap, cur, e0, _, _⟩
  · have h0 : ws = [] := List.eq_nil_of_length_eq_zero e1
    subst h0
    rw [e0]
    have hnil := fun (w : World) => Lib.run_eql_slice_nil (P := Try.prog) w 35 2 none 0 0 0 0 Try.underlying35
    go_enter Try.func117, Try.ntmps117
    go_wp2_with fail
    go_ret
    exact ⟨_, rfl, World.ownsRow_nil _ _ _ _, Below.refl _ _⟩
  · rw [e0]
    exact clone_any g 0 ws.length cap ws w (NumsAt.own (by rw [e0] at h; exact h) rfl rfl) hn

theorem drop_snoc {T : List Fnd} {f : Fnd} {i : Nat} (h : i ≤ T.length) : (T ++ [f]).drop i = T.drop i ++ [f] := by
  rw [List.drop_append_of_le_length h]

set_option maxRecDepth 100000 in
set_option maxHeartbeats 8000000 in
theorem extend_any (base pq pk g pa i : Nat) (Z : List Nat) (A : Option Addr) (n m cap : Nat) (xss : List (List Int)) (T : List Fnd) (e : Fnd) (u : Value) (W : World) (hg : Good n m xss)
    (hR : ∀ W', Below base W W' → RowsAt W' A m xss) (ca : ∀ W', Below base W W' → (∀ z ∈ Z, W'.heap[z]? = W.heap[z]?) → W'.cell? ⟨pa, 1, none⟩ = some (.slice A m cap))
    (hh : Holds base pq pk g Z (knownB T) (T.drop (i + 1)) W) (hi : i < T.length) (hu : WordV base [pq, pk, g] W u e.word) (hlen : e.word.length < 400) (hset : e.set < 1024)
    (hT : ∀ x, x ≤ m → (extX (aftF n xss) i e T x).length ≤ 1024) (hbase : base ≤ W.heap.size) :
    Calls Try.prog 150 #[.agg #[.int .u16 (e.set : Int), u], .pointer (some ⟨pa, 0, none⟩), .pointer (some ⟨pk, 0, none⟩), .pointer (some ⟨pq, 0, none⟩)] W fun en W' => ∃ v, en = .returned v ∧ ∃ g', Holds base pq pk g' Z (knownB (extX (aftF n xss) i e T m)) ((extX (aftF n xss) i e T m).drop (i + 1)) W' ∧ Turned base pq pk g g' W W' := by
  obtain ⟨i0, hi', hz0, hz1, hz2⟩ := info_parts info_int64
  obtain ⟨i1, hi1, hy0, hy1, hy2⟩ := info_parts info_rset
  obtain ⟨W1, hW1⟩ : ∃ W1, W1 = W.alloc (.cells #[.int .u16 (e.set : Int), u] 167) := ⟨_, rfl⟩
  have b1 : Below W.heap.size W W1 := by rw [hW1]; exact (Below.refl _ _).alloc (Nat.le_refl _) _
  have HW1 := Lib.hid hW1
  have x1 : W1.heap[W.heap.size]? = some (.cells #[.int .u16 (e.set : Int), u] 167 (0, 0)) := by rw [hW1]; exact heap_alloc_new _ _
  have X1 := Lib.hid x1
  have B1 := Lib.hid b1
  have HH1 := Lib.hid (hh.below b1)
  have HU1 := Lib.hid (hu.below b1)
  have T1 := Lib.hid (Turned.of_below (pq := pq) (pk := pk) (g := g) b1 hbase)
  have hfb : W.heap.size ≠ pq ∧ W.heap.size ≠ pk ∧ W.heap.size ≠ g := by
    obtain ⟨v0, us0, p1, _, p3, _⟩ := hh.queue
    obtain ⟨K, k1, _⟩ := hh.known
    have := block_lt p1; have := block_lt k1; have := q_lt p3
    omega
  have HFB := Lib.hid hfb
  have c0 : W1.cell? ⟨pa, 1, none⟩ = some (.slice A m cap) := ca W1 (b1.mono hbase) (fun z hz => b1.block z (hh.still z hz).1)
  have HG := Lib.hid hg
  have HRR := Lib.hid hR
  have HTL := Lib.hid hT
  have HI := Lib.hid hi
  have HSET := Lib.hid hset
  have HBS := Lib.hid hbase
  have HLN := Lib.hid hlen
  have hm3 : m ≤ 3 := hg.m3
  have hn10 : n ≤ 10 := hg.n10
  rw [hW1] at c0
  clear hg hR ca hh hi hu hT hset b1 x1 hW1 hfb hbase hlen
  go_enter Try.func150, Try.ntmps150
  go_wp2_with fail
  rw [← HW1.out]
  clear c0
  go_loopw [11] (fun j wr => ∃ (x gx : Nat), x ≤ m ∧ j = .int .i64 x ∧ Holds base pq pk gx Z (knownB (extX (aftF n xss) i e T x)) ((extX (aftF n xss) i e T x).drop (i + 1)) wr ∧ Turned base pq pk g gx W1 wr) (fun j _ => m - (intOf j).toNat)
  case atStart => exact ⟨0, g, Nat.zero_le _, rfl, HH1.out, Turned.refl _ _ _ _ _⟩
  case round =>
    obtain ⟨x, gx, hx, rfl, hhr, htr⟩ := hrel
    obtain ⟨TX, hTX⟩ : ∃ TX, TX = extX (aftF n xss) i e T x := ⟨_, rfl⟩
    rw [← hTX] at hhr
    have HTX := Lib.hid hTX
    have HHR := Lib.hid hhr
    have HTR := Lib.hid htr
    clear hTX hhr htr
    by_cases hlt : x < m
    · obtain ⟨row, b4, off4, A5, c5, hr, hA, hcr, hnum⟩ := ((HRR.out _ ((B1.out.mono HBS.out).trans HTR.out.below))).at_ hlt
      subst hA
      obtain ⟨row', hr', hrl⟩ := HG.out.row hlt
      rw [hr] at hr'
      obtain rfl := Option.some.inj hr'
      have hgd : xss.getD x [] = row := by rw [List.getD_eq_getElem?_getD, hr]; rfl
      have hrow : ∀ z ∈ row, 0 ≤ z ∧ z < 10 := fun z hz => by
        obtain ⟨j, hj, ee⟩ := List.mem_iff_getElem.1 hz
        have hz' : row[j]? = some z := by rw [List.getElem?_eq_getElem hj, ee]
        obtain ⟨h1, h2⟩ := HG.out.next hr (q := j) (by omega)
        rw [h1] at hz'
        obtain rfl := Option.some.inj hz'
        omega
      rw [hrl] at hcr hnum
      obtain ⟨t, ht⟩ : ∃ t, t = aftB e.set row n := ⟨_, rfl⟩
      have HTT := Lib.hid (show aftF n xss e.set x = t by unfold aftF; rw [hgd, ht])
      have ht10 : t < 1024 := by rw [← HTT.out]; exact aftF_lt HG.out _ _ HSET.out hlt
      have HNUM := Lib.hid hnum
      have HROW := Lib.hid hrow
      have HT := Lib.hid ht
      have hxb : wr.heap[W.heap.size]? = some (.cells #[.int .u16 (e.set : Int), u] 167 (0, 0)) := (HTR.out.same _ (block_lt X1.out) HFB.out.1 HFB.out.2.1 HFB.out.2.2).trans X1.out
      have HXB := Lib.hid hxb
      obtain ⟨K, k1, k2, k3⟩ := HHR.out.known
      have hkc : wr.cell? ⟨pk, t, none⟩ = some (.bool (knownB TX t)) := by rw [cell_of_row wr pk t _ _ _ k1]; exact k3 t ht10
      have hkf : wr.frozen? ⟨pk, t, none⟩ = false := frozen_of_row wr pk t _ _ k1
      have xb0 : wr.cell? ⟨W.heap.size, 0, none⟩ = some (.int .u16 (e.set : Int)) := cell_of_row wr W.heap.size 0 _ _ _ hxb
      have j1 : (0 : Int) ≤ (x : Int) := by omega
      have j2 : (x : Int) < (m : Int) := by omega
      have j3 : (0 : Int) ≤ (t : Int) := by omega
      have j4 : (t : Int) < 1024 := by omega
      rcases hkn : knownB TX t with _ | _
      · -- a new set
        rw [hkn] at hkc
        have HKN := Lib.hid (ext_new (aft := aftF n xss) (i := i) (x := x) (e := e) (T := T) (by rw [← HTX.out, HTT.out]; exact hkn))
        clear hr hrow hnum hgd ht k1 k2 k3 hkn hxb hrl
        go_upto_region 7 with (go_at_call 137; refine (after_any A5 n c5 e.set row _ HSET.out HNUM.out hn10 HROW.out).mono ?_; rw [← HT.out]; rintro e' w' ⟨rfl, rfl⟩)
        obtain ⟨HM1, HM2⟩ := HHR.out.mark (f := newF (aftF n xss) i e x) ht10 HTT.out
        obtain ⟨w1, hw1⟩ : ∃ w1, w1 = wr.setCell ⟨pk, t, none⟩ (.bool true) := ⟨_, rfl⟩
        rw [← hw1] at HM1 HM2 ⊢
        have HMH := Lib.hid HM1
        have HMT := Lib.hid (HTR.out.trans HM2)
        have HU2 := Lib.hid ((HTR.out.trans HM2).word HU1.out)
        have hxb1 : w1.heap[W.heap.size]? = some (.cells #[.int .u16 (e.set : Int), u] 167 (0, 0)) := (HMT.out.same _ (block_lt X1.out) HFB.out.1 HFB.out.2.1 HFB.out.2.2).trans X1.out
        have HXB1 := Lib.hid hxb1
        obtain ⟨v, us, q1, q2, q3, q4⟩ := HM1.queue
        have Q1 := Lib.hid q1
        have Q2 := Lib.hid q2
        have Q3 := Lib.hid q3
        have Q4 := Lib.hid q4
        have hbs1 : base ≤ w1.heap.size := Nat.le_trans HBS.out (Nat.le_trans B1.out.size HMT.out.below.size)
        have HBS1 := Lib.hid hbs1
        have hfb1 : W.heap.size < w1.heap.size := block_lt hxb1
        obtain ⟨Q, hQ⟩ : ∃ Q, Q = (TX.drop (i + 1)).length := ⟨_, rfl⟩
        have hQl : Q ≤ 1024 := by
          have h1 := HTL.out x (by omega)
          rw [← HTX.out] at h1
          rw [hQ, List.length_drop]; omega
        have HQ := Lib.hid hQ
        rw [← hQ] at q3
        obtain ⟨offq, capq, rfl, _, _⟩ := q_cells q3
        have Q3 := Lib.hid q3
        clear HM1 HM2 q1 q2 q3 q4 hQ hxb1 hw1 hkc hkf xb0 hbs1
        clear j1 j2 j3 j4 hcr hx hr'
        have qc1 : w1.cell? ⟨pq, 0, none⟩ = some (.slice (some ⟨gx, offq, none⟩) Q capq) := cell_of_row w1 pq 0 _ _ _ Q1.out
        have ql1 : pq < w1.heap.size := block_lt Q1.out
        have qx1 : w1.cell? ⟨W.heap.size, 1, none⟩ = some u := cell_of_row w1 W.heap.size 1 _ _ _ HXB1.out
        have KF := Lib.hid (show ∀ W', Below w1.heap.size w1 W' → W'.cell? ⟨W.heap.size, 1, none⟩ = some u from fun W' hb => (hb.cell (cell_lt qx1)).trans qx1)
        have KQ := Lib.hid (show ∀ W', Below w1.heap.size w1 W' → W'.cell? ⟨pq, 0, none⟩ = some (.slice (some ⟨gx, offq, none⟩) Q capq) from fun W' hb => (hb.cell (cell_lt qc1)).trans qc1)
        have h9 : Below w1.heap.size w1 w1 := Below.refl _ _
        have NQ := Lib.hid HMH.out.ne
        have HLQ := Lib.hid HMH.out.le
        have HREL := Lib.hid (show ∀ g' wx, Holds base pq pk g' Z (knownB (TX ++ [newF (aftF n xss) i e x])) (List.drop (i + 1) TX ++ [newF (aftF n xss) i e x]) wx → Turned base pq pk gx g' w1 wx →
            Holds base pq pk g' Z (knownB (extX (aftF n xss) i e T (x + 1))) ((extX (aftF n xss) i e T (x + 1)).drop (i + 1)) wx ∧ Turned base pq pk g g' W1 wx from fun g' wx k1 k2 => by
          have hit : i + 1 ≤ TX.length := by
            obtain ⟨N, hN, _⟩ := ext_pre (aftF n xss) i e T x
            have := HI.out
            rw [HTX.out, hN, List.length_append]; omega
          rw [HKN.out, ← HTX.out, drop_snoc hit]
          exact ⟨k1, HMT.out.trans k2⟩)
        have HX := Lib.hid hlt
        have NF := Lib.hid (show W.heap.size ≠ gx by have := Turned.new HTR.out; have := HFB.out.2.2; have := block_lt X1.out; rcases Turned.new HTR.out with e | e <;> omega)
        have NP := Lib.hid HFB.out.1
        have HM3 := Lib.hid hm3
        clear HW1 X1 B1 HH1 HU1 T1 HFB HG HTL HI HSET HBS hm3 HTX HHR HTR hlt HRR HNUM HROW HT HXB HKN HLQ hfb1 hn10 ht10
        have NT := Lib.hid (show (newF (aftF n xss) i e x).set = t from HTT.out)
        have qd1 : ∀ o, (w1.alloc o).cell? ⟨pq, 0, none⟩ = some (.slice (some ⟨gx, offq, none⟩) Q capq) := fun o => KQ.out _ (h9.alloc (Nat.le_refl _) o)
        have qe1 : ∀ o, (w1.alloc o).cell? ⟨W.heap.size, 1, none⟩ = some u := fun o => KF.out _ (h9.alloc (Nat.le_refl _) o)
        · go_region_law
            (first
              | (refine step_append_lies _ rfl _ _ 35 rfl w1.heap.size 2 i0 (.int .i64 0) 1 8 Try.underlying35 hi' hz0 hz1 hz2 rfl (by decide) _ _ _ rfl (own_below O3.out (by first | exact Below.refl _ _ | exact (Below.refl _ _).alloc (Nat.le_refl _) _ | exact ((Below.refl _ _).alloc (Nat.le_refl _) _).drew)) ⟨_, 0, none⟩ 1 1 [.int .i64 (x : Int)] rfl rfl N3.out (ones_i64 [(x : Int)]) (by decide) (by have := HLN.out; unfold maxLen; omega) (by have := HLN.out; omega) (by have := h3.size; first | exact this | (simp; omega)) _ rfl ?_; intro g5 cap5 w5 hown5 hgrow5 hat5 hlt5; have HO5 := Lib.hid hown5; have h5 : Below w1.heap.size w1 w5 := Below.grown (by first | exact h5 | exact h5.alloc h5.size _ | exact h3 | exact h3.alloc h3.size _ | exact h9.drew | exact (h9.alloc (Nat.le_refl _) _).drew | exact h9.drew.alloc (Nat.le_refl _) _) hgrow5 (by have := h3.size; first | exact this | (simp; omega)) (fun k hk => (O3.out.lt k hk).1); have qc5 := KQ.out _ h5; have qd5 : ∀ o, (w5.alloc o).cell? ⟨pq, 0, none⟩ = some (.slice (some ⟨gx, offq, none⟩) Q capq) := fun o => KQ.out _ (h5.alloc h5.size o); have ql5 : pq < w5.heap.size := Nat.lt_of_lt_of_le ql1 h5.size; clear hown5 hgrow5 hat5 hlt5)
              | (refine step_append_lies _ rfl _ _ 35 rfl w1.heap.size 2 i0 (.int .i64 0) 1 8 Try.underlying35 hi' hz0 hz1 hz2 rfl (by decide) _ _ _ rfl (own_below O3.out (by first | exact Below.refl _ _ | exact (Below.refl _ _).alloc (Nat.le_refl _) _ | exact ((Below.refl _ _).alloc (Nat.le_refl _) _).drew)) ⟨_, 0, none⟩ 1 1 [.int .i64 (x : Int)] rfl rfl (cell_one_new _ _ _) (ones_i64 [(x : Int)]) (by decide) (by have := HLN.out; unfold maxLen; omega) (by have := HLN.out; omega) (by have := h3.size; first | exact this | (simp; omega)) _ rfl ?_; intro g5 cap5 w5 hown5 hgrow5 hat5 hlt5; have HO5 := Lib.hid hown5; have h5 : Below w1.heap.size w1 w5 := Below.grown (by first | exact h5 | exact h5.alloc h5.size _ | exact h3 | exact h3.alloc h3.size _ | exact h9.drew | exact (h9.alloc (Nat.le_refl _) _).drew | exact h9.drew.alloc (Nat.le_refl _) _) hgrow5 (by have := h3.size; first | exact this | (simp; omega)) (fun k hk => (O3.out.lt k hk).1); have qc5 := KQ.out _ h5; have qd5 : ∀ o, (w5.alloc o).cell? ⟨pq, 0, none⟩ = some (.slice (some ⟨gx, offq, none⟩) Q capq) := fun o => KQ.out _ (h5.alloc h5.size o); have ql5 : pq < w5.heap.size := Nat.lt_of_lt_of_le ql1 h5.size; clear hown5 hgrow5 hat5 hlt5)
              | (refine step_append_q 174 167 i1 (.agg #[.int .u16 0, .slice none 0 0]) 2 32 Try.underlying174 hi1 hy0 hy1 hy2 rfl (by decide) (by decide) _ rfl _ _ rfl rfl _ gx (flat (List.drop (i + 1) TX) us) Q rfl (q_below Q3.out (h5.alloc h5.size _)) ⟨w5.heap.size, 0, none⟩ 1 [.int .u16 (t : Int), .slice (some ⟨g5, 0, none⟩) (e.word.length + 1) cap5] rfl rfl (World.news_of_block (heap_alloc_new _ _)) (by intro z hz; simp at hz; rcases hz with rfl | rfl <;> rfl) (by omega) ?_; intro v6 w6 g6 hq6 hgr6 hor6; obtain ⟨o6, cp6, rfl, _, _⟩ := q_cells hq6; obtain ⟨p6, c6, f6, s6, s7⟩ := pushed (f := newF (aftF n xss) i e x) HMH.out Q1.out Q2.out Q4.out HBS1.out HXB1.out NF.out NP.out NT.out rfl rfl HQ.out (h5.alloc h5.size _) (own_below HO5.out ((Below.refl _ _).alloc (Nat.le_refl _) _)) hgr6 hor6 hq6; have P6 := Lib.hid p6; have S7 := Lib.hid s7; clear hq6 hgr6 hor6 s7 p6)
              | (go_simp; go_at_call 117; refine (clone_u u base e.word _ (own_below HU2.out.1 (by first | exact h5 | exact h5.alloc h5.size _ | exact h3 | exact h3.alloc h3.size _ | exact h9.drew | exact (h9.alloc (Nat.le_refl _) _).drew | exact h9.drew.alloc (Nat.le_refl _) _)) (by have := HLN.out; omega)).mono ?_; rintro e' w3 ⟨v3, rfl, o3, b3⟩; have h3 : Below w1.heap.size w1 w3 := below_then (by first | exact h5 | exact h5.alloc h5.size _ | exact h3 | exact h3.alloc h3.size _ | exact h9.drew | exact (h9.alloc (Nat.le_refl _) _).drew | exact h9.drew.alloc (Nat.le_refl _) _) b3; have O3 := Lib.hid (own_base o3 (show w1.heap.size ≤ _ from by first | exact Nat.le_refl _ | (simp; done) | (simp; omega))); have qc3 := KQ.out _ h3; have qd3 : ∀ o, (w3.alloc o).cell? ⟨pq, 0, none⟩ = some (.slice (some ⟨gx, offq, none⟩) Q capq) := fun o => KQ.out _ (h3.alloc h3.size o); have ql3 : pq < w3.heap.size := Nat.lt_of_lt_of_le ql1 h3.size; have N3 := Lib.hid (show ∀ (j : Nat) (z : Value), [Value.int .i64 (x : Int)][j]? = some z → w3.cell? ((⟨w1.heap.size, 0, none⟩ : Addr).add j) = some z from fun j z hz => (b3.cell (cell_lt (cell_one_new _ _ _ j z hz))).trans (cell_one_new _ _ _ j z hz)); clear o3 b3)
              | (go_simp; go_at_call 117; refine (clone_u u base e.word _ (own_below HU2.out.1 (by first | exact h5 | exact h5.alloc h5.size _ | exact h3 | exact h3.alloc h3.size _ | exact h9.drew | exact (h9.alloc (Nat.le_refl _) _).drew | exact h9.drew.alloc (Nat.le_refl _) _)) (by have := HLN.out; omega)).mono ?_; rintro e' w3 ⟨v3, rfl, o3, b3⟩; have h3 : Below w1.heap.size w1 w3 := below_then (by first | exact h5 | exact h5.alloc h5.size _ | exact h3 | exact h3.alloc h3.size _ | exact h9.drew | exact (h9.alloc (Nat.le_refl _) _).drew | exact h9.drew.alloc (Nat.le_refl _) _) b3; have O3 := Lib.hid (own_base o3 (show w1.heap.size ≤ _ from by first | exact Nat.le_refl _ | (simp; done) | (simp; omega))); have qc3 := KQ.out _ h3; have qd3 : ∀ o, (w3.alloc o).cell? ⟨pq, 0, none⟩ = some (.slice (some ⟨gx, offq, none⟩) Q capq) := fun o => KQ.out _ (h3.alloc h3.size o); have ql3 : pq < w3.heap.size := Nat.lt_of_lt_of_le ql1 h3.size; clear o3 b3)
              | fail)
          all_goals
            obtain ⟨R1, R2⟩ := HREL.out _ _ P6.out.1 P6.out.2
            have R1' := Lib.hid R1
            have R2' := Lib.hid R2
            have hlt := HX.out
            have hm3 := HM3.out
            clear R1 R2
            go_wp2_with fail
            go_roundw
            case rel => exact ⟨x + 1, _, by omega, by go_num, R1'.out, R2'.out⟩
            case measure => simp [intOf]; omega
      · rw [hkn] at hkc
        have HKN := Lib.hid (ext_old (aft := aftF n xss) (i := i) (x := x) (e := e) (T := T) (by rw [← HTX.out, HTT.out]; exact hkn))
        clear hr hrow hnum hgd ht k1 k2 k3 hkn hxb hrl
        go_wp2_with (go_at_call 137; refine (after_any A5 n c5 e.set row _ HSET.out HNUM.out hn10 HROW.out).mono ?_; rw [← HT.out]; rintro e' w' ⟨rfl, rfl⟩)
        go_roundw
        case rel => exact ⟨x + 1, gx, by omega, by go_num, by rw [HKN.out, ← HTX.out]; exact HHR.out, HTR.out⟩
        case measure => simp [intOf]; omega
    · have hxm : x = m := by omega
      have HXM := Lib.hid hxm
      clear hxm
      go_wp2_with fail
      go_end0
      have h1 := HHR.out
      rw [HTX.out, HXM.out] at h1
      exact ⟨_, rfl, gx, h1, T1.out.trans HTR.out⟩
end Srch

end Go.Proofs.Ytcglncepmieaaaa
