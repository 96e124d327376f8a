/-
  Sets parted by lamps: the contract of the program's byLamp.
-/
import Derived.Test.YtdelanjkaokiaaaLitV
import Derived.Test.YtdelanjkaokiaaaDepD
import Derived.Test.YtdelanjkaokiaaaSetOf
import Derived.Deep.RegionLaw
import Derived.Deep.AppendLies
namespace Go.Proofs.Ytdelanjkaokiaaa
open Go.RowKit Go.Deep Go.ChangeShapes Go.WideShapes

def lampV (b : Nat) (ls : List Int) (k : Nat) : Array Value := #[.int .u16 ((lampB b ls 0 k : Nat) : Int), .int .u16 ((lampB b ls 1 k : Nat) : Int), .int .u16 ((lampB b ls 2 k : Nat) : Int), .int .u16 ((lampB b ls 3 k : Nat) : Int)]
theorem lampB_t {b k v : Nat} {ls : List Int} (h : ls[k]? = some (v : Int)) : lampB b ls v (k + 1) = lampB b ls v k ||| (b &&& 1 <<< k) := by
  rw [lampB, if_pos (by rw [List.getD_eq_getElem?_getD, h]; rfl)]
theorem lampB_f {b k v x : Nat} {ls : List Int} (h : ls[k]? = some (x : Int)) (hx : x ≠ v) : lampB b ls v (k + 1) = lampB b ls v k := by
  rw [lampB, if_neg (by rw [List.getD_eq_getElem?_getD, h]; simp; omega)]

theorem block_ltL {w : World} {g : Nat} {o : Obj} (h : w.heap[g]? = some o) : g < w.heap.size := by
  rcases Nat.lt_or_ge g w.heap.size with hlt | hge
  · exact hlt
  · rw [Array.getElem?_eq_none hge] at h; cases h

set_option maxRecDepth 100000 in
set_option maxHeartbeats 4000000 in
theorem byLamp_any (b : Nat) (s : Int) (A : Option Addr) (n c : Nat) (B : Option Addr) (m d : Nat) (ls : List Int) (w : World) (hb : b < 1024) (g : NumsAt w B m ls) (hm : m ≤ 10) (hl : ∀ (q : Nat) (x : Int), ls[q]? = some x → 0 ≤ x ∧ x < 4) :
    Calls Try.prog 60 #[.int .u16 (b : Int), .agg #[.int .i64 s, .slice A n c, .slice B m d]] w fun e w' => e = .returned (.agg (lampV b ls m)) ∧ Below w.heap.size w w' := by
  have HLA := Lib.hid hl
  clear hl
  go_enter Try.func60, Try.ntmps60
  go_wp2_with fail
  obtain ⟨w0, hw0⟩ : ∃ w0, w0 = ((w.alloc (.cells #[.int .i64 s, .slice A n c, .slice B m d] 33)).alloc (.cells #[.int .u16 0, .int .u16 0, .int .u16 0, .int .u16 0] 87)).alloc (.cells #[.int .u16 0, .int .u16 0, .int .u16 0, .int .u16 0] 87) := ⟨_, rfl⟩
  have b0 : Below w.heap.size w w0 := by rw [hw0]; go_grown
  have p1 : w0.heap[w.heap.size + 1]? = some (.cells #[.int .u16 0, .int .u16 0, .int .u16 0, .int .u16 0] 87 (0, 0)) := by
    rw [hw0, heap_alloc_old _ _ (by simp)]
    exact (by simpa using heap_alloc_new (w.alloc (.cells #[.int .i64 s, .slice A n c, .slice B m d] 33)) (.cells #[.int .u16 0, .int .u16 0, .int .u16 0, .int .u16 0] 87))
  have p2 : w0.heap[w.heap.size + 2]? = some (.cells (lampV b ls 0) 87 (0, 0)) := by
    rw [hw0]
    exact (by simpa [lampV, lampB] using heap_alloc_new ((w.alloc (.cells #[.int .i64 s, .slice A n c, .slice B m d] 33)).alloc (.cells #[.int .u16 0, .int .u16 0, .int .u16 0, .int .u16 0] 87)) (.cells #[.int .u16 0, .int .u16 0, .int .u16 0, .int .u16 0] 87))
  rw [← hw0]
  have B0 := Lib.hid b0
  have P1 := Lib.hid p1
  have P2 := Lib.hid p2
  clear hw0 b0 p1 p2
  go_loopw [11] (fun i wr => ∃ k : Nat, k ≤ m ∧ i = .int .i64 k ∧ wr.heap[w.heap.size + 2]? = some (.cells (lampV b ls k) 87 (0, 0)) ∧ wr.heap[w.heap.size + 1]? = some (.cells #[.int .u16 0, .int .u16 0, .int .u16 0, .int .u16 0] 87 (0, 0)) ∧ Below w.heap.size w wr) (fun i _ => m - (intOf i).toNat)
  case atStart => exact ⟨0, Nat.zero_le _, rfl, P2.out, P1.out, B0.out⟩
  case round =>
    obtain ⟨k, hk, rfl, h2, h1, hbel⟩ := hrel
    have Q1 := Lib.hid h1
    have Q2 := Lib.hid h2
    have HB := Lib.hid hbel
    clear h1
    by_cases hlt : k < m
    · obtain ⟨x, B1, off, hx, rfl, hc0⟩ := g.at_ hlt
      have hc : wr.cell? ⟨B1, off + k, none⟩ = some (.int .i64 x) := (hbel.cell (cell_lt hc0)).trans hc0
      have hx4 := HLA.out k x hx
      obtain ⟨v, rfl⟩ : ∃ v : Nat, x = (v : Int) := ⟨x.toNat, by omega⟩
      have hv4 : v < 4 := by omega
      have HX := Lib.hid hx
      have hk10 : k < 10 := by omega
      have hk0 : (0 : Int) ≤ (k : Int) := by omega
      have hkm : (k : Int) < (m : Int) := by omega
      have HNS := Lib.hid (show ∀ y ∈ [(k : Int)], 0 ≤ y ∧ y < 10 from fun y hy => by rw [List.mem_singleton.1 hy]; omega)
      obtain ⟨S, hS⟩ : ∃ S, S = setN [(k : Int)] := ⟨_, rfl⟩
      have HS := Lib.hid hS
      have hSe : S = 1 <<< k := by rw [hS, setN_one]
      have hSl : S < 1024 := by rw [hSe, Nat.one_shiftLeft]; exact Nat.pow_lt_pow_right (by decide) hk10
      obtain ⟨D, hD⟩ : ∃ D, D = b &&& S := ⟨_, rfl⟩
      have hDl : D < 1024 := by rw [hD]; exact Nat.lt_of_le_of_lt Nat.and_le_left hb
      have hand : bits .and .u16 (b : Int) (S : Int) = (D : Int) := by rw [u16_and_nat b S (by omega) (by omega), hD]
      obtain ⟨C, hC⟩ : ∃ C, C = lampB b ls v k := ⟨_, rfl⟩
      have hCl : C < 1024 := by rw [hC]; exact lampB_lt hb _ _ _
      obtain ⟨E, hE⟩ : ∃ E, E = C ||| D := ⟨_, rfl⟩
      have hor : bits .or .u16 (C : Int) (D : Int) = (E : Int) := by rw [u16_or_nat C D (by omega) (by omega), hE]
      have hstep : E = lampB b ls v (k + 1) := by rw [lampB_t hx, ← hC, hE, hD, hSe]
      have hcell : wr.cell? ⟨w.heap.size + 2, v, none⟩ = some (.int .u16 (C : Int)) := by
        rw [hC, cell_of_row wr (w.heap.size + 2) v _ _ _ h2]
        rcases v with _ | _ | _ | _ | v <;> first | rfl | omega
      have hfro : wr.frozen? ⟨w.heap.size + 2, v, none⟩ = false := frozen_of_row wr (w.heap.size + 2) v _ _ h2
      have hset : (lampV b ls k).setIfInBounds v (.int .u16 (E : Int)) = lampV b ls (k + 1) := by
        rw [hstep]
        have hne : ∀ u, u ≠ v → lampB b ls u (k + 1) = lampB b ls u k := fun u hu => lampB_f hx (Ne.symm hu)
        rcases v with _ | _ | _ | _ | v
        · simp only [lampV, hne 1 (by decide), hne 2 (by decide), hne 3 (by decide)]; rfl
        · simp only [lampV, hne 0 (by decide), hne 2 (by decide), hne 3 (by decide)]; rfl
        · simp only [lampV, hne 0 (by decide), hne 1 (by decide), hne 3 (by decide)]; rfl
        · simp only [lampV, hne 0 (by decide), hne 1 (by decide), hne 2 (by decide)]; rfl
        · omega
      have HST := Lib.hid hset
      have CC := Lib.hid (show ∀ W', Below wr.heap.size wr W' → W'.cell? ⟨w.heap.size + 2, v, none⟩ = some (.int .u16 (C : Int)) from fun W' hb => (hb.cell (cell_lt hcell)).trans hcell)
      have CF := Lib.hid (show ∀ W', Below wr.heap.size wr W' → W'.frozen? ⟨w.heap.size + 2, v, none⟩ = false from fun W' hb => (hb.frozen (cell_lt hcell)).trans hfro)
      have qc : ∀ o, (wr.alloc o).cell? ⟨w.heap.size + 2, v, none⟩ = some (.int .u16 (C : Int)) := fun o => CC.out _ ((Below.refl _ _).alloc (Nat.le_refl _) o)
      have qf : ∀ o, (wr.alloc o).frozen? ⟨w.heap.size + 2, v, none⟩ = false := fun o => CF.out _ ((Below.refl _ _).alloc (Nat.le_refl _) o)
      have hv0 : (0 : Int) ≤ (v : Int) := by omega
      have hv4' : (v : Int) < 4 := by omega
      clear hx hx4 hS hSe hD hC hE hstep hset hc0 h2 hbel
      go_wp2_with fail
      go_region_law
        (first
          | (go_simp; go_at_call 53; refine (setOf_any _ 1 1 [(k : Int)] _ (by first | exact nums_one _ _ _ | exact (nums_one _ _ _).drew | exact (nums_one _ _ _).drewN _) HNS.out (by decide)).mono ?_; rw [← HS.out]; rintro e' w' ⟨rfl, rfl⟩)
          | fail)
      all_goals
        obtain ⟨w5, hw5⟩ : ∃ w5, w5 = ((wr.alloc (.cells #[.int .i64 (k : Int)] 2)).setCell ⟨w.heap.size + 2, v, none⟩ (.int .u16 (E : Int))).drew := ⟨_, rfl⟩
        have r2 : w5.heap[w.heap.size + 2]? = some (.cells (lampV b ls (k + 1)) 87 (0, 0)) := by
          rw [hw5, ← HST.out]
          exact heap_setCell_same (wr.alloc (.cells #[.int .i64 (k : Int)] 2)) (w.heap.size + 2) v _ _ _ ((heap_alloc_old _ _ (block_ltL Q2.out)).trans Q2.out)
        have r1 : w5.heap[w.heap.size + 1]? = some (.cells #[.int .u16 0, .int .u16 0, .int .u16 0, .int .u16 0] 87 (0, 0)) := by
          rw [hw5]
          exact (heap_setCell_other _ ⟨w.heap.size + 2, v, none⟩ _ _ (by simp)).trans ((heap_alloc_old _ _ (block_ltL Q1.out)).trans Q1.out)
        have r3 : Below w.heap.size w w5 := by
          rw [hw5]
          exact below_drewN' ((HB.out.alloc HB.out.size _).setCell (by simp) _) 1
        have R1 := Lib.hid r1
        have R2 := Lib.hid r2
        have R3 := Lib.hid r3
        have hw6 : w5 = ((wr.alloc (.cells #[.int .i64 (k : Int)] 2)).setCell ⟨w.heap.size + 1 + 1, v, none⟩ (.int .u16 (E : Int))).drew := hw5
        rw [← hw6]
        clear hw5 hw6 r1 r2 r3 qc qf
        go_wp2_with fail
        go_roundw
        case rel => exact ⟨k + 1, by omega, by go_num, R2.out, R1.out, R3.out⟩
        case measure => simp [intOf]; omega
    · have hkm : k = m := by omega
      have HKM := Lib.hid hkm
      have x0 := cell_of_row wr (w.heap.size + 2) 0 _ _ _ h2
      have x1 := cell_of_row wr (w.heap.size + 2) 1 _ _ _ h2
      have x2 := cell_of_row wr (w.heap.size + 2) 2 _ _ _ h2
      have x3 := cell_of_row wr (w.heap.size + 2) 3 _ _ _ h2
      have y0 := cell_of_row wr (w.heap.size + 1) 0 _ _ _ Q1.out
      have y1 := cell_of_row wr (w.heap.size + 1) 1 _ _ _ Q1.out
      have y2 := cell_of_row wr (w.heap.size + 1) 2 _ _ _ Q1.out
      have y3 := cell_of_row wr (w.heap.size + 1) 3 _ _ _ Q1.out
      have f0 := frozen_of_row wr (w.heap.size + 1) 0 _ _ Q1.out
      have f1 := frozen_of_row wr (w.heap.size + 1) 1 _ _ Q1.out
      have f2 := frozen_of_row wr (w.heap.size + 1) 2 _ _ Q1.out
      have f3 := frozen_of_row wr (w.heap.size + 1) 3 _ _ Q1.out
      rw [show (lampV b ls k)[0]? = some (.int .u16 ((lampB b ls 0 k : Nat) : Int)) from rfl] at x0
      rw [show (lampV b ls k)[1]? = some (.int .u16 ((lampB b ls 1 k : Nat) : Int)) from rfl] at x1
      rw [show (lampV b ls k)[2]? = some (.int .u16 ((lampB b ls 2 k : Nat) : Int)) from rfl] at x2
      rw [show (lampV b ls k)[3]? = some (.int .u16 ((lampB b ls 3 k : Nat) : Int)) from rfl] at x3
      clear h2 hbel hkm
      go_wp2_with fail
      refine bodyPost_ret (v := .agg (lampV b ls k)) (by simp [results, Try.results60, go_sem, y0, y1, y2, y3, lampV]) rfl ⟨by rw [HKM.out], ?_⟩
      exact (((HB.out.setCell (by simp) _).setCell (by simp) _).setCell (by simp) _).setCell (by simp) _
end Go.Proofs.Ytdelanjkaokiaaa
