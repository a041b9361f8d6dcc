/- The draws of chapter 2. -/
import Derived.Test.YtecdmafhjfnloaaDoorDrawInst
import Derived.Test.YtecdmafhjfnloaaDoorCodWord
namespace Go.Proofs.YtecdmafhjfnloaaDoor
open Go.RowKit
set_option linter.unusedVariables false
def OneI (B : Nat) (w : World) (e : Ending) (w' : World) : Prop := ∃ k d a b f n : Int, e = .returned (.agg #[.int .i64 k, .int .i64 d, .int .i64 a, .int .i64 b, .int .i64 f, .int .i64 n]) ∧ Below B w w'
theorem below_set1 {B : Nat} {w u : World} (h : Below B w u) {Z : Nat} (hZ : B ≤ Z) (j : Nat) (v : Value) : Below B w (u.setCell ⟨Z, j, none⟩ v) := Below.setCell h (show B ≤ Z from hZ) _
theorem below_sets {B : Nat} {w u : World} (h : Below B w u) {Z : Nat} (hZ : B ≤ Z) (v0 v1 v2 v3 v4 v5 : Value) : Below B w ((((((u.setCell ⟨Z, 0, none⟩ v0).setCell ⟨Z, 1, none⟩ v1).setCell ⟨Z, 2, none⟩ v2).setCell ⟨Z, 3, none⟩ v3).setCell ⟨Z, 4, none⟩ v4).setCell ⟨Z, 5, none⟩ v5) :=
  below_set1 (below_set1 (below_set1 (below_set1 (below_set1 (below_set1 h hZ _ _) hZ _ _) hZ _ _) hZ _ _) hZ _ _) hZ _ _
set_option maxHeartbeats 1000000 in
theorem DrawCodWord (B : Nat) (s : Option Addr) (len cap : Nat) (w : World) (h : Code1 B w s len cap) : Calls Tryd.prog 11 #[.slice s len cap] w (OneI B w) := by
  have hB := h.1
  have b0 : Below B w (w.alloc (.cells #[.int .i64 0, .int .i64 0, .int .i64 0, .int .i64 0, .int .i64 0, .int .i64 0] 24)) := (Fr.alloc w _).mono hB
  have hz : ∀ j, j < 6 → (w.alloc (.cells #[.int .i64 0, .int .i64 0, .int .i64 0, .int .i64 0, .int .i64 0, .int .i64 0] 24)).cell? ⟨w.heap.size, j, none⟩ = some (.int .i64 0) ∧ (w.alloc (.cells #[.int .i64 0, .int .i64 0, .int .i64 0, .int .i64 0, .int .i64 0, .int .i64 0] 24)).frozen? ⟨w.heap.size, j, none⟩ = false := by
    intro j hj
    have e : j = 0 ∨ j = 1 ∨ j = 2 ∨ j = 3 ∨ j = 4 ∨ j = 5 := by omega
    rcases e with rfl | rfl | rfl | rfl | rfl | rfl <;> simp
  have hzs : (w.alloc (.cells #[.int .i64 0, .int .i64 0, .int .i64 0, .int .i64 0, .int .i64 0, .int .i64 0] 24)).heap.size = w.heap.size + 1 := by simp
  have HZ := Lib.hid hz
  clear hz
  go_enter Tryd.func11, Tryd.ntmps11
  go_wp2_with fail
  generalize (w.alloc (.cells #[.int .i64 0, .int .i64 0, .int .i64 0, .int .i64 0, .int .i64 0, .int .i64 0] 24)) = wz at *
  refine (opens B s len cap wz (h.below b0)).mono ?_
  rintro e w1 ⟨rfl, r1, b1⟩
  rw [hzs] at r1
  go_wp2_with fail
  refine (l20Inst B _ _ _ w1 r1 (by omega) (by omega) (by omega)).mono ?_
  rintro e w2 ⟨k, d, a, x, f, n, rfl, r2, g2⟩
  have g3 := g2
  rw [← hzs] at g3
  have HB := Lib.hid (b0.trans (below_of (by omega) b1 g3))
  have hs1 := b1.size
  have hz : ∀ j, j < 6 → w2.cell? ⟨w.heap.size, j, none⟩ = some (.int .i64 0) ∧ w2.frozen? ⟨w.heap.size, j, none⟩ = false := by
    intro j hj
    have hb := g2.block w.heap.size (by omega) (fun e => by injection e; omega)
    refine ⟨?_, ?_⟩
    · rw [World.cell?_of_block (w := w1) hb, b1.cell (show w.heap.size < wz.heap.size by omega)]; exact (HZ.out j hj).1
    · rw [World.frozen?_of_block (w := w1) hb, b1.frozen (show w.heap.size < wz.heap.size by omega)]; exact (HZ.out j hj).2
  obtain ⟨z0, y0⟩ := hz 0 (by omega)
  obtain ⟨z1, y1⟩ := hz 1 (by omega)
  obtain ⟨z2, y2⟩ := hz 2 (by omega)
  obtain ⟨z3, y3⟩ := hz 3 (by omega)
  obtain ⟨z4, y4⟩ := hz 4 (by omega)
  obtain ⟨z5, y5⟩ := hz 5 (by omega)
  clear hz r1 r2 g2 g3 b1 h b0
  go_wp2
  refine bodyPost_ret (v := .agg #[.int .i64 k, .int .i64 d, .int .i64 a, .int .i64 x, .int .i64 f, .int .i64 n]) (by simp [results, Tryd.results11, go_sem, z0, z1, z2, z3, z4, z5]) rfl ⟨k, d, a, x, f, n, rfl, ?_⟩
  exact below_sets HB.out hB _ _ _ _ _ _
set_option maxHeartbeats 1000000 in
theorem DrawCodText (B : Nat) (s : Option Addr) (len cap : Nat) (w : World) (h : Code1 B w s len cap) : Calls Tryd.prog 21 #[.slice s len cap] w (OneI B w) := by
  have hB := h.1
  have b0 : Below B w (w.alloc (.cells #[.int .i64 0, .int .i64 0, .int .i64 0, .int .i64 0, .int .i64 0, .int .i64 0] 24)) := (Fr.alloc w _).mono hB
  have hz : ∀ j, j < 6 → (w.alloc (.cells #[.int .i64 0, .int .i64 0, .int .i64 0, .int .i64 0, .int .i64 0, .int .i64 0] 24)).cell? ⟨w.heap.size, j, none⟩ = some (.int .i64 0) ∧ (w.alloc (.cells #[.int .i64 0, .int .i64 0, .int .i64 0, .int .i64 0, .int .i64 0, .int .i64 0] 24)).frozen? ⟨w.heap.size, j, none⟩ = false := by
    intro j hj
    have e : j = 0 ∨ j = 1 ∨ j = 2 ∨ j = 3 ∨ j = 4 ∨ j = 5 := by omega
    rcases e with rfl | rfl | rfl | rfl | rfl | rfl <;> simp
  have hzs : (w.alloc (.cells #[.int .i64 0, .int .i64 0, .int .i64 0, .int .i64 0, .int .i64 0, .int .i64 0] 24)).heap.size = w.heap.size + 1 := by simp
  have HZ := Lib.hid hz
  clear hz
  go_enter Tryd.func21, Tryd.ntmps21
  go_wp2_with fail
  generalize (w.alloc (.cells #[.int .i64 0, .int .i64 0, .int .i64 0, .int .i64 0, .int .i64 0, .int .i64 0] 24)) = wz at *
  refine (opens B s len cap wz (h.below b0)).mono ?_
  rintro e w1 ⟨rfl, r1, b1⟩
  rw [hzs] at r1
  go_wp2_with fail
  refine (l20Inst B _ _ _ w1 r1 (by omega) (by omega) (by omega)).mono ?_
  rintro e w2 ⟨k, d, a, x, f, n, rfl, r2, g2⟩
  have g3 := g2
  rw [← hzs] at g3
  have HB := Lib.hid (b0.trans (below_of (by omega) b1 g3))
  have hs1 := b1.size
  have hz : ∀ j, j < 6 → w2.cell? ⟨w.heap.size, j, none⟩ = some (.int .i64 0) ∧ w2.frozen? ⟨w.heap.size, j, none⟩ = false := by
    intro j hj
    have hb := g2.block w.heap.size (by omega) (fun e => by injection e; omega)
    refine ⟨?_, ?_⟩
    · rw [World.cell?_of_block (w := w1) hb, b1.cell (show w.heap.size < wz.heap.size by omega)]; exact (HZ.out j hj).1
    · rw [World.frozen?_of_block (w := w1) hb, b1.frozen (show w.heap.size < wz.heap.size by omega)]; exact (HZ.out j hj).2
  obtain ⟨z0, y0⟩ := hz 0 (by omega)
  obtain ⟨z1, y1⟩ := hz 1 (by omega)
  obtain ⟨z2, y2⟩ := hz 2 (by omega)
  obtain ⟨z3, y3⟩ := hz 3 (by omega)
  obtain ⟨z4, y4⟩ := hz 4 (by omega)
  obtain ⟨z5, y5⟩ := hz 5 (by omega)
  clear hz r1 r2 g2 g3 b1 h b0
  go_wp2
  refine bodyPost_ret (v := .agg #[.int .i64 k, .int .i64 d, .int .i64 a, .int .i64 x, .int .i64 f, .int .i64 n]) (by simp [results, Tryd.results21, go_sem, z0, z1, z2, z3, z4, z5]) rfl ⟨k, d, a, x, f, n, rfl, ?_⟩
  exact below_sets HB.out hB _ _ _ _ _ _
set_option maxHeartbeats 1000000 in
theorem DrawCodRead (B : Nat) (s : Option Addr) (len cap : Nat) (w : World) (h : Code1 B w s len cap) : Calls Tryd.prog 12 #[.slice s len cap] w (One B w) := by
  have hB := h.1
  go_enter Tryd.func12, Tryd.ntmps12
  go_wp2_with fail
  refine (opens B s len cap w h).mono ?_
  rintro e w1 ⟨rfl, r1, b1⟩
  go_wp2_with fail
  refine (pick B _ _ _ w1 r1 (by omega)).mono ?_
  rintro e w2 ⟨x2, x20, x21, rfl, r2, g2⟩
  cases e0 : (x2 == 0)
  · go_wp2_with fail
    refine (l20Inst B _ _ _ w2 r2 (by omega) (by omega) (by omega)).mono ?_
    rintro e w3 ⟨k, d, a, x, f, n, rfl, r3, g3⟩
    have HB := Lib.hid (below_of hB b1 (grown_trans g2 g3))
    go_wp2_with fail
    refine (spec_CodWord _ _ _ _ _ _ _).mono ?_
    rintro e w4 ⟨rfl, f4⟩
    clear r1 r2 r3 g2 g3 b1 h
    go_wp2
    go_ret
    exact ⟨_, rfl, HB.out.trans (f4.mono (Nat.le_trans hB HB.out.size))⟩
  · go_wp2_with fail
    refine (l20Word B _ _ _ w2 r2 (by omega) (by omega) (by omega)).mono ?_
    rintro e w3 ⟨n, rfl, r3, g3⟩
    have HB := Lib.hid (below_of hB b1 (grown_trans g2 g3))
    clear r1 r2 r3 g2 g3 b1 h
    go_wp2
    go_ret
    exact ⟨_, rfl, HB.out⟩
end Go.Proofs.YtecdmafhjfnloaaDoor
