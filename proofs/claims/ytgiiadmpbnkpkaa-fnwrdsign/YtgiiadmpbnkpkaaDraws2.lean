/- The draws of layer 1, more: DrawWrdSign. -/
import Derived.Test.YtgiiadmpbnkpkaaDraws1
namespace Go.Proofs.Ytgiiadmpbnkpkaa
open Go.RowKit
set_option linter.unusedVariables false

/-- What lies in a block other than the reader's, below the heap's end, stays. -/
theorem kept {w w1 : World} {b : Nat} (hg : w.grownBy w1 (some b)) (k o : Nat) (hk : k < w.heap.size) (hne : k ≠ b) : w1.cell? ⟨k, o, none⟩ = w.cell? ⟨k, o, none⟩ :=
  World.cell?_of_block (w := w) (hg.block k hk (fun e => hne (by injection e)))
theorem rows2 {w w1 : World} {b : Nat} {c d : Array Value} {t u : TypeId} (hb : b < w.heap.size) (hg : ((w.alloc (.cells c t)).alloc (.cells d u)).grownBy w1 (some b)) :
    (∀ i, w1.cell? ⟨w.heap.size, i, none⟩ = c[i]?) ∧ ∀ i, w1.cell? ⟨w.heap.size + 1, i, none⟩ = d[i]? := by
  refine ⟨fun i => ?_, fun i => ?_⟩
  · rw [kept hg w.heap.size i (by simp; omega) (by omega), World.cell?_alloc_lt _ _ _ (by simp)]
    exact World.cell?_alloc_new _ _ _ i
  · rw [kept hg (w.heap.size + 1) i (by simp) (by omega)]
    have := World.cell?_alloc_new (w.alloc (.cells c t)) d u i
    rwa [World.size_alloc] at this
theorem pick_row6 {w1 : World} {g : Nat} (h : ∀ i, w1.cell? ⟨g, i, none⟩ = (#[Value.int .i64 0, .int .i64 0, .int .i64 0, .int .i64 0, .int .i64 1, .int .i64 2])[i]?) (x : Int) (x0 : 0 ≤ x) (x1 : x < 6) :
    ∃ v : Int, 0 ≤ v ∧ v < 3 ∧ w1.cell? ⟨g, x.toNat, none⟩ = some (.int .i64 v) := by
  rw [h]
  have : x = 0 ∨ x = 1 ∨ x = 2 ∨ x = 3 ∨ x = 4 ∨ x = 5 := by omega
  rcases this with rfl | rfl | rfl | rfl | rfl | rfl
  · exact ⟨0, by omega, by omega, rfl⟩
  · exact ⟨0, by omega, by omega, rfl⟩
  · exact ⟨0, by omega, by omega, rfl⟩
  · exact ⟨0, by omega, by omega, rfl⟩
  · exact ⟨1, by omega, by omega, rfl⟩
  · exact ⟨2, by omega, by omega, rfl⟩
theorem row3_at {w1 : World} {g : Nat} {a b c lo hi : Int} (h : ∀ i, w1.cell? ⟨g, i, none⟩ = (#[Value.int .i64 a, .int .i64 b, .int .i64 c])[i]?) (x : Int) (x0 : 0 ≤ x) (x1 : x < 3) (ha : lo ≤ a ∧ a ≤ hi) (hb : lo ≤ b ∧ b ≤ hi) (hc : lo ≤ c ∧ c ≤ hi) :
    ∃ v : Int, lo ≤ v ∧ v ≤ hi ∧ w1.cell? ⟨g, x.toNat, none⟩ = some (.int .i64 v) := by
  rw [h]
  have : x = 0 ∨ x = 1 ∨ x = 2 := by omega
  rcases this with rfl | rfl | rfl
  · exact ⟨a, ha.1, ha.2, rfl⟩
  · exact ⟨b, hb.1, hb.2, rfl⟩
  · exact ⟨c, hc.1, hc.2, rfl⟩
theorem row2_at {w w1 : World} {b : Nat} {v0 v1 : Int} {t : TypeId} (hb : b < w.heap.size) (hg : (w.alloc (.cells #[.int .i64 v0, .int .i64 v1] t)).grownBy w1 (some b)) (x : Int) (x0 : 0 ≤ x) (x1 : x < 2) :
    ∃ v : Int, w1.cell? ⟨w.heap.size, x.toNat, none⟩ = some (.int .i64 v) := by
  rw [row_at hb hg]
  have : x = 0 ∨ x = 1 := by omega
  rcases this with rfl | rfl
  · exact ⟨v0, rfl⟩
  · exact ⟨v1, rfl⟩

set_option maxHeartbeats 1000000 in
theorem DrawWrdSign (B : Nat) (s : Option Addr) (len cap : Nat) (w : World) (h : Code1 B w s len cap) : Calls Try.prog 23 #[.slice s len cap] w (Two B w) := by
  have hB := h.1
  go_enter Try.func23, Try.ntmps23
  go_wp2_with fail
  refine (opens B s len cap w h).mono ?_
  rintro e w1 ⟨rfl, r1, b1⟩
  go_wp2_with fail
  refine (pick B _ _ _ w1 r1 (by omega)).mono ?_
  rintro e w2 ⟨x2, x20, x21, rfl, r2, g2⟩
  have x22 := x21 (by omega)
  clear x21
  go_wp2_with fail
  refine (pick B _ _ _ _ ((r2.alloc _).alloc _) (by omega)).mono ?_
  rintro e w3 ⟨x3, x30, x31, rfl, r3, g3⟩
  have x32 := x31 (by omega)
  clear x31
  obtain ⟨hrow, hrow'⟩ := rows2 r2.lt g3
  obtain ⟨i, i0, i1, hi⟩ := pick_row6 hrow' x3 x30 x32
  obtain ⟨v, v0, v1, hv⟩ := row3_at (lo := 0) (hi := 17) hrow i i0 i1 ⟨by omega, by omega⟩ ⟨by omega, by omega⟩ ⟨by omega, by omega⟩
  clear hrow hrow'
  go_wp2_with fail
  all_goals
    refine (pick B _ _ _ w3 r3 (by omega)).mono ?_
    rintro e w4 ⟨x4, x40, x41, rfl, r4, g4⟩
    go_wp2_with fail
    refine (l20Word B _ _ _ w4 r4 (by omega) (by omega) (by omega)).mono ?_
    rintro e w5 ⟨n, rfl, r5, g5⟩
    go_wp2_with fail
    refine (pick B _ _ _ _ (r5.alloc _) (by omega)).mono ?_
    rintro e w6 ⟨x6, x60, x61, rfl, r6, g6⟩
    have x62 := x61 (by omega)
    clear x61
    obtain ⟨u, hu⟩ := row2_at r5.lt g6 x6 x60 x62
    go_wp2
    go_ret2
    exact ⟨u, v, rfl, below_of hB b1 (grown_trans g2 (grown_trans (World.grownBy_alloc _ _ _) (grown_trans (World.grownBy_alloc _ _ _) (grown_trans g3 (grown_trans g4 (grown_trans g5 (grown_trans (World.grownBy_alloc _ _ _) g6)))))))⟩
end Go.Proofs.Ytgiiadmpbnkpkaa
