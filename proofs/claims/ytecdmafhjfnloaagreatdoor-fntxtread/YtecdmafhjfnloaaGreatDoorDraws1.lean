/- The draws of layer 1: some number (which one makes no difference to the laws); nothing that was there has turned. -/
import Derived.Test.YtecdmafhjfnloaaGreatDoorReader
namespace Go.Proofs.YtecdmafhjfnloaaGreatDoor
open Go.RowKit
set_option linter.unusedVariables false

theorem row_at {w w1 : World} {b : Nat} {c : Array Value} {t : TypeId} (hb : b < w.heap.size) (hg : (w.alloc (.cells c t)).grownBy w1 (some b)) (i : Nat) : w1.cell? ⟨w.heap.size, i, none⟩ = c[i]? := by
  have := hg.block w.heap.size (by simp) (fun e => by injection e; omega)
  rw [World.cell?_of_block (w := w.alloc (.cells c t)) this]
  simp
theorem int_lt (x : Int) (n : Nat) (x0 : 0 ≤ x) (x1 : x < n) : ∃ i : Nat, i < n ∧ x = i := ⟨x.toNat, by omega, by omega⟩
/-- A number out of a short row of numbers. -/
theorem row4 {w w1 : World} {b : Nat} {v0 v1 v2 v3 : Int} {t : TypeId} (hb : b < w.heap.size) (hg : (w.alloc (.cells #[.int .i64 v0, .int .i64 v1, .int .i64 v2, .int .i64 v3] t)).grownBy w1 (some b)) (x : Int) (x0 : 0 ≤ x) (x1 : x < 4) :
    ∃ v : Int, w1.cell? ⟨w.heap.size, x.toNat, none⟩ = some (.int .i64 v) := by
  rw [row_at hb hg]
  have : x = 0 ∨ x = 1 ∨ x = 2 ∨ x = 3 := by omega
  rcases this with rfl | rfl | rfl | rfl
  · exact ⟨v0, rfl⟩
  · exact ⟨v1, rfl⟩
  · exact ⟨v2, rfl⟩
  · exact ⟨v3, rfl⟩
theorem row5 {w w1 : World} {b : Nat} {v0 v1 v2 v3 v4 : Int} {t : TypeId} (hb : b < w.heap.size) (hg : (w.alloc (.cells #[.int .i64 v0, .int .i64 v1, .int .i64 v2, .int .i64 v3, .int .i64 v4] t)).grownBy w1 (some b)) (x : Int) (x0 : 0 ≤ x) (x1 : x < 5) :
    ∃ v : Int, w1.cell? ⟨w.heap.size, x.toNat, none⟩ = some (.int .i64 v) := by
  rw [row_at hb hg]
  have : x = 0 ∨ x = 1 ∨ x = 2 ∨ x = 3 ∨ x = 4 := by omega
  rcases this with rfl | rfl | rfl | rfl | rfl
  · exact ⟨v0, rfl⟩
  · exact ⟨v1, rfl⟩
  · exact ⟨v2, rfl⟩
  · exact ⟨v3, rfl⟩
  · exact ⟨v4, rfl⟩
theorem Rd.alloc {B N b : Nat} {w : World} (h : Rd B N w b) (o : Obj) : Rd B N (w.alloc o) b := by
  obtain ⟨h1, h2, s, len, cap, p, h3, h4, h5, h6, h7, h8⟩ := h
  have hb : Below w.heap.size w (w.alloc o) := (Below.refl _ _).alloc (Nat.le_refl _) _
  exact ⟨h1, by simp; omega, s, len, cap, p, by rw [hb.cell h2]; exact h3, by rw [hb.cell h2]; exact h4, by rw [hb.frozen h2]; exact h5, h6, h7, h8.below (hb.mono (by omega))⟩
theorem Rd.lt {B N b : Nat} {w : World} (h : Rd B N w b) : b < w.heap.size := h.2.1
theorem Rd.ge {B N b : Nat} {w : World} (h : Rd B N w b) : B ≤ b := h.1

/-- Behind a draw of a number. -/
def Drew (B N b : Nat) (w : World) (e : Ending) (w' : World) : Prop :=
  ∃ n : Int, e = .returned (.int .i64 n) ∧ Rd B N w' b ∧ w.grownBy w' (some b)
set_option maxHeartbeats 1000000 in
theorem l20Word (B N b : Nat) (n : Int) (w : World) (h : Rd B N w b) (hN : N ≤ 900000000) (n0 : 1 ≤ n) (n1 : n ≤ 1000000000) :
    Calls Tryz.prog 26 #[.pointer (some ⟨b, 0, none⟩), .int .i64 n] w (Drew B (N + 8) b w) := by
  go_enter Tryz.func26, Tryz.ntmps26
  go_wp2_with fail
  refine (odd B N b n w h (by omega) n0 n1).mono ?_
  rintro e w1 ⟨v, rfl, r1, g1⟩
  cases v
  · go_wp2_with fail
    refine (pick B _ b _ w1 r1 (by omega)).mono ?_
    rintro e w2 ⟨x2, x20, x21, rfl, r2, g2⟩
    go_wp2_with fail
    refine (pick B _ b _ w2 r2 (by omega)).mono ?_
    rintro e w3 ⟨x3, x30, x31, rfl, r3, g3⟩
    go_wp2_with fail
    refine (pick B _ b _ w3 r3 (by omega)).mono ?_
    rintro e w4 ⟨x4, x40, x41, rfl, r4, g4⟩
    go_wp2_with fail
    refine (pick B _ b _ w4 r4 (by omega)).mono ?_
    rintro e w5 ⟨x5, x50, x51, rfl, r5, g5⟩
    go_wp2_with fail
    refine (pick B _ b _ w5 r5 (by omega)).mono ?_
    rintro e w6 ⟨x6, x60, x61, rfl, r6, g6⟩
    go_wp2_with fail
    refine (pick B _ b _ w6 r6 (by omega)).mono ?_
    rintro e w7 ⟨x7, x70, x71, rfl, r7, g7⟩
    go_wp2_with fail
    refine (pick B _ b _ _ (r7.alloc _) (by omega)).mono ?_
    rintro e w8 ⟨x8, x80, x81, rfl, r8, g8⟩
    obtain ⟨v, hv⟩ := row5 r7.lt g8 x8 x80 (x81 (by omega))
    have x82 := x81 (by omega)
    go_wp2
    go_ret
    exact ⟨v, rfl, r8.mono (by omega), grown_trans g1 (grown_trans g2 (grown_trans g3 (grown_trans g4 (grown_trans g5 (grown_trans g6 (grown_trans g7 (grown_trans (World.grownBy_alloc _ _ _) g8)))))))⟩
  · go_wp2_with fail
    refine (pick B _ b _ _ (r1.alloc _) (by omega)).mono ?_
    rintro e w2 ⟨x2, x20, x21, rfl, r2, g2⟩
    obtain ⟨v, hv⟩ := row4 r1.lt g2 x2 x20 (x21 (by omega))
    have x22 := x21 (by omega)
    go_wp2
    go_ret
    exact ⟨v, rfl, r2.mono (by omega), grown_trans g1 (grown_trans (World.grownBy_alloc _ _ _) g2)⟩

/-- A code that came in: its bytes lie below B. -/
def Code1 (B : Nat) (w : World) (s : Option Addr) (len cap : Nat) : Prop := B ≤ w.heap.size ∧ len ≤ cap ∧ cap ≤ maxLen ∧ Bytes B w s len ∧ (s = none → len = 0)
theorem Code1.below {B : Nat} {w w' : World} {s : Option Addr} {len cap : Nat} (h : Code1 B w s len cap) (hb : Below B w w') : Code1 B w' s len cap :=
  ⟨Nat.le_trans h.1 hb.size, h.2.1, h.2.2.1, h.2.2.2.1.below hb, h.2.2.2.2⟩
theorem opens (B : Nat) (s : Option Addr) (len cap : Nat) (w : World) (h : Code1 B w s len cap) : Calls Tryz.prog 24 #[.slice s len cap] w (Opened B w) :=
  l20Open B s len cap w h.1 h.2.1 h.2.2.1 h.2.2.2.1 h.2.2.2.2
/-- What was drawn, and no old block turned. -/
def One (B : Nat) (w : World) (e : Ending) (w' : World) : Prop := ∃ n : Int, e = .returned (.int .i64 n) ∧ Below B w w'
def Two (B : Nat) (w : World) (e : Ending) (w' : World) : Prop := ∃ n m : Int, e = .returned (.tuple #[.int .i64 n, .int .i64 m]) ∧ Below B w w'
def Three (B : Nat) (w : World) (e : Ending) (w' : World) : Prop := ∃ n m k : Int, e = .returned (.tuple #[.int .i64 n, .int .i64 m, .int .i64 k]) ∧ Below B w w'
theorem below_of {B : Nat} {w w1 w2 : World} (hB : B ≤ w.heap.size) (h1 : Below w.heap.size w w1) (h2 : w1.grownBy w2 (some w.heap.size)) : Below B w w2 :=
  (h1.mono hB).trans (grown_below h2 hB (Nat.le_trans hB h1.size))

end Go.Proofs.YtecdmafhjfnloaaGreatDoor
