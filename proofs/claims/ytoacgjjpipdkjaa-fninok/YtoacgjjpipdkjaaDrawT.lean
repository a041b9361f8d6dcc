/- The draws of chapter 3: some words, some lines, some text (which makes no difference to the laws); nothing that was there has turned. A row from its second number on. -/
import Derived.Test.YtoacgjjpipdkjaaRl
import Derived.Test.YtoacgjjpipdkjaaDrawInst
import Derived.Test.YtoacgjjpipdkjaaPh
import Derived.Test.YtoacgjjpipdkjaaPl5
namespace Go.Proofs.Ytoacgjjpipdkjaa
open Go.RowKit
set_option linter.unusedVariables false
set_option linter.unusedSimpArgs false

theorem Rd.row {B N b : Nat} {u u' : World} (h : Rd B N u b) {row : Option Nat} (g : u.grownBy u' row) (hr : ∀ q, row = some q → b < q) : Rd B N u' b := by
  obtain ⟨h1, h2, s, len, cap, p, h3, h4, h5, h6, h7, h8⟩ := h
  have hb : ∀ k, k ≤ b → u'.heap[k]? = u.heap[k]? := fun k hk => g.block k (by omega) (fun e => by have := hr k e.symm; omega)
  have hc : ∀ k o, k ≤ b → u'.cell? ⟨k, o, none⟩ = u.cell? ⟨k, o, none⟩ := fun k o hk => World.cell?_of_block (hb k hk)
  refine ⟨h1, Nat.lt_of_lt_of_le h2 g.size, s, len, cap, p, by rw [hc b 0 (Nat.le_refl _)]; exact h3, by rw [hc b 1 (Nat.le_refl _)]; exact h4, ?_, h6, h7, ?_⟩
  · rw [← h5]; exact World.frozen?_of_block (hb b (Nat.le_refl _))
  · rcases h8 with h8 | ⟨sb, so, z, hs, hsb, hcz, hz⟩
    · exact .inl h8
    · exact .inr ⟨sb, so, z, hs, hsb, fun i hi => by rw [hc sb _ (by omega)]; exact hcz i hi, hz⟩
/-- A reader in block b, and beside it a row that the call owns, from B2 on. -/
structure DW (B : Nat) (w : World) (b B2 N : Nat) (e : TypeId) (u : World) (v : Value) (n : Nat) (xs : List Value) : Prop where
  rd : Rd B N u b
  own : u.ownsRow B2 e 1 v n xs
  lt : b < B2
  sz : B2 ≤ u.heap.size
  bel : Below B w u
theorem DW.step {B : Nat} {w : World} {b B2 N M : Nat} {e : TypeId} {u u' : World} {v : Value} {n : Nat} {xs : List Value} (h : DW B w b B2 N e u v n xs) (r : Rd B M u' b) (g : u.grownBy u' (some b)) : DW B w b B2 M e u' v n xs := by
  refine ⟨r, World.ownsRow.kept h.own g ?_, h.lt, Nat.le_trans h.sz g.size, h.bel.trans (grown_below g h.rd.ge (Nat.le_trans h.rd.ge (Nat.le_of_lt h.rd.lt)))⟩
  cases hv : v.ownBlock with
  | none => exact .inl rfl
  | some q =>
    right
    intro e
    cases e
    have := (World.ownsRow.lt h.own b hv).1
    have := h.lt
    omega
theorem DW.mono {B : Nat} {w : World} {b B2 N M : Nat} {e : TypeId} {u : World} {v : Value} {n : Nat} {xs : List Value} (h : DW B w b B2 N e u v n xs) (hM : N ≤ M) : DW B w b B2 M e u v n xs := h.step (h.rd.mono hM) (grown_refl _ _)
theorem DW.alloc {B : Nat} {w : World} {b B2 N : Nat} {e : TypeId} {u : World} {v : Value} {n : Nat} {xs : List Value} (h : DW B w b B2 N e u v n xs) (o : Obj) : DW B w b B2 N e (u.alloc o) v n xs := h.step (h.rd.alloc o) (World.grownBy_alloc _ _ _)
theorem DW.fr {B : Nat} {w : World} {b B2 N : Nat} {e : TypeId} {u u' : World} {v : Value} {n : Nat} {xs : List Value} (h : DW B w b B2 N e u v n xs) (f : Fr u u') : DW B w b B2 N e u' v n xs := h.step (h.rd.row (fr_row f none) nofun) (fr_row f _)
theorem odd0 (b : Nat) (w : World) : Calls Try.prog 90 #[.pointer (some ⟨b, 0, none⟩), .int .i64 0] w fun e w' => e = .returned (.bool false) ∧ w = w' := by
  go_enter Try.func90, Try.ntmps90
  go_wp2
  go_ret
  exact ⟨rfl, rfl⟩
def DrewW (B N b : Nat) (w : World) (e : Ending) (w' : World) : Prop :=
  ∃ n : Int, 0 ≤ n ∧ n ≤ 65535 ∧ e = .returned (.int .i64 n) ∧ Rd B N w' b ∧ w.grownBy w' (some b)
theorem rowB5 {w w1 : World} {b : Nat} {v0 v1 v2 v3 v4 : Int} {t : TypeId} (hb : b < w.heap.size) (hg : (w.alloc (.cells #[.int .i64 v0, .int .i64 v1, .int .i64 v2, .int .i64 v3, .int .i64 v4] t)).grownBy w1 (some b)) (P : Int → Prop) (h0 : P v0) (h1 : P v1) (h2 : P v2) (h3 : P v3) (h4 : P v4) (x : Int) (x0 : 0 ≤ x) (x1 : x < 5) :
    ∃ v : Int, P v ∧ w1.cell? ⟨w.heap.size, x.toNat, none⟩ = some (.int .i64 v) := by
  rw [row_at hb hg]
  have : x = 0 ∨ x = 1 ∨ x = 2 ∨ x = 3 ∨ x = 4 := by omega
  rcases this with rfl | rfl | rfl | rfl | rfl
  · exact ⟨v0, h0, rfl⟩
  · exact ⟨v1, h1, rfl⟩
  · exact ⟨v2, h2, rfl⟩
  · exact ⟨v3, h3, rfl⟩
  · exact ⟨v4, h4, rfl⟩
set_option maxHeartbeats 1000000 in
theorem l20Word0 (B N b : Nat) (w : World) (h : Rd B N w b) (hN : N ≤ 900000000) :
    Calls Try.prog 93 #[.pointer (some ⟨b, 0, none⟩), .int .i64 0] w (DrewW B (N + 8) b w) := by
  go_enter Try.func93, Try.ntmps93
  go_wp2_with fail
  refine (odd0 b w).mono ?_
  rintro e w1 ⟨rfl, rfl⟩
  go_wp2_with fail
  refine (pick B _ b _ w h (by omega)).mono ?_
  rintro e w2 ⟨x2, x20, x21, rfl, r2, g2⟩
  go_wp2_with fail
  refine (pick B _ b _ w2 r2 (by omega)).mono ?_
  rintro e w3 ⟨x3, x30, x31, rfl, r3, g3⟩
  go_wp2_with fail
  refine (pick B _ b _ w3 r3 (by omega)).mono ?_
  rintro e w4 ⟨x4, x40, x41, rfl, r4, g4⟩
  replace x21 := x21 (by omega)
  replace x31 := x31 (by omega)
  replace x41 := x41 (by omega)
  go_wp2_with fail
  refine (pick B _ b _ w4 r4 (by omega)).mono ?_
  rintro e w5 ⟨x5, x50, x51, rfl, r5, g5⟩
  replace x51 := x51 (by omega)
  go_wp2_with fail
  refine (pick B _ b _ w5 r5 (by omega)).mono ?_
  rintro e w6 ⟨x6, x60, x61, rfl, r6, g6⟩
  replace x61 := x61 (by omega)
  go_wp2_with fail
  refine (pick B _ b _ w6 r6 (by omega)).mono ?_
  rintro e w7 ⟨x7, x70, x71, rfl, r7, g7⟩
  replace x71 := x71 (by omega)
  go_wp2_with fail
  refine (pick B _ b _ _ (r7.alloc _) (by omega)).mono ?_
  rintro e w8 ⟨x8, x80, x81, rfl, r8, g8⟩
  replace x81 := x81 (by omega)
  obtain ⟨v, ⟨v0, v1⟩, hv⟩ := rowB5 r7.lt g8 (fun n => 0 ≤ n ∧ n ≤ 65535) ⟨by omega, by omega⟩ ⟨by omega, by omega⟩ ⟨by omega, by omega⟩ ⟨by omega, by omega⟩ ⟨by omega, by omega⟩ x8 x80 x81
  go_wp2
  go_ret
  exact ⟨v, v0, v1, rfl, r8.mono (by omega), grown_trans g2 (grown_trans g3 (grown_trans g4 (grown_trans g5 (grown_trans g6 (grown_trans g7 (grown_trans (World.grownBy_alloc _ _ _) g8))))))⟩
/-- A value that is a machine. -/
def MQ (t : St) (v : Value) (u : World) : Prop := ∃ B aR aC aM cR cC cM, v = .agg #[.int .i64 (t).pc, .slice aR (t).R.length cR, .slice aC (t).C.length cC, .slice aM (t).M.length cM] ∧ VcS B u t aR aC aM
theorem MQ.but {t : St} {v : Value} {u u' : World} (h : MQ t v u) (f : But [] u u') : MQ t v u' := by
  obtain ⟨B, aR, aC, aM, cR, cC, cM, e, V⟩ := h
  exact ⟨B, aR, aC, aM, cR, cC, cM, e, V.but f (fun b _ => by simp)⟩
/-- A value that is a row of noughts. -/
def ZQ (n : Nat) (v : Value) (u : World) : Prop := ∃ g, v = .slice (some ⟨g, 0, none⟩) n n ∧ Ro u g (zeros n)
theorem ZQ.but {n : Nat} {v : Value} {u u' : World} (h : ZQ n v u) (f : But [] u u') : ZQ n v u' := by
  obtain ⟨g, e, r⟩ := h
  exact ⟨g, e, r.but f (by simp)⟩
end Go.Proofs.Ytoacgjjpipdkjaa
