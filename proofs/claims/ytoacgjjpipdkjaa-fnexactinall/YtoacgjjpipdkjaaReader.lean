/- The reader of a code (l20Rd): what it holds, and the contracts of l20Open, pick and odd. The draws of layer 1: some number (which one makes no difference to the laws); nothing that was there has turned. -/
import Derived.Below
import Derived.Deep.QuietTactic
import Derived.BigQuiet
import Derived.Laws.AppendOwn
import Derived.Test.YtoacgjjpipdkjaaWords
namespace Go.Proofs.Ytoacgjjpipdkjaa
open Go.RowKit
set_option linter.unusedVariables false

/-- The bytes that a reader reads lie below block B. -/
def Bytes (B : Nat) (w : World) (s : Option Addr) (len : Nat) : Prop :=
  len = 0 ∨ ∃ (sb so : Nat) (z : Nat → Int), s = some ⟨sb, so, none⟩ ∧ sb < B ∧ (∀ i, i < len → w.cell? ⟨sb, so + i, none⟩ = some (.int .u8 (z i))) ∧ ∀ i, 0 ≤ z i ∧ z i ≤ 255
/-- A reader lies in block b, from B on; it has read at most N times. -/
def Rd (B N : Nat) (w : World) (b : Nat) : Prop :=
  B ≤ b ∧ b < w.heap.size ∧ ∃ (s : Option Addr) (len cap p : Nat), w.cell? ⟨b, 0, none⟩ = some (.slice s len cap) ∧ w.cell? ⟨b, 1, none⟩ = some (.int .i64 p) ∧ w.frozen? ⟨b, 1, none⟩ = false ∧ p ≤ N ∧ len ≤ 2000 ∧ Bytes B w s len
theorem Rd.mono {B N M : Nat} {w : World} {b : Nat} (h : Rd B N w b) (hN : N ≤ M) : Rd B M w b := by
  obtain ⟨h1, h2, s, len, cap, p, h3, h4, h5, h6, h7⟩ := h
  exact ⟨h1, h2, s, len, cap, p, h3, h4, h5, by omega, h7⟩
theorem grown_refl (w : World) (row : Option Nat) : w.grownBy w row := ⟨rfl, rfl, rfl, Nat.le_refl _, fun _ _ _ => rfl⟩
theorem grown_trans {a b c : World} {row : Option Nat} (h : a.grownBy b row) (k : b.grownBy c row) : a.grownBy c row :=
  ⟨k.os.trans h.os, k.tape.trans h.tape, k.output.trans h.output, Nat.le_trans h.size k.size, fun i hi hne => (k.block i (Nat.lt_of_lt_of_le hi h.size) hne).trans (h.block i hi hne)⟩
theorem grown_set (w : World) (b o : Nat) (v : Value) : w.grownBy (w.setCell ⟨b, o, none⟩ v) (some b) :=
  ⟨rfl, rfl, rfl, by simp [World.setCell], fun k _ hne => Below.heap_setCell _ _ _ _ (fun h => hne (by rw [h]))⟩
theorem grown_below {w w' : World} {B b : Nat} (h : w.grownBy w' (some b)) (hB : B ≤ b) (hw : B ≤ w.heap.size) : Below B w w' :=
  ⟨h.os, h.tape, h.output, h.size, fun k hk => h.block k (by omega) (fun e => by injection e; omega)⟩
theorem Bytes.below {B : Nat} {w w' : World} {s : Option Addr} {len : Nat} (h : Bytes B w s len) (hb : Below B w w') : Bytes B w' s len := by
  rcases h with h | ⟨sb, so, z, hs, hlt, hc, hz⟩
  · exact .inl h
  · exact .inr ⟨sb, so, z, hs, hlt, fun i hi => by rw [hb.cell (p := ⟨sb, so + i, none⟩) hlt]; exact hc i hi, hz⟩
theorem lt_of_cell {w : World} {a : Addr} {v : Value} (h : w.cell? a = some v) : a.block < w.heap.size := by
  by_cases hlt : a.block < w.heap.size
  · exact hlt
  · have : w.heap[a.block]? = none := Array.getElem?_eq_none (by omega)
    simp [World.cell?, this] at h

theorem Rd.alloc {B N b : Nat} {w : World} (h : Rd B N w b) (o : Obj) : Rd B N (w.alloc o) b := by
  obtain ⟨h1, h2, s, len, cap, p, h3, h4, h5, h6, h7, h8⟩ := h
  have hb : Below w.heap.size w (w.alloc o) := (Below.refl _ _).alloc (Nat.le_refl _) _
  exact ⟨h1, by simp; omega, s, len, cap, p, by rw [hb.cell h2]; exact h3, by rw [hb.cell h2]; exact h4, by rw [hb.frozen h2]; exact h5, h6, h7, h8.below (hb.mono (by omega))⟩
theorem Rd.lt {B N b : Nat} {w : World} (h : Rd B N w b) : b < w.heap.size := h.2.1
/-- A code that came in: its bytes lie below B. -/
def Code1 (B : Nat) (w : World) (s : Option Addr) (len cap : Nat) : Prop := B ≤ w.heap.size ∧ len ≤ cap ∧ cap ≤ maxLen ∧ Bytes B w s len ∧ (s = none → len = 0)
theorem Code1.below {B : Nat} {w w' : World} {s : Option Addr} {len cap : Nat} (h : Code1 B w s len cap) (hb : Below B w w') : Code1 B w' s len cap :=
  ⟨Nat.le_trans h.1 hb.size, h.2.1, h.2.2.1, h.2.2.2.1.below hb, h.2.2.2.2⟩
def Two (B : Nat) (w : World) (e : Ending) (w' : World) : Prop := ∃ n m : Int, e = .returned (.tuple #[.int .i64 n, .int .i64 m]) ∧ Below B w w'
end Go.Proofs.Ytoacgjjpipdkjaa
