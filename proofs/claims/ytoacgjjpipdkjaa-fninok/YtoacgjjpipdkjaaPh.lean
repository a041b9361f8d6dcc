/- What the laws of chapter 4 call: machines copied, compared, marked, held. -/
import Derived.Test.YtoacgjjpipdkjaaPl5
namespace Go.Proofs.Ytoacgjjpipdkjaa
open Go.RowKit
set_option linter.unusedVariables false
set_option linter.unusedSimpArgs false
/-- A machine that was handed over: its rows may be written, and lie apart. -/
structure VcS (B : Nat) (u : World) (s : St) (aR aC aM : Option Addr) : Prop where
  R : Vc B u s.R.length (ivl s.R) aR
  C : Vc B u s.C.length (ivl s.C) aC
  M : Vc B u s.M.length (ivl s.M) aM
  rc : ∀ b c, aR = some b → aC = some c → b.block ≠ c.block
  rm : ∀ b c, aR = some b → aM = some c → b.block ≠ c.block
  cm : ∀ b c, aC = some b → aM = some c → b.block ≠ c.block
theorem Ro.vc {B : Nat} {u : World} {g : Nat} {xs : List Int} (h : Ro u g xs) (hB : B ≤ g) : Vc B u xs.length (ivl xs) (some ⟨g, 0, none⟩) := ⟨fun _ => ⟨g, rfl, hB, h.lt, h.cel, h.fro⟩⟩
theorem VcS.fr {B : Nat} {u u' : World} {s : St} {aR aC aM : Option Addr} (h : VcS B u s aR aC aM) (f : Fr u u') : VcS B u' s aR aC aM := ⟨h.R.fr f, h.C.fr f, h.M.fr f, h.rc, h.rm, h.cm⟩
theorem VcS.src {B : Nat} {u : World} {s : St} {aR aC aM : Option Addr} (h : VcS B u s aR aC aM) : SrcS u s aR aC aM := ⟨h.R.src, h.C.src, h.M.src⟩
theorem VcS.mono {B B' : Nat} {u : World} {s : St} {aR aC aM : Option Addr} (h : VcS B u s aR aC aM) (hB : B' ≤ B) : VcS B' u s aR aC aM := ⟨h.R.mono hB, h.C.mono hB, h.M.mono hB, h.rc, h.rm, h.cm⟩
theorem VcS.nil (B : Nat) (u : World) (p : Int) : VcS B u ⟨p, [], [], []⟩ none none none := ⟨Vc.nil _ _ _ _, Vc.nil _ _ _ _, Vc.nil _ _ _ _, fun b c h => (by cases h), fun b c h => (by cases h), fun b c h => (by cases h)⟩
theorem Vc.but {B : Nat} {L : List Nat} {u u' : World} {n : Nat} {c : Nat → Value} {ao : Option Addr} (h : Vc B u n c ao) (f : But L u u') (hn : ∀ b, ao = some b → b.block ∉ L) : Vc B u' n c ao := by
  refine ⟨fun h0 => ?_⟩
  obtain ⟨g, e, b, l, hc, hf⟩ := h.at0 h0
  have hg := hn _ e
  exact ⟨g, e, b, Nat.lt_of_lt_of_le l f.size, fun i hi => by rw [f.cell l hg]; exact hc i hi, fun i hi => by rw [f.frozen l hg]; exact hf i hi⟩
theorem VcS.but {B : Nat} {L : List Nat} {u u' : World} {s : St} {aR aC aM : Option Addr} (h : VcS B u s aR aC aM) (f : But L u u') (hn : ∀ b, aR = some b ∨ aC = some b ∨ aM = some b → b.block ∉ L) : VcS B u' s aR aC aM :=
  ⟨h.R.but f (fun b e => hn b (.inl e)), h.C.but f (fun b e => hn b (.inr (.inl e))), h.M.but f (fun b e => hn b (.inr (.inr e))), h.rc, h.rm, h.cm⟩
theorem Vc.bel {B B' : Nat} {u u' : World} {n : Nat} {c : Nat → Value} {ao : Option Addr} (h : Vc B u n c ao) (f : Below B' u u') (hn : ∀ b, ao = some b → b.block < B') : Vc B u' n c ao := by
  refine ⟨fun h0 => ?_⟩
  obtain ⟨g, e, b, l, hc, hf⟩ := h.at0 h0
  have hg : g < B' := hn _ e
  exact ⟨g, e, b, Nat.lt_of_lt_of_le l f.size, fun i hi => by rw [f.cell (show g < B' from hg)]; exact hc i hi, fun i hi => by rw [f.frozen (show g < B' from hg)]; exact hf i hi⟩
theorem VcS.bel {B B' : Nat} {u u' : World} {s : St} {aR aC aM : Option Addr} (h : VcS B u s aR aC aM) (f : Below B' u u') (hn : ∀ b, aR = some b ∨ aC = some b ∨ aM = some b → b.block < B') : VcS B u' s aR aC aM :=
  ⟨h.R.bel f (fun b e => hn b (.inl e)), h.C.bel f (fun b e => hn b (.inr (.inl e))), h.M.bel f (fun b e => hn b (.inr (.inr e))), h.rc, h.rm, h.cm⟩
theorem but_row {w w' : World} {row : Option Nat} (h : w.grownBy w' row) : But row.toList w w' :=
  ⟨h.os, h.tape, h.output, h.size, fun k hk hn => h.block k hk (fun e => hn (by rw [← e]; simp))⟩
/-- Not too many rows to be copied. -/
structure Few20 (s : St) : Prop where
  R : s.R.length ≤ 1048576
  C : s.C.length ≤ 1048576
  M : s.M.length ≤ 1048576
theorem Few20.few {s : St} (h : Few20 s) : Few s := ⟨by have := h.R; omega, by have := h.C; omega, by have := h.M; omega⟩
theorem Box4.set2 {u : World} {g : Nat} {a b c d : Value} (h : Box4 u g a b c d) (x : Value) : Box4 (u.setCell ⟨g, 2, none⟩ x) g a b x d :=
  ⟨by simpa [World.setCell] using h.lt, by rw [World.cell?_setCell_other _ _ _ _ (by simp)]; exact h.c0, by rw [World.cell?_setCell_other _ _ _ _ (by simp)]; exact h.c1, World.cell?_setCell_same _ _ _ h.c2, by rw [World.cell?_setCell_other _ _ _ _ (by simp)]; exact h.c3, by rw [World.frozen?_setCell]; exact h.f0, by rw [World.frozen?_setCell]; exact h.f1, by rw [World.frozen?_setCell]; exact h.f2, by rw [World.frozen?_setCell]; exact h.f3⟩
theorem Box4.oth {u : World} {g : Nat} {a b c d : Value} (h : Box4 u g a b c d) (Z j : Nat) (x : Value) (hz : ¬ Z = g) : Box4 (u.setCell ⟨Z, j, none⟩ x) g a b c d :=
  h.but (L := [Z]) ((But.refl _ _).set Z j x (.inl (by simp))) (by simp; try omega)
theorem Ro.low {B : Nat} {u u' : World} {g : Nat} {xs : List Int} (h : Ro u g xs) (f : Below B u u') (hg : g < B) : Ro u' g xs :=
  ⟨Nat.lt_of_lt_of_le h.lt f.size, fun i hi => by rw [f.cell (show g < B from hg)]; exact h.cel i hi, fun i hi => by rw [f.frozen (show g < B from hg)]; exact h.fro i hi⟩
/-- .. as a value. -/
def ToQ (s : St) (v : Value) (u : World) : Prop := ∃ gr gc gm B, v = .agg #[.int .i64 s.pc, .slice (some ⟨gr, 0, none⟩) s.R.length s.R.length, .slice (some ⟨gc, 0, none⟩) s.C.length s.C.length, .slice (some ⟨gm, 0, none⟩) s.M.length s.M.length] ∧ VcS B u s (some ⟨gr, 0, none⟩) (some ⟨gc, 0, none⟩) (some ⟨gm, 0, none⟩)
theorem ToQ.but {L : List Nat} {s : St} {v : Value} {u u' : World} (h : ToQ s v u) (f : But [] u u') : ToQ s v u' := by
  obtain ⟨gr, gc, gm, B, e, V⟩ := h
  exact ⟨gr, gc, gm, B, e, V.but f (fun b _ => by simp)⟩
/-- A marked machine. -/
structure VcK (B : Nat) (u : World) (nr nc nm : Nat) (k : Int) (aR aC aM : Option Addr) : Prop where
  R : Vc B u nr (fun i => .int .i64 (k + i)) aR
  C : Vc B u nc (fun i => .int .i64 (k + nr + i)) aC
  M : Vc B u nm (fun i => .int .i64 (k + nr + nc + i)) aM
theorem VcK.fr {B : Nat} {u u' : World} {nr nc nm : Nat} {k : Int} {aR aC aM : Option Addr} (h : VcK B u nr nc nm k aR aC aM) (f : Fr u u') : VcK B u' nr nc nm k aR aC aM := ⟨h.R.fr f, h.C.fr f, h.M.fr f⟩
end Go.Proofs.Ytoacgjjpipdkjaa
