/- The program's cache, made of a state. The program's cache, made of a state; a line of it as memory. -/
import Derived.Test.YtoacgjjpipdkjaaK30
import Derived.Test.YtoacgjjpipdkjaaN7
namespace Go.Proofs.Ytoacgjjpipdkjaa
open Go.RowKit
set_option linter.unusedVariables false
set_option linter.unusedSimpArgs false
/-- A cache whose first k lines were set. -/
structure RK0 (u : World) (g : Nat) (M : List Int) (X : List La) (k : Nat) : Prop where
  lt : g < u.heap.size
  Xl : X.length = 4
  Ml : M.length = 256
  M : ∀ i, i < 256 → u.cell? ⟨g, i, none⟩ = some (.int .i64 (M.getD i 0))
  c0 : ∀ k, k < 4 → u.cell? ⟨g, 256 + k * 5, none⟩ = some (.bool (X.getD k la0).n.u)
  c1 : ∀ k, k < 4 → u.cell? ⟨g, 256 + k * 5 + 1, none⟩ = some (.int .i64 (X.getD k la0).n.p)
  c2 : ∀ k, k < 4 → u.cell? ⟨g, 256 + k * 5 + 2, none⟩ = some (.bool (X.getD k la0).n.d)
  c3 : ∀ k, k < 4 → u.cell? ⟨g, 256 + k * 5 + 3, none⟩ = some (.slice (X.getD k la0).a (X.getD k la0).n.W.length (X.getD k la0).c)
  c4 : ∀ i, i < 4 → u.cell? ⟨g, 256 + i * 5 + 4, none⟩ = some (if i < k then rif g else .nilIface)
  fro : ∀ i, i < 276 → u.frozen? ⟨g, i, none⟩ = false
theorem RK0.but {L : List Nat} {u u' : World} {g : Nat} {M : List Int} {X : List La} {k : Nat} (h : RK0 u g M X k) (f : But L u u') (hn : g ∉ L) : RK0 u' g M X k :=
  ⟨Nat.lt_of_lt_of_le h.lt f.size, h.Xl, h.Ml, fun i hi => by rw [f.cell h.lt hn]; exact h.M i hi, fun i hi => by rw [f.cell h.lt hn]; exact h.c0 i hi, fun i hi => by rw [f.cell h.lt hn]; exact h.c1 i hi, fun i hi => by rw [f.cell h.lt hn]; exact h.c2 i hi, fun i hi => by rw [f.cell h.lt hn]; exact h.c3 i hi, fun i hi => by rw [f.cell h.lt hn]; exact h.c4 i hi, fun i hi => by rw [f.frozen h.lt hn]; exact h.fro i hi⟩
theorem RK0.fr {u u' : World} {g : Nat} {M : List Int} {X : List La} {k : Nat} (h : RK0 u g M X k) (f : Fr u u') : RK0 u' g M X k := h.but (L := []) (But.of f) (by simp)
theorem RK0.done {u : World} {g : Nat} {M : List Int} {X : List La} (h : RK0 u g M X 4) : RK u g M X := ⟨h.lt, h.Xl, h.Ml, h.M, h.c0, h.c1, h.c2, h.c3, fun k hk => by rw [h.c4 k hk, if_pos hk], h.fro⟩
abbrev set5 (u : World) (g o : Nat) (y : La) : World := ((((u.setCell ⟨g, o, none⟩ (.bool y.n.u)).setCell ⟨g, o + 1, none⟩ (.int .i64 y.n.p)).setCell ⟨g, o + 2, none⟩ (.bool y.n.d)).setCell ⟨g, o + 3, none⟩ (.slice y.a y.n.W.length y.c)).setCell ⟨g, o + 4, none⟩ (rif g)
structure OwP0 (w0 u : World) (g : Nat) (M : List Int) (X : List La) (k : Nat) : Prop where
  f : Fr w0 u
  b : w0.heap.size ≤ g
  r : RK0 u g M X k
  w : WdO w0.heap.size u X
  ap : ∀ i, i < X.length → g ∉ wbk (X.getD i la0)
theorem OwP0.fr {w0 u u' : World} {g : Nat} {M : List Int} {X : List La} {k : Nat} (h : OwP0 w0 u g M X k) (f : Fr u u') : OwP0 w0 u' g M X k := ⟨Fr.trans h.f f, h.b, h.r.fr f, h.w.fr f, h.ap⟩
theorem OwP0.done {w0 u : World} {g : Nat} {M : List Int} {X : List La} (h : OwP0 w0 u g M X 4) : OwP w0 u g M X := ⟨h.f, h.b, h.r.done, h.w, h.ap⟩
end Go.Proofs.Ytoacgjjpipdkjaa
