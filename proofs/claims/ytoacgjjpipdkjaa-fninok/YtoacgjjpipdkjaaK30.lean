/- The program's cache in one block: its words, then its lines of five cells. The words behind all lines; a line let go, of the program. A line brought in, of the program. A line seen, read, written, laid, of the program. -/
import Derived.Deep.RegionLaw
import Derived.Test.YtoacgjjpipdkjaaK13
import Derived.Test.YtoacgjjpipdkjaaK2
namespace Go.Proofs.Ytoacgjjpipdkjaa
open Go.RowKit
set_option linter.unusedVariables false
set_option linter.unusedSimpArgs false
/-- What a line has behind it: the words of its own block. -/
abbrev rif (g : Nat) : Value := .iface 103 (.pointer (some ⟨g, 0, none⟩))
structure RK (u : World) (g : Nat) (M : List Int) (X : List La) : Prop where
  lt : g < u.heap.size
  Xl : X.length = 4
  Ml : M.length = 256
  M : ∀ i, i < 256 → u.cell? ⟨g, i, none⟩ = some (.int .i64 (M.getD i 0))
  c0 : ∀ k, k < 4 → u.cell? ⟨g, 256 + k * 5, none⟩ = some (.bool (X.getD k la0).n.u)
  c1 : ∀ k, k < 4 → u.cell? ⟨g, 256 + k * 5 + 1, none⟩ = some (.int .i64 (X.getD k la0).n.p)
  c2 : ∀ k, k < 4 → u.cell? ⟨g, 256 + k * 5 + 2, none⟩ = some (.bool (X.getD k la0).n.d)
  c3 : ∀ k, k < 4 → u.cell? ⟨g, 256 + k * 5 + 3, none⟩ = some (.slice (X.getD k la0).a (X.getD k la0).n.W.length (X.getD k la0).c)
  c4 : ∀ k, k < 4 → u.cell? ⟨g, 256 + k * 5 + 4, none⟩ = some (rif g)
  fro : ∀ i, i < 276 → u.frozen? ⟨g, i, none⟩ = false
theorem RK.but {L : List Nat} {u u' : World} {g : Nat} {M : List Int} {X : List La} (h : RK u g M X) (f : But L u u') (hn : g ∉ L) : RK u' g M X :=
  ⟨Nat.lt_of_lt_of_le h.lt f.size, h.Xl, h.Ml, fun i hi => by rw [f.cell h.lt hn]; exact h.M i hi, fun i hi => by rw [f.cell h.lt hn]; exact h.c0 i hi, fun i hi => by rw [f.cell h.lt hn]; exact h.c1 i hi, fun i hi => by rw [f.cell h.lt hn]; exact h.c2 i hi, fun i hi => by rw [f.cell h.lt hn]; exact h.c3 i hi, fun i hi => by rw [f.cell h.lt hn]; exact h.c4 i hi, fun i hi => by rw [f.frozen h.lt hn]; exact h.fro i hi⟩
theorem RK.fr {u u' : World} {g : Nat} {M : List Int} {X : List La} (h : RK u g M X) (f : Fr u u') : RK u' g M X := h.but (L := []) (But.of f) (by simp)
theorem RK.ro {u : World} {g : Nat} {M : List Int} {X : List La} (h : RK u g M X) : Ro u g M :=
  ⟨h.lt, fun i hi => h.M i (by rw [← h.Ml]; exact hi), fun i hi => h.fro i (by have := h.Ml; omega)⟩
/-- Line k is turned to y. -/
theorem RK.turn {u u' : World} {g : Nat} {M : List Int} {X : List La} (h : RK u g M X) (k : Nat) (y : La) (hk : k < 4) (hs : u.heap.size ≤ u'.heap.size) (hf : ∀ i, u'.frozen? ⟨g, i, none⟩ = u.frozen? ⟨g, i, none⟩)
    (hout : ∀ i, i < 256 + k * 5 ∨ 256 + k * 5 + 4 ≤ i → u'.cell? ⟨g, i, none⟩ = u.cell? ⟨g, i, none⟩)
    (h0 : u'.cell? ⟨g, 256 + k * 5, none⟩ = some (.bool y.n.u)) (h1 : u'.cell? ⟨g, 256 + k * 5 + 1, none⟩ = some (.int .i64 y.n.p)) (h2 : u'.cell? ⟨g, 256 + k * 5 + 2, none⟩ = some (.bool y.n.d)) (h3 : u'.cell? ⟨g, 256 + k * 5 + 3, none⟩ = some (.slice y.a y.n.W.length y.c)) : RK u' g M (X.set k y) := by
  have hX := h.Xl
  have pick : ∀ j, j < 4 → (X.set k y).getD j la0 = if k = j then y else X.getD j la0 := fun j hj => by
    rw [getD_setA]
    by_cases e : k = j
    · rw [if_pos ⟨e, by omega⟩, if_pos e]
    · rw [if_neg (fun h => e h.1), if_neg e]
  refine ⟨Nat.lt_of_lt_of_le h.lt hs, by rw [List.length_set]; exact hX, h.Ml, fun i hi => by rw [hout i (by omega)]; exact h.M i hi, fun j hj => ?_, fun j hj => ?_, fun j hj => ?_, fun j hj => ?_, fun j hj => by rw [hout _ (by omega)]; exact h.c4 j hj, fun i hi => by rw [hf]; exact h.fro i hi⟩
  all_goals
    rw [pick j hj]
    by_cases e : k = j
    · rw [if_pos e, ← e]
      assumption
    · rw [if_neg e, hout _ (by omega)]
      first | exact h.c0 j hj | exact h.c1 j hj | exact h.c2 j hj | exact h.c3 j hj
/-- A whole line is stored. -/
theorem RK.setL {u : World} {g : Nat} {M : List Int} {X : List La} (h : RK u g M X) (k : Nat) (y : La) (hk : k < 4) : RK (u.setCells g (256 + k * 5) (lac y)) g M (X.set k y) := by
  have hb : But [g] u (u.setCells g (256 + k * 5) (lac y)) := But.setCells g (.inl (by simp)) _ _ _ (But.refl _ _)
  have hth : ∀ j, j < 4 → (u.cell? ⟨g, 256 + k * 5 + j, none⟩).isSome = true := fun j hj => by
    rcases j with _ | _ | _ | _ | j
    · rw [Nat.add_zero, h.c0 k hk]; rfl
    · rw [h.c1 k hk]; rfl
    · rw [h.c2 k hk]; rfl
    · rw [h.c3 k hk]; rfl
    · omega
  have hin := World.cell?_setCells_in g (lac y) (256 + k * 5) u hth
  refine h.turn k y hk hb.size (fun i => World.frozen?_setCells _ _ _ _ _) (fun i hi => World.cell?_setCells_out g (lac y) (256 + k * 5) u ⟨g, i, none⟩ (fun _ _ => by show i < 256 + k * 5 ∨ 256 + k * 5 + 4 ≤ i; exact hi)) ?_ ?_ ?_ ?_
  · have := hin 0 (by simp [lac]); rwa [Nat.add_zero] at this
  · exact hin 1 (by simp [lac])
  · exact hin 2 (by simp [lac])
  · exact hin 3 (by simp [lac])
theorem RK.there {u : World} {g : Nat} {M : List Int} {X : List La} (h : RK u g M X) (k : Nat) (hk : k < 4) : u.there g (256 + k * 5) 4 := fun j hj => by
  refine ⟨?_, h.fro _ (by omega)⟩
  rcases j with _ | _ | _ | _ | j
  · rw [Nat.add_zero, h.c0 k hk]; rfl
  · rw [h.c1 k hk]; rfl
  · rw [h.c2 k hk]; rfl
  · rw [h.c3 k hk]; rfl
  · omega
/-- A cache in block g, that a call owns; below w0 nothing has turned. -/
structure OwP (w0 u : World) (g : Nat) (M : List Int) (X : List La) : Prop where
  f : Fr w0 u
  b : w0.heap.size ≤ g
  r : RK u g M X
  w : WdO w0.heap.size u X
  ap : ∀ i, i < X.length → g ∉ wbk (X.getD i la0)
theorem OwP.fr {w0 u u' : World} {g : Nat} {M : List Int} {X : List La} (h : OwP w0 u g M X) (f : Fr u u') : OwP w0 u' g M X := ⟨Fr.trans h.f f, h.b, h.r.fr f, h.w.fr f, h.ap⟩
/-- Line k is turned to y, whose words are its own; L: the blocks that were written. -/
theorem OwP.turn' {w0 u u' : World} {g : Nat} {M : List Int} {X : List La} {L : List Nat} (h : OwP w0 u g M X) (k : Nat) (y : La) (hk : k < 4) (hb : But L u u') (hL : ∀ m, m ∈ L → w0.heap.size ≤ m) (hn : ∀ i, i < X.length → i ≠ k → ∀ m, m ∈ wbk (X.getD i la0) → m ∉ L) (hr : RK u' g M (X.set k y)) (hy : Vc w0.heap.size u' y.n.W.length (ivl y.n.W) y.a) (hg : g ∉ wbk y) (hap : ∀ i, i < X.length → i ≠ k → ∀ m, m ∈ wbk y → m ∉ wbk (X.getD i la0)) : OwP w0 u' g M (X.set k y) := by
  refine ⟨fr_but h.f hb hL, h.b, hr, ⟨fun i hi => ?_, fun i j hi hj hij m h1 h2 => ?_⟩, fun i hi => ?_⟩
  · rw [List.length_set] at hi
    rw [getD_setA]
    split
    · exact hy
    · rename_i hne
      exact (h.w.wd i hi).but' hb (hn i hi (fun e => hne ⟨e.symm, hi⟩))
  · rw [List.length_set] at hi hj
    rw [getD_setA] at h1 h2
    split at h1
    · rename_i e
      rw [if_neg (fun e' => hij (e.1.symm.trans e'.1))] at h2
      exact hap j hj (fun e' => hij (e.1.symm.trans e'.symm)) m h1 h2
    · split at h2
      · rename_i e
        exact hap i hi (fun e' => hij (e'.trans e.1)) m h2 h1
      · exact h.w.ap i j hi hj hij m h1 h2
  · rw [List.length_set] at hi
    rw [getD_setA]
    split
    · exact hg
    · exact h.ap i hi
theorem OwP.turn {w0 u u' : World} {g : Nat} {M : List Int} {X : List La} (h : OwP w0 u g M X) (k : Nat) (y : La) (hk : k < 4) (hb : But [g] u u') (hr : RK u' g M (X.set k y)) (hy : Vc w0.heap.size u y.n.W.length (ivl y.n.W) y.a) (hg : g ∉ wbk y) (hap : ∀ i, i < X.length → i ≠ k → ∀ m, m ∈ wbk y → m ∉ wbk (X.getD i la0)) : OwP w0 u' g M (X.set k y) :=
  h.turn' k y hk hb (fun m hm => by have := h.b; simp at hm; omega) (fun i hi _ m hm hx => by rw [List.mem_singleton.1 hx] at hm; exact h.ap i hi hm) hr (hy.but' hb (fun m hm hx => by rw [List.mem_singleton.1 hx] at hm; exact hg hm)) hg hap
theorem OwP.zero {w0 u : World} {g : Nat} {M : List Int} {X : List La} (h : OwP w0 u g M X) (k : Nat) (hk : k < 4) : OwP w0 (u.setCells g (256 + k * 5) (lac la0)) g M (X.set k la0) :=
  h.turn k la0 hk (But.setCells g (.inl (by simp)) _ _ _ (But.refl _ _)) (h.r.setL k la0 hk) (Vc.nil _ _ _ _) (by rw [la0_wbk]; simp) (fun i _ _ m hm => by rw [la0_wbk] at hm; cases hm)
end Go.Proofs.Ytoacgjjpipdkjaa
