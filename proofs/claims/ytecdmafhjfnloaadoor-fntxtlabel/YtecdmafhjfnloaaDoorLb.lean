/- Chapter 3: two rows of texts beside each other; the lines of law FnTxtLabel. -/
import Derived.Test.YtecdmafhjfnloaaDoorRl3
import Derived.Maps.AppendAt
import Derived.Test.YtecdmafhjfnloaaDoorRegion
namespace Go.Proofs.YtecdmafhjfnloaaDoor
open Go.RowKit
set_option linter.unusedVariables false
set_option linter.unusedSimpArgs false

theorem cells_at (w : World) (xs : List Value) (t : TypeId) (g : Nat) (hg : w.heap.size = g) : ∀ j u, xs[j]? = some u → (w.alloc (.cells xs.toArray t)).cell? ((⟨g, 0, none⟩ : Addr).add j) = some u := by
  subst hg
  intro j u hj
  rcases Nat.eq_zero_or_pos j with rfl | h
  · simpa [Addr.add] using hj
  · simpa [Addr.add, show j ≠ 0 by omega] using hj
/-- Pair2 rows of texts that the call owns, apart. -/
structure Pair2 (B : Nat) (u : World) (v t : Value) (L M : List (List UInt8)) : Prop where
  l : OwnsT B u v L
  r : OwnsT B u t M
  ne : ∀ q, v.ownBlock = some q → t.ownBlock ≠ some q
theorem Pair2.symm {B : Nat} {u : World} {v t : Value} {L M : List (List UInt8)} (h : Pair2 B u v t L M) : Pair2 B u t v M L := ⟨h.r, h.l, fun q h1 h2 => h.ne q h2 h1⟩
theorem Pair2.fr {B : Nat} {u u' : World} {v t : Value} {L M : List (List UInt8)} (h : Pair2 B u v t L M) (f : Fr u u') : Pair2 B u' v t L M := ⟨h.l.fr f, h.r.fr f, h.ne⟩
theorem Pair2.app {B : Nat} {u w4 : World} {v v1 t : Value} {L M N : List (List UInt8)} (h : Pair2 B u v t L M) {m : Nat} (hm : m = N.length) (hown : w4.ownsRow B 9 1 v1 (L.length + m) (L.map (fun x => Value.string (bs x)) ++ N.map (fun x => Value.string (bs x)))) (hg : u.grownBy w4 v.ownBlock) (hl : v1.ownBlock = v.ownBlock ∨ v1.ownBlock = some u.heap.size) : Pair2 B w4 v1 t (L ++ N) M := by
  subst hm
  refine ⟨?_, ?_, fun q h1 h2 => ?_⟩
  · unfold OwnsT
    simpa using hown
  · have hr := h.r
    unfold OwnsT at hr ⊢
    refine World.ownsRow.kept hr hg ?_
    cases ht : t.ownBlock with
    | none => exact .inl rfl
    | some q =>
      right
      intro e
      exact h.ne q e.symm ht
  · rcases hl with e | e
    · rw [e] at h1; exact h.ne q h1 h2
    · rw [e] at h1
      have := (World.ownsRow.lt h.r q h2).2
      cases h1
      omega
theorem Pair2.below {B : Nat} {w u w4 : World} {v t : Value} {L M : List (List UInt8)} (h : Pair2 B u v t L M) (f : Below B w u) (hB : B ≤ u.heap.size) (hg : u.grownBy w4 v.ownBlock) : Below B w w4 :=
  Below.grown f hg hB (own_lt h.l)
theorem pair2_start (w : World) : Pair2 w.heap.size ((w.alloc (.cells #[] 9)).alloc (.cells #[] 9)) (.slice (some ⟨w.heap.size, 0, none⟩) 0 0) (.slice (some ⟨w.heap.size + 1, 0, none⟩) 0 0) [] [] := by
  refine ⟨(ownsT_empty _ w (Nat.le_refl _)).fr (Fr.alloc _ _), ?_, fun q h1 h2 => ?_⟩
  · have := ownsT_empty w.heap.size (w.alloc (.cells #[] 9)) (by simp)
    simpa using this
  · simp only [Value.ownBlock, Option.some.injEq] at h1 h2
    omega
theorem rep_snoc (A : List (List UInt8)) (p : Nat) (x : List UInt8) : A ++ List.replicate (p + 1) x = A ++ List.replicate p x ++ [x] := by rw [List.replicate_succ', List.append_assoc]
def wtL : List UInt8 := [119, 97, 105, 116]
def hrL : List UInt8 := [104, 101, 114, 101, 58]
def adL : List UInt8 := [97, 100, 100, 32, 114, 49, 32, 114, 50, 32, 114, 51]
def w7L : List UInt8 := [119, 111, 114, 100, 32, 55]
def ehL : List UInt8 := [101, 113, 32, 114, 49, 32, 114, 50, 32, 104, 101, 114, 101]
def jhL : List UInt8 := [106, 117, 109, 112, 32, 114, 55, 32, 104, 101, 114, 101]
def m2L : List (List UInt8) := [[45, 50], [45, 51], [45, 52], [45, 53], [45, 54], [45, 55], [45, 56], [45, 57], [45, 49, 48]]
def m3L : List (List UInt8) := [[45, 51], [45, 52], [45, 53], [45, 54], [45, 55], [45, 56], [45, 57], [45, 49, 48], [45, 49, 49]]
def eqL (c : Nat) : List UInt8 := [101, 113, 32, 114, 49, 32, 114, 50, 32] ++ m2L.getD c []
def juL (c : Nat) : List UInt8 := [106, 117, 109, 112, 32, 114, 55, 32] ++ m3L.getD c []
def oneL (b c : Nat) : List (List UInt8) := List.replicate b wtL ++ [hrL, adL] ++ List.replicate c w7L ++ [ehL, jhL]
def twoL (b c : Nat) : List (List UInt8) := List.replicate b wtL ++ [adL] ++ List.replicate c w7L ++ [eqL c, juL c]
set_option maxRecDepth 100000 in
theorem label_lines : ∀ b, b < 9 → ∀ c, c < 9 → tread (oneL b c) = tread (twoL b c) ∧ (tread (oneL b c)).2 = 0 ∧ (tread (oneL b c)).1.length = b + c + 3 := by decide +kernel
theorem label_short (b c : Nat) (hb : b < 9) (hc : c < 9) : ((oneL b c).length ≤ 64 ∧ ∀ x ∈ oneL b c, x.length ≤ 30) ∧ (twoL b c).length ≤ 64 ∧ ∀ x ∈ twoL b c, x.length ≤ 30 := by
  have : ∀ b, b < 9 → ∀ c, c < 9 → ((oneL b c).length ≤ 64 ∧ ∀ x ∈ oneL b c, x.length ≤ 30) ∧ (twoL b c).length ≤ 64 ∧ ∀ x ∈ twoL b c, x.length ≤ 30 := by decide +kernel
  exact this b hb c hc
/-- A row of texts in a new block. -/
def Nine (B0 : Nat) (xs : List (List UInt8)) (v : Value) (w : World) : Prop := ∃ g, v = .slice (some ⟨g, 0, none⟩) xs.length xs.length ∧ B0 ≤ g ∧ g < w.heap.size ∧ ∀ i, i < xs.length → w.cell? ⟨g, i, none⟩ = some (tv xs i)
def Ptr (B0 q : Nat) (s : List UInt8) (v : Value) (w : World) : Prop := ∃ g, v = .pointer (some ⟨g, q, none⟩) ∧ B0 ≤ g ∧ g < w.heap.size ∧ w.cell? ⟨g, q, none⟩ = some (.string (bs s))
theorem Nine.grown {B0 : Nat} {xs : List (List UInt8)} {v : Value} {w w' : World} {row : Option Nat} (h : Nine B0 xs v w) (f : w.grownBy w' row) (hb : ∀ b, row = some b → b < B0) : Nine B0 xs v w' := by
  obtain ⟨g, e, h1, h2, h3⟩ := h
  have hk : w'.heap[g]? = w.heap[g]? := f.block g h2 (fun e => by have := hb g e.symm; omega)
  exact ⟨g, e, h1, Nat.lt_of_lt_of_le h2 f.size, fun i hi => by rw [World.cell?_of_block hk]; exact h3 i hi⟩
theorem Ptr.grown {B0 q : Nat} {s : List UInt8} {v : Value} {w w' : World} {row : Option Nat} (h : Ptr B0 q s v w) (f : w.grownBy w' row) (hb : ∀ b, row = some b → b < B0) : Ptr B0 q s v w' := by
  obtain ⟨g, e, h1, h2, h3⟩ := h
  have hk : w'.heap[g]? = w.heap[g]? := f.block g h2 (fun e => by have := hb g e.symm; omega)
  exact ⟨g, e, h1, Nat.lt_of_lt_of_le h2 f.size, by rw [World.cell?_of_block hk]; exact h3⟩
theorem Nine.ptr {B0 q : Nat} {xs : List (List UInt8)} {v : Value} {w : World} (h : Nine B0 xs v w) (hq : q < xs.length) : ∃ g, v = .slice (some ⟨g, 0, none⟩) xs.length xs.length ∧ Ptr B0 q (xs.getD q []) (.pointer (some ⟨g, q, none⟩)) w := by
  obtain ⟨g, e, h1, h2, h3⟩ := h
  exact ⟨g, e, g, rfl, h1, h2, h3 q hq⟩
theorem nine_new (xs : List (List UInt8)) (w : World) (t : TypeId) {B0 : Nat} (hB : B0 ≤ w.heap.size) : Nine B0 xs (.slice (some ⟨w.heap.size, 0, none⟩) xs.length xs.length) (w.alloc (.cells (xs.map fun x => Value.string (bs x)).toArray t)) := by
  refine ⟨w.heap.size, rfl, hB, by simp, fun i hi => ?_⟩
  simp [tv, hi]
/-- What stands in the slots of the region that draws. -/
def lbSF (B B0 q : Nat) (u6 v2 : Value) (L M : List (List UInt8)) : Nat → Value → World → Prop
  | 0 => fun v _ => v = u6
  | 1 => Nine B0 m2L
  | 2 => fun v _ => v = .int .i64 q
  | 3 => Ptr B0 q (m2L.getD q [])
  | 4 => fun v _ => v = .string (bs (m2L.getD q []))
  | 5 => fun v _ => v = .string (bs (eqL q))
  | 6 => Nine B0 m3L
  | 7 => fun v _ => v = .int .i64 q
  | 8 => Ptr B0 q (m3L.getD q [])
  | 9 => fun v _ => v = .string (bs (m3L.getD q []))
  | 10 => fun v _ => v = .string (bs (juL q))
  | 11 => Nine B0 [eqL q, juL q]
  | _ => fun v w => Pair2 B w v2 v L (M ++ [eqL q, juL q])
theorem lbSF_fr {B B0 q : Nat} {u6 v2 : Value} {L M : List (List UInt8)} {w w' : World} (f : Fr w w') : ∀ j v, lbSF B B0 q u6 v2 L M j v w → lbSF B B0 q u6 v2 L M j v w'
  | 0, v, h => h
  | 1, v, h => h.grown (fr_row f none) nofun
  | 2, v, h => h
  | 3, v, h => h.grown (fr_row f none) nofun
  | 4, v, h => h
  | 5, v, h => h
  | 6, v, h => h.grown (fr_row f none) nofun
  | 7, v, h => h
  | 8, v, h => h.grown (fr_row f none) nofun
  | 9, v, h => h
  | 10, v, h => h
  | 11, v, h => h.grown (fr_row f none) nofun
  | _ + 12, v, h => Pair2.fr h f
theorem lbSF_grown {B B0 q : Nat} {u6 v2 : Value} {L M : List (List UInt8)} {w w' : World} {row : Option Nat} (f : w.grownBy w' row) (hb : ∀ b, row = some b → b < B0) : ∀ j v, j < 12 → lbSF B B0 q u6 v2 L M j v w → lbSF B B0 q u6 v2 L M j v w'
  | 0, v, _, h => h
  | 1, v, _, h => h.grown f hb
  | 2, v, _, h => h
  | 3, v, _, h => h.grown f hb
  | 4, v, _, h => h
  | 5, v, _, h => h
  | 6, v, _, h => h.grown f hb
  | 7, v, _, h => h
  | 8, v, _, h => h.grown f hb
  | 9, v, _, h => h
  | 10, v, _, h => h
  | 11, v, _, h => h.grown f hb
  | n + 12, v, hn, h => absurd hn (by omega)
/-- What is known of the world meanwhile. -/
def lbW (w w2 : World) (l : Nat → Bool) (u : World) : Prop := (l 12 = false → Fr w2 u) ∧ Below w.heap.size w u ∧ w2.heap.size ≤ u.heap.size
theorem lbW.step {w w2 : World} {l : Nat → Bool} {u u' : World} {i : Nat} (h : lbW w w2 l u) (f : Fr u u') (hi : i ≠ 12) (hw : w.heap.size ≤ u.heap.size) : lbW w w2 (fun j => if j = i then true else l j) u' :=
  ⟨fun h12 => Fr.trans (h.1 (by simpa [Ne.symm hi] using h12)) f, Below.trans h.2.1 (f.mono hw), Nat.le_trans h.2.2 f.size⟩
theorem m2_len : ∀ q, q < 9 → (m2L.getD q []).length ≤ 3 ∧ (m3L.getD q []).length ≤ 3 := by decide
end Go.Proofs.YtecdmafhjfnloaaDoor
