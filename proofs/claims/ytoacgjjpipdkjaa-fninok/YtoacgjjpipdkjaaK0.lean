/- Caches, as plain data: what is ok, what is seen, read, written, laid. Lines in memory, four cells each; caches that are read, and caches that a call owns. -/
import Derived.Deep.RegionHeld3
import Derived.Test.YtoacgjjpipdkjaaGu0
import Derived.Test.YtoacgjjpipdkjaaN12
import Derived.Test.YtoacgjjpipdkjaaGu1
namespace Go.Proofs.Ytoacgjjpipdkjaa
open Go.RowKit
set_option linter.unusedVariables false
set_option linter.unusedSimpArgs false
/-- A line: is it used, from which place on, was it written, its words. -/
structure Ln where
  u : Bool
  p : Int
  d : Bool
  W : List Int
/-- A cache: its memory, its lines. -/
structure Ch where
  M : List Int
  L : List Ln
abbrev ln0 : Ln := ⟨false, 0, false, []⟩
abbrev ch0 : Ch := ⟨[], []⟩
/-- Are the words those of the memory from a place on? -/
def sameB (M W : List Int) (p : Nat) : Bool := (List.range 4).all fun j => decide (W.getD j 0 = M.getD (p + j) 0)
def okLn (M : List Int) (k : Int) (l : Ln) : Bool :=
  if l.u = true then decide (0 ≤ l.p ∧ l.p ≤ 252 ∧ l.p % 4 = 0 ∧ l.p / 4 % 4 = k) && (wordsB l.W 4 && (l.d || sameB M l.W l.p.toNat))
  else decide (l.p = 0) && (!l.d && decide (l.W.length = 0))
def okLns (M : List Int) (L : List Ln) : Bool := (List.range L.length).all fun i => okLn M (i : Int) (L.getD i ln0)
theorem okLns_at {M : List Int} {L : List Ln} (h : okLns M L = true) (i : Nat) (hi : i < L.length) : okLn M (i : Int) (L.getD i ln0) = true := List.all_eq_true.1 h i (by simpa using hi)
structure OkC (c : Ch) : Prop where
  M : c.M.all okB = true
  Ml : c.M.length = 256
  Ll : c.L.length = 4
  L : okLns c.M c.L = true
/-- A used line that is ok. -/
structure OkU (M : List Int) (k : Int) (l : Ln) : Prop where
  u : l.u = true
  p0 : 0 ≤ l.p
  p1 : l.p ≤ 252
  p4 : l.p % 4 = 0
  pk : l.p / 4 % 4 = k
  W : l.W.all okB = true
  Wl : l.W.length = 4
  s : l.d = true ∨ ∀ j, j < 4 → l.W.getD j 0 = M.getD (l.p.toNat + j) 0
theorem sameB_iff (M W : List Int) (p : Nat) : sameB M W p = true ↔ ∀ j, j < 4 → W.getD j 0 = M.getD (p + j) 0 := by
  simp only [sameB, List.all_eq_true, List.mem_range, decide_eq_true_eq]
theorem okLn_used {M : List Int} {k : Int} {l : Ln} (h : okLn M k l = true) (hu : l.u = true) : OkU M k l := by
  simp only [okLn, hu, if_true, wordsB, Bool.and_eq_true, Bool.or_eq_true, decide_eq_true_eq, sameB_iff] at h
  obtain ⟨⟨a, b, c, d⟩, ⟨e, f⟩, g⟩ := h
  exact ⟨hu, a, b, c, d, e, f, g⟩
theorem OkU.ok {M : List Int} {k : Int} {l : Ln} (h : OkU M k l) : okLn M k l = true := by
  simp only [okLn, h.u, if_true, wordsB, Bool.and_eq_true, Bool.or_eq_true, decide_eq_true_eq, sameB_iff]
  exact ⟨⟨h.p0, h.p1, h.p4, h.pk⟩, ⟨h.W, h.Wl⟩, h.s⟩
theorem okLn_free {M : List Int} {k : Int} {l : Ln} (h : okLn M k l = true) (hu : l.u = false) : l = ln0 := by
  obtain ⟨u, p, d, W⟩ := l
  simp only at hu
  subst hu
  simp [okLn] at h
  obtain ⟨a, b, c⟩ := h
  subst a b c
  rfl
theorem okLn_W {M : List Int} {k : Int} {l : Ln} (h : okLn M k l = true) : l.W.length ≤ 4 := by
  cases hu : l.u
  · rw [okLn_free h hu]; simp
  · exact Nat.le_of_eq (okLn_used h hu).Wl
/-- A line as it lies: its words' address and room beside it. -/
structure La where
  n : Ln
  a : Option Addr
  c : Nat
abbrev la0 : La := ⟨ln0, none, 0⟩
def lac (l : La) : List Value := [.bool l.n.u, .int .i64 l.n.p, .bool l.n.d, .slice l.a l.n.W.length l.c]
def clL (X : List La) : List Value := X.flatMap lac
theorem clL_len (X : List La) : (clL X).length = 4 * X.length := by
  induction X with
  | nil => rfl
  | cons x r ih => simp only [clL, List.flatMap_cons, List.length_append, List.length_cons] at *; rw [ih]; simp [lac]; omega
theorem clL_at : ∀ (X : List La) (i : Nat), i < X.length → (clL X)[4 * i]? = some (.bool (X.getD i la0).n.u) ∧ (clL X)[4 * i + 1]? = some (.int .i64 (X.getD i la0).n.p) ∧ (clL X)[4 * i + 2]? = some (.bool (X.getD i la0).n.d) ∧ (clL X)[4 * i + 3]? = some (.slice (X.getD i la0).a (X.getD i la0).n.W.length (X.getD i la0).c)
  | [], i, h => absurd h (by simp)
  | x :: r, 0, _ => by simp [clL, lac]
  | x :: r, i + 1, h => by
    have ih := clL_at r i (by simpa using h)
    have e : ∀ j, (clL (x :: r))[4 * (i + 1) + j]? = (clL r)[4 * i + j]? := fun j => by
      show (lac x ++ clL r)[4 * (i + 1) + j]? = _
      rw [List.getElem?_append_right (by simp [lac]; omega)]
      congr 1
      simp [lac]; omega
    have e0 := e 0
    simp only [Nat.add_zero] at e0
    rw [e0, e 1, e 2, e 3]
    simpa using ih
abbrev lns (X : List La) : List Ln := X.map La.n
theorem lns_get (X : List La) (i : Nat) : (lns X).getD i ln0 = (X.getD i la0).n := by
  simp only [lns, List.getD_eq_getElem?_getD, List.getElem?_map]
  cases X[i]? <;> rfl
theorem getD_setA {l : List La} {i j : Nat} {v : La} : (l.set i v).getD j la0 = if i = j ∧ j < l.length then v else l.getD j la0 := by
  simp only [List.getD_eq_getElem?_getD, List.getElem?_set]
  by_cases h : i = j
  · subst h
    by_cases h2 : i < l.length
    · simp [h2]
    · simp [h2]
  · simp [h]
/-- Words of line i, as they are read. -/
abbrev WSrc (u : World) (l : La) : Prop := Src u l.n.W.length (ivl l.n.W) l.a
/-- Lines are read at ao. -/
structure SrcL (u : World) (X : List La) (ao : Option Addr) : Prop where
  at0 : 0 < X.length → ∃ g o, ao = some ⟨g, o, none⟩ ∧ g < u.heap.size ∧ u.rangeAt g o (clL X)
  wd : ∀ i, i < X.length → WSrc u (X.getD i la0)
theorem SrcL.fr {u u' : World} {X : List La} {ao : Option Addr} (h : SrcL u X ao) (f : Fr u u') : SrcL u' X ao :=
  ⟨fun h0 => by
    obtain ⟨g, o, e, hl, hc⟩ := h.at0 h0
    exact ⟨g, o, e, Nat.lt_of_lt_of_le hl f.size, range_fr hc f hl⟩, fun i hi => (h.wd i hi).fr f⟩
/-- A cache, as it is read somewhere. -/
structure SrcC (u : World) (M : List Int) (X : List La) (aM aL : Option Addr) : Prop where
  M : Src u M.length (ivl M) aM
  L : SrcL u X aL
theorem SrcC.fr {u u' : World} {M : List Int} {X : List La} {aM aL : Option Addr} (h : SrcC u M X aM aL) (f : Fr u u') : SrcC u' M X aM aL := ⟨h.M.fr f, h.L.fr f⟩
/-- How many numbers a cache has, at most. -/
structure FewC (M : List Int) (X : List La) : Prop where
  M : M.length ≤ 1048576
  L : X.length ≤ 1048576
  W : ∀ i, i < X.length → (X.getD i la0).n.W.length ≤ 1048576
/-- Lines lie in block g, and may be written. -/
structure RoL (u : World) (g : Nat) (X : List La) : Prop where
  lt : g < u.heap.size
  rng : u.rangeAt g 0 (clL X)
  thr : u.there g 0 (4 * X.length)
theorem RoL.but {L : List Nat} {u u' : World} {g : Nat} {X : List La} (h : RoL u g X) (f : But L u u') (hn : g ∉ L) : RoL u' g X :=
  ⟨Nat.lt_of_lt_of_le h.lt f.size, range_but h.rng f h.lt hn, there_but h.thr f h.lt hn⟩
theorem RoL.fr {u u' : World} {g : Nat} {X : List La} (h : RoL u g X) (f : Fr u u') : RoL u' g X := h.but (L := []) (But.of f) (by simp)
theorem RoL.setL {u : World} {g : Nat} {X : List La} (h : RoL u g X) (k : Nat) (y : La) (hk : k < X.length) : RoL (u.setCells g (k * 4) (lac y)) g (X.set k y) := by
  have hb : But [g] u (u.setCells g (k * 4) (lac y)) := But.setCells g (.inl (by simp)) _ _ _ (But.refl _ _)
  refine ⟨Nat.lt_of_lt_of_le h.lt hb.size, fun j v hv => ?_, by rw [List.length_set]; exact World.there_setCells h.thr _ _ _⟩
  have hj : j < 4 * X.length := by
    have := (List.getElem?_eq_some_iff.1 hv).1
    rw [clL_len, List.length_set] at this
    exact this
  obtain ⟨i, r, rfl, hr⟩ : ∃ i r, j = 4 * i + r ∧ r < 4 := ⟨j / 4, j % 4, by omega, by omega⟩
  have hi : i < X.length := by omega
  have hc := clL_at (X.set k y) i (by rw [List.length_set]; exact hi)
  rw [getD_setA] at hc
  rw [Nat.zero_add]
  by_cases e : k = i
  · subst e
    rw [if_pos ⟨rfl, hi⟩] at hc
    have hin := World.cell?_setCells_in g (lac y) (k * 4) u (fun j hj => by
      have hj4 : j < 4 := hj
      have := (h.thr (k * 4 + j) (by omega)).1
      rwa [Nat.zero_add] at this) r hr
    rw [show 4 * k + r = k * 4 + r by omega, hin]
    rcases r with _ | _ | _ | _ | r
    · rw [Nat.add_zero, hc.1] at hv; exact hv
    · rw [hc.2.1] at hv; exact hv
    · rw [hc.2.2.1] at hv; exact hv
    · rw [hc.2.2.2] at hv; exact hv
    · omega
  · rw [if_neg (fun h => e h.1)] at hc
    rw [World.cell?_setCells_out g (lac y) (k * 4) u ⟨g, 4 * i + r, none⟩ (fun _ _ => by
      show 4 * i + r < k * 4 ∨ k * 4 + 4 ≤ 4 * i + r
      omega)]
    have hS := clL_at X i hi
    have := h.rng (4 * i + r) v (by
      rcases r with _ | _ | _ | _ | r
      · rw [Nat.add_zero, hS.1]; rw [Nat.add_zero, hc.1] at hv; exact hv
      · rw [hS.2.1]; rw [hc.2.1] at hv; exact hv
      · rw [hS.2.2.1]; rw [hc.2.2.1] at hv; exact hv
      · rw [hS.2.2.2]; rw [hc.2.2.2] at hv; exact hv
      · omega)
    rwa [Nat.zero_add] at this
section
variable {Q : Exit → Act → World → Prop}
end
/-- Blocks of a line's words. -/
abbrev wbk (l : La) : List Nat := bkS l.n.W.length l.a
/-- Lines' words that a call owns, apart from each other. -/
structure WdO (B : Nat) (u : World) (X : List La) : Prop where
  wd : ∀ i, i < X.length → Vc B u (X.getD i la0).n.W.length (ivl (X.getD i la0).n.W) (X.getD i la0).a
  ap : ∀ i j, i < X.length → j < X.length → i ≠ j → ∀ k, k ∈ wbk (X.getD i la0) → k ∉ wbk (X.getD j la0)
theorem WdO.but {B : Nat} {L : List Nat} {u u' : World} {X : List La} (h : WdO B u X) (f : But L u u') (hn : ∀ i, i < X.length → ∀ k, k ∈ wbk (X.getD i la0) → k ∉ L) : WdO B u' X :=
  ⟨fun i hi => (h.wd i hi).but' f (hn i hi), h.ap⟩
theorem WdO.fr {B : Nat} {u u' : World} {X : List La} (h : WdO B u X) (f : Fr u u') : WdO B u' X := ⟨fun i hi => (h.wd i hi).fr f, h.ap⟩
theorem WdO.mono {B B' : Nat} {u : World} {X : List La} (h : WdO B u X) (hB : B' ≤ B) : WdO B' u X := ⟨fun i hi => (h.wd i hi).mono hB, h.ap⟩
theorem Vc.bk {B : Nat} {u : World} {n : Nat} {c : Nat → Value} {ao : Option Addr} (h : Vc B u n c ao) : ∀ k, k ∈ bkS n ao → B ≤ k ∧ k < u.heap.size := fun k hk => by
  obtain ⟨h0, b, rfl, rfl⟩ := mem_bkS hk
  obtain ⟨g, e, hB, hl, _⟩ := h.at0 h0
  cases e
  exact ⟨hB, hl⟩
theorem WdO.bk {B : Nat} {u : World} {X : List La} (h : WdO B u X) (i : Nat) (hi : i < X.length) : ∀ k, k ∈ wbk (X.getD i la0) → B ≤ k ∧ k < u.heap.size := (h.wd i hi).bk
/-- Lines that a call owns: in block g, their words apart from it and from each other. -/
structure OwL (B : Nat) (u : World) (g : Nat) (X : List La) : Prop where
  b : B ≤ g
  r : RoL u g X
  w : WdO B u X
  ap : ∀ i, i < X.length → g ∉ wbk (X.getD i la0)
theorem OwL.src {B : Nat} {u : World} {g : Nat} {X : List La} (h : OwL B u g X) : SrcL u X (some ⟨g, 0, none⟩) :=
  ⟨fun _ => ⟨g, 0, rfl, h.r.lt, h.r.rng⟩, fun i hi => (h.w.wd i hi).src⟩
theorem OwL.fr {B : Nat} {u u' : World} {g : Nat} {X : List La} (h : OwL B u g X) (f : Fr u u') : OwL B u' g X := ⟨h.b, h.r.fr f, h.w.fr f, h.ap⟩
theorem OwL.but {B : Nat} {L : List Nat} {u u' : World} {g : Nat} {X : List La} (h : OwL B u g X) (f : But L u u') (h0 : g ∉ L) (hn : ∀ i, i < X.length → ∀ k, k ∈ wbk (X.getD i la0) → k ∉ L) : OwL B u' g X :=
  ⟨h.b, h.r.but f h0, h.w.but f hn, h.ap⟩
theorem OwL.mono {B B' : Nat} {u : World} {g : Nat} {X : List La} (h : OwL B u g X) (hB : B' ≤ B) : OwL B' u g X := ⟨by have := h.b; omega, h.r, h.w.mono hB, h.ap⟩
/-- A line of them is stored anew: its words are apart from all others. -/
theorem OwL.setL {B : Nat} {u : World} {g : Nat} {X : List La} (h : OwL B u g X) (k : Nat) (y : La) (hk : k < X.length) (hy : Vc B u y.n.W.length (ivl y.n.W) y.a) (hg : g ∉ wbk y) (hap : ∀ i, i < X.length → i ≠ k → ∀ m, m ∈ wbk y → m ∉ wbk (X.getD i la0)) : OwL B (u.setCells g (k * 4) (lac y)) g (X.set k y) := by
  have hb : But [g] u (u.setCells g (k * 4) (lac y)) := But.setCells g (.inl (by simp)) _ _ _ (But.refl _ _)
  refine ⟨h.b, h.r.setL k y hk, ⟨fun i hi => ?_, fun i j hi hj hij m h1 h2 => ?_⟩, fun i hi => ?_⟩
  · rw [List.length_set] at hi
    rw [getD_setA]
    split
    · exact hy.but' hb (fun m hm hx => by rw [List.mem_singleton.1 hx] at hm; exact hg hm)
    · exact (h.w.wd i hi).but' hb (fun m hm hx => by rw [List.mem_singleton.1 hx] at hm; exact h.ap i hi hm)
  · rw [List.length_set] at hi hj
    rw [getD_setA] at h1 h2
    split at h1
    · rename_i e
      rw [if_neg (fun e' => hij (e.1.symm.trans e'.1))] at h2
      exact hap j hj (fun e' => hij (e.1.symm.trans e'.symm)) m h1 h2
    · split at h2
      · rename_i e
        exact hap i hi (fun e' => hij (e'.trans e.1)) m h2 h1
      · exact h.w.ap i j hi hj hij m h1 h2
  · rw [List.length_set] at hi
    rw [getD_setA]
    split
    · exact hg
    · exact h.ap i hi
/-- A cache that a call owns. -/
structure OwK (B : Nat) (u : World) (M : List Int) (X : List La) (gM gL : Nat) : Prop where
  b : B ≤ gM
  M : Ro u gM M
  L : OwL B u gL X
  ap : gM ≠ gL
  aw : ∀ i, i < X.length → gM ∉ wbk (X.getD i la0)
theorem OwK.src {B : Nat} {u : World} {M : List Int} {X : List La} {gM gL : Nat} (h : OwK B u M X gM gL) : SrcC u M X (some ⟨gM, 0, none⟩) (some ⟨gL, 0, none⟩) := ⟨h.M.src, h.L.src⟩
theorem OwK.fr {B : Nat} {u u' : World} {M : List Int} {X : List La} {gM gL : Nat} (h : OwK B u M X gM gL) (f : Fr u u') : OwK B u' M X gM gL := ⟨h.b, h.M.fr f, h.L.fr f, h.ap, h.aw⟩
theorem OwK.mono {B B' : Nat} {u : World} {M : List Int} {X : List La} {gM gL : Nat} (h : OwK B u M X gM gL) (hB : B' ≤ B) : OwK B' u M X gM gL := ⟨by have := h.b; omega, h.M, h.L.mono hB, h.ap, h.aw⟩
theorem OwK.but {B : Nat} {L : List Nat} {u u' : World} {M : List Int} {X : List La} {gM gL : Nat} (h : OwK B u M X gM gL) (f : But L u u') (hL : ∀ k, k ∈ L → k < B ∨ u.heap.size ≤ k) : OwK B u' M X gM gL := by
  have hl := h.L.b
  have hb := h.b
  have h1 := h.M.lt
  have h2 := h.L.r.lt
  refine ⟨h.b, h.M.but f (fun hm => by have := hL _ hm; omega), h.L.but f (fun hm => by have := hL _ hm; omega) (fun i hi k hk hm => ?_), h.ap, h.aw⟩
  have := hL _ hm
  have := h.L.w.bk i hi k hk
  omega
theorem OwK.setL {B : Nat} {u : World} {M : List Int} {X : List La} {gM gL : Nat} (h : OwK B u M X gM gL) (k : Nat) (y : La) (hk : k < X.length) (hy : Vc B u y.n.W.length (ivl y.n.W) y.a) (hg : gL ∉ wbk y) (hm : gM ∉ wbk y) (hap : ∀ i, i < X.length → i ≠ k → ∀ m, m ∈ wbk y → m ∉ wbk (X.getD i la0)) : OwK B (u.setCells gL (k * 4) (lac y)) M (X.set k y) gM gL := by
  have hb : But [gL] u (u.setCells gL (k * 4) (lac y)) := But.setCells gL (.inl (by simp)) _ _ _ (But.refl _ _)
  refine ⟨h.b, h.M.but hb (by have := h.ap; simp; omega), h.L.setL k y hk hy hg hap, h.ap, fun i hi => ?_⟩
  rw [List.length_set] at hi
  rw [getD_setA]
  split
  · exact hm
  · exact h.aw i hi

end Go.Proofs.Ytoacgjjpipdkjaa
