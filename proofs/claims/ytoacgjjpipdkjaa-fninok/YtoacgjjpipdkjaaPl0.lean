/- The plain machine, as a plain function of numbers: what is ok, what is seen, what a step does. Rows of numbers in memory; machines in memory; what is ok, of the program and of the model. The program's PlnOk. New rows: copies of rows and machines, of the program and of the model. A machine, copied: of the program and of the model. -/
import Derived.Deep.QuietTactic
import Derived.BigQuiet
import Derived.OwnWalk
import Derived.Deep.AppendSrc
import Derived.Laws.CopyOwn
import Derived.Test.YtoacgjjpipdkjaaCodSd
import Derived.Test.YtoacgjjpipdkjaaWords
import Derived.Test.YtoacgjjpipdkjaaRegion
import Derived.Test.YtoacgjjpipdkjaaVec
namespace Go.Proofs.Ytoacgjjpipdkjaa
open Go.RowKit
set_option linter.unusedVariables false
set_option linter.unusedSimpArgs false

/-- A machine: where it is, its registers, what it has of its own, its memory. -/
structure St where
  pc : Int
  R : List Int
  C : List Int
  M : List Int
/-- What was done. -/
structure Ev where
  pc : Int
  w : Int
  why : Int
  d : Int
  v : Int
  ad : Int
  dt : Int
def wordsB (l : List Int) (n : Nat) : Bool := l.all okB && decide (l.length = n)
theorem getD_set {l : List Int} {i j : Nat} {v : Int} : (l.set i v).getD j 0 = if i = j ∧ j < l.length then v else l.getD j 0 := by
  simp only [List.getD_eq_getElem?_getD, List.getElem?_set]
  by_cases h : i = j
  · subst h
    by_cases h2 : i < l.length
    · simp [h2]
    · simp [h2]
  · simp [h]
/-- The place that a word of a table of pages tells. -/
def frame (x addr : Int) (save : Bool) : Int := if x / 16 % 2 = 0 ∨ (save = true ∧ x / 32 % 2 = 0) then -1 else x % 16 * 16 + addr % 16
/-- What an instruction does: it stops, or the machine goes on. -/
inductive Out where
  | stop (why : Int)
  | go (s : St) (e : Ev)
def putR (R : List Int) (d v : Int) : List Int := if d = 0 then R else R.set d.toNat v
def putE (e : Ev) (d v : Int) : Ev := if d = 0 then e else { e with d := d, v := v }
/-- A word goes into a register, and the machine is elsewhere. -/
def put (s : St) (e : Ev) (d v pc : Int) : Out := .go ⟨pc, putR s.R d v, s.C, s.M⟩ (putE e d v)
/-- Numbers lie in block g, and may be written. -/
structure Ro (u : World) (g : Nat) (xs : List Int) : Prop where
  lt : g < u.heap.size
  cel : ∀ i, i < xs.length → u.cell? ⟨g, i, none⟩ = some (.int .i64 (xs.getD i 0))
  fro : ∀ i, i < xs.length → u.frozen? ⟨g, i, none⟩ = false
theorem Ro.but {L : List Nat} {u u' : World} {g : Nat} {xs : List Int} (h : Ro u g xs) (f : But L u u') (hn : g ∉ L) : Ro u' g xs :=
  ⟨Nat.lt_of_lt_of_le h.lt f.size, fun i hi => by rw [f.cell h.lt hn]; exact h.cel i hi, fun i hi => by rw [f.frozen h.lt hn]; exact h.fro i hi⟩
theorem Ro.fr {u u' : World} {g : Nat} {xs : List Int} (h : Ro u g xs) (f : Fr u u') : Ro u' g xs := h.but (L := []) (But.of f) (by simp)
theorem Ro.other {u : World} {g : Nat} {xs : List Int} (h : Ro u g xs) (Z j : Nat) (v : Value) (hz : ¬ Z = g) : Ro (u.setCell ⟨Z, j, none⟩ v) g xs :=
  h.but (L := [Z]) ((But.refl _ _).set Z j v (.inl (by simp))) (by simp; try omega)
theorem Ro.set {u : World} {g : Nat} {xs : List Int} (h : Ro u g xs) (i : Nat) (v : Int) (hi : i < xs.length) : Ro (u.setCell ⟨g, i, none⟩ (.int .i64 v)) g (xs.set i v) := by
  refine ⟨by have := h.lt; simpa [World.setCell] using this, fun j hj => ?_, fun j hj => by rw [World.frozen?_setCell]; exact h.fro j (by simpa using hj)⟩
  rw [List.length_set] at hj
  rw [getD_set]
  by_cases e : i = j
  · subst e
    rw [World.cell?_setCell_same _ _ _ (h.cel i hi), if_pos ⟨rfl, hi⟩]
  · rw [World.cell?_setCell_other _ _ _ _ (by simp; try omega), if_neg (fun h => e h.1)]
    exact h.cel j hj
theorem Ro.alloc {u : World} {g : Nat} {xs : List Int} (h : Ro u g xs) (o : Obj) : Ro (u.alloc o) g xs := h.fr (Fr.alloc _ _)
theorem Ro.drew {u : World} {g : Nat} {xs : List Int} (h : Ro u g xs) : Ro u.drew g xs := ⟨h.lt, h.cel, h.fro⟩
/-- A machine's rows, three blocks apart. -/
structure Own (u : World) (gr gc gm : Nat) (s : St) : Prop where
  R : Ro u gr s.R
  C : Ro u gc s.C
  M : Ro u gm s.M
  rc : gr ≠ gc
  rm : gr ≠ gm
  cm : gc ≠ gm
theorem Own.but {L : List Nat} {u u' : World} {gr gc gm : Nat} {s : St} (h : Own u gr gc gm s) (f : But L u u') (h1 : gr ∉ L) (h2 : gc ∉ L) (h3 : gm ∉ L) : Own u' gr gc gm s :=
  ⟨h.R.but f h1, h.C.but f h2, h.M.but f h3, h.rc, h.rm, h.cm⟩
theorem Own.fr {u u' : World} {gr gc gm : Nat} {s : St} (h : Own u gr gc gm s) (f : Fr u u') : Own u' gr gc gm s := h.but (L := []) (But.of f) (by simp) (by simp) (by simp)
theorem Own.other {u : World} {gr gc gm : Nat} {s : St} (h : Own u gr gc gm s) (Z j : Nat) (v : Value) (h1 : ¬ Z = gr) (h2 : ¬ Z = gc) (h3 : ¬ Z = gm) : Own (u.setCell ⟨Z, j, none⟩ v) gr gc gm s :=
  ⟨h.R.other Z j v h1, h.C.other Z j v h2, h.M.other Z j v h3, h.rc, h.rm, h.cm⟩
theorem Own.alloc {u : World} {gr gc gm : Nat} {s : St} (h : Own u gr gc gm s) (o : Obj) : Own (u.alloc o) gr gc gm s := h.fr (Fr.alloc _ _)
theorem Own.drew {u : World} {gr gc gm : Nat} {s : St} (h : Own u gr gc gm s) : Own u.drew gr gc gm s := h.but (L := []) (But.refl _ _).drew (by simp) (by simp) (by simp)
theorem Own.pc {u : World} {gr gc gm : Nat} {s : St} (h : Own u gr gc gm s) (pc : Int) : Own u gr gc gm { s with pc := pc } := ⟨h.R, h.C, h.M, h.rc, h.rm, h.cm⟩
/-- A list as the values of a row. -/
abbrev ivl (l : List Int) : Nat → Value := fun i => .int .i64 (l.getD i 0)
/-- A machine, as it is read somewhere. -/
structure SrcS (u : World) (s : St) (aR aC aM : Option Addr) : Prop where
  R : Src u s.R.length (ivl s.R) aR
  C : Src u s.C.length (ivl s.C) aC
  M : Src u s.M.length (ivl s.M) aM
theorem SrcS.fr {u u' : World} {s : St} {aR aC aM : Option Addr} (h : SrcS u s aR aC aM) (f : Fr u u') : SrcS u' s aR aC aM := ⟨h.R.fr f, h.C.fr f, h.M.fr f⟩
theorem Ro.src {u : World} {g : Nat} {xs : List Int} (h : Ro u g xs) : Src u xs.length (ivl xs) (some ⟨g, 0, none⟩) := fun _ => ⟨g, 0, rfl, h.lt, fun i hi => by rw [Nat.zero_add]; exact h.cel i hi⟩
theorem Own.src {u : World} {gr gc gm : Nat} {s : St} (h : Own u gr gc gm s) : SrcS u s (some ⟨gr, 0, none⟩) (some ⟨gc, 0, none⟩) (some ⟨gm, 0, none⟩) := ⟨h.R.src, h.C.src, h.M.src⟩
/-- How many numbers a machine has, at most. -/
structure Few (s : St) : Prop where
  R : s.R.length ≤ 100000000
  C : s.C.length ≤ 100000000
  M : s.M.length ≤ 100000000
section
variable {P : Program} {Q : Exit → Act → World → Prop}
end
theorem ro_new (w : World) (xs : List Int) (zs : Array Value) (e : TypeId) : Ro (w.alloc (.cells ((xs.map (Value.int .i64)).toArray ++ zs) e)) w.heap.size xs := by
  refine ⟨by simp, fun i hi => ?_, fun i hi => (alloc_at w _ e _ rfl i).2⟩
  rw [(alloc_at w _ e _ rfl i).1, Array.getElem?_append_left (by simpa using hi)]
  simp [hi]
/-- A row of numbers has just as much room as its slice says. -/
def Ca (u : World) (g n c : Nat) : Prop := ∃ cur, u.heap[g]? = some (.cells cur 3 (0, 0)) ∧ cur.size = c ∧ n ≤ c ∧ c ≤ maxLen
theorem Ca.but {L : List Nat} {u u' : World} {g n c : Nat} (h : Ca u g n c) (f : But L u u') (hn : g ∉ L) : Ca u' g n c := by
  obtain ⟨cur, h1, h2⟩ := h
  have hg : g < u.heap.size := by
    by_cases hh : g < u.heap.size
    · exact hh
    · rw [Array.getElem?_eq_none (by omega)] at h1; cases h1
  exact ⟨cur, by rw [f.block g hg hn]; exact h1, h2⟩
theorem Ca.set {u : World} {g n c : Nat} (h : Ca u g n c) (Z j : Nat) (v : Value) : Ca (u.setCell ⟨Z, j, none⟩ v) g n c := by
  obtain ⟨cur, h1, h2, h3⟩ := h
  by_cases e : Z = g
  · subst e
    refine ⟨cur.setIfInBounds j v, ?_, by simpa using h2, h3⟩
    simp [World.setCell, Array.getElem?_modify, h1]
  · exact ⟨cur, by rw [Below.heap_setCell _ _ _ _ (by show g ≠ Z; omega)]; exact h1, h2, h3⟩
/-- A new row. -/
def Nrow (B : Nat) (xs : List Int) (v : Value) (u : World) : Prop := ∃ g c, v = .slice (some ⟨g, 0, none⟩) xs.length c ∧ B ≤ g ∧ Ro u g xs
theorem Nrow.but {B : Nat} {xs : List Int} {v : Value} {u u' : World} {L : List Nat} (h : Nrow B xs v u) (f : But L u u') (hL : ∀ k, k ∈ L → k < B) : Nrow B xs v u' := by
  obtain ⟨g, c, e, hB, r⟩ := h
  exact ⟨g, c, e, hB, r.but f (fun hm => by have := hL g hm; omega)⟩
/-- Four cells of a block that may be written. -/
structure Box4 (u : World) (g : Nat) (a b c d : Value) : Prop where
  lt : g < u.heap.size
  c0 : u.cell? ⟨g, 0, none⟩ = some a
  c1 : u.cell? ⟨g, 1, none⟩ = some b
  c2 : u.cell? ⟨g, 2, none⟩ = some c
  c3 : u.cell? ⟨g, 3, none⟩ = some d
  f0 : u.frozen? ⟨g, 0, none⟩ = false
  f1 : u.frozen? ⟨g, 1, none⟩ = false
  f2 : u.frozen? ⟨g, 2, none⟩ = false
  f3 : u.frozen? ⟨g, 3, none⟩ = false
theorem Box4.but {L : List Nat} {u u' : World} {g : Nat} {a b c d : Value} (h : Box4 u g a b c d) (f : But L u u') (hn : g ∉ L) : Box4 u' g a b c d :=
  ⟨Nat.lt_of_lt_of_le h.lt f.size, by rw [f.cell h.lt hn]; exact h.c0, by rw [f.cell h.lt hn]; exact h.c1, by rw [f.cell h.lt hn]; exact h.c2, by rw [f.cell h.lt hn]; exact h.c3, by rw [f.frozen h.lt hn]; exact h.f0, by rw [f.frozen h.lt hn]; exact h.f1, by rw [f.frozen h.lt hn]; exact h.f2, by rw [f.frozen h.lt hn]; exact h.f3⟩
theorem Box4.fr {u u' : World} {g : Nat} {a b c d : Value} (h : Box4 u g a b c d) (f : Fr u u') : Box4 u' g a b c d := h.but (L := []) (But.of f) (by simp)
theorem Box4.below {B : Nat} {u u' : World} {g : Nat} {a b c d : Value} (h : Box4 u g a b c d) (f : Below B u u') (hn : g < B) : Box4 u' g a b c d :=
  ⟨Nat.lt_of_lt_of_le h.lt f.size, by rw [f.cell (show g < B from hn)]; exact h.c0, by rw [f.cell (show g < B from hn)]; exact h.c1, by rw [f.cell (show g < B from hn)]; exact h.c2, by rw [f.cell (show g < B from hn)]; exact h.c3, by rw [f.frozen (show g < B from hn)]; exact h.f0, by rw [f.frozen (show g < B from hn)]; exact h.f1, by rw [f.frozen (show g < B from hn)]; exact h.f2, by rw [f.frozen (show g < B from hn)]; exact h.f3⟩
theorem Box4.new (w : World) (a b c d : Value) (t : TypeId) (n : Nat) (hn : w.heap.size = n) : Box4 (w.alloc (.cells #[a, b, c, d] t)) n a b c d := by
  subst hn
  exact ⟨by simp, (alloc_at w _ t _ rfl 0).1, (alloc_at w _ t _ rfl 1).1, (alloc_at w _ t _ rfl 2).1, (alloc_at w _ t _ rfl 3).1, (alloc_at w _ t _ rfl 0).2, (alloc_at w _ t _ rfl 1).2, (alloc_at w _ t _ rfl 2).2, (alloc_at w _ t _ rfl 3).2⟩
/-- Four stores into a block. -/
theorem Box4.set {u : World} {g : Nat} {a b c d : Value} (h : Box4 u g a b c d) (a' b' c' d' : Value) : Box4 ((((u.setCell ⟨g, 0, none⟩ a').setCell ⟨g, 1, none⟩ b').setCell ⟨g, 2, none⟩ c').setCell ⟨g, 3, none⟩ d') g a' b' c' d' := by
  have c0 := h.c0
  have c1 := h.c1
  have c2 := h.c2
  have c3 := h.c3
  have f0 := h.f0
  have f1 := h.f1
  have f2 := h.f2
  have f3 := h.f3
  have hl := h.lt
  refine ⟨by simpa [World.setCell] using hl, ?_, ?_, ?_, ?_, ?_, ?_, ?_, ?_⟩
  all_goals simp [World.frozen?_setCell, World.cell?_setCell_other, World.cell?_setCell_same, c0, c1, c2, c3, f0, f1, f2, f3]
def NrowC (B : Nat) (xs : List Int) (v : Value) (u : World) : Prop := ∃ g c, v = .slice (some ⟨g, 0, none⟩) xs.length c ∧ B ≤ g ∧ Ro u g xs ∧ Ca u g xs.length c
theorem NrowC.but {B : Nat} {xs : List Int} {v : Value} {u u' : World} {L : List Nat} (h : NrowC B xs v u) (f : But L u u') (hL : ∀ k, k ∈ L → k < B) : NrowC B xs v u' := by
  obtain ⟨g, c, e, hB, r, k⟩ := h
  exact ⟨g, c, e, hB, r.but f (fun hm => by have := hL g hm; omega), k.but f (fun hm => by have := hL g hm; omega)⟩
end Go.Proofs.Ytoacgjjpipdkjaa
