/- Chapter 3: the scanner of a line: what it holds; fail, field, end. -/
import Derived.Test.YtecdmafhjfnloaaDoorTx1
import Derived.Test.YtecdmafhjfnloaaDoorTxtSoft
import Derived.Lib.AtoiAll
namespace Go.Proofs.YtecdmafhjfnloaaDoor
open Go.RowKit
set_option linter.unusedVariables false

/-- The errors' variables hold errors; the library's, too. -/
structure Tabs3 (w : World) : Prop where
  base : Tabs2 w
  e0 : ∃ t p, w.cell? ⟨3, 0, none⟩ = some (.iface t p)
  e1 : ∃ t p, w.cell? ⟨5, 0, none⟩ = some (.iface t p)
  e2 : ∃ t p, w.cell? ⟨8, 0, none⟩ = some (.iface t p)
  e3 : ∃ t p, w.cell? ⟨6, 0, none⟩ = some (.iface t p)
  e4 : ∃ t p, w.cell? ⟨7, 0, none⟩ = some (.iface t p)
  e5 : ∃ t p, w.cell? ⟨9, 0, none⟩ = some (.iface t p)
  e6 : ∃ t p, w.cell? ⟨4, 0, none⟩ = some (.iface t p)
  e7 : ∃ t p, w.cell? ⟨16, 0, none⟩ = some (.iface t p)
  e8 : ∃ t p, w.cell? ⟨17, 0, none⟩ = some (.iface t p)
  mx : ∃ m, w.cell? ⟨11, 0, none⟩ = some (.int .i64 m)
/-- Nothing turned but block p. -/
abbrev Ap (p : Nat) (u u' : World) : Prop := u.grownBy u' (some p)
theorem Ap.refl (p : Nat) (u : World) : Ap p u u := ⟨rfl, rfl, rfl, Nat.le_refl _, fun _ _ _ => rfl⟩
theorem Ap.trans {p : Nat} {a b c : World} (h : Ap p a b) (k : Ap p b c) : Ap p a c :=
  ⟨k.os.trans h.os, k.tape.trans h.tape, k.output.trans h.output, Nat.le_trans h.size k.size, fun i hi hn => (k.block i (Nat.lt_of_lt_of_le hi h.size) hn).trans (h.block i hi hn)⟩
theorem Ap.of {p : Nat} {a b : World} (h : Fr a b) : Ap p a b := ⟨h.os, h.tape, h.output, h.size, fun i hi _ => h.block i hi⟩
theorem Ap.set (p j : Nat) (u : World) (v : Value) : Ap p u (u.setCell ⟨p, j, none⟩ v) :=
  ⟨rfl, rfl, rfl, by simp [World.setCell], fun i hi hn => Below.heap_setCell _ _ _ _ (fun e => hn (by rw [e]))⟩
theorem Ap.cell {p : Nat} {u u' : World} (h : Ap p u u') {g i : Nat} (hg : g < u.heap.size) (hn : g ≠ p) : u'.cell? ⟨g, i, none⟩ = u.cell? ⟨g, i, none⟩ := World.cell?_of_block (w := u) (h.block g hg (fun e => hn (by injection e)))
theorem Ap.frozen {p : Nat} {u u' : World} (h : Ap p u u') {g i : Nat} (hg : g < u.heap.size) (hn : g ≠ p) : u'.frozen? ⟨g, i, none⟩ = u.frozen? ⟨g, i, none⟩ := World.frozen?_of_block (w := u) (h.block g hg (fun e => hn (by injection e)))
theorem Ap.setNew {p : Nat} {u x : World} (h : Ap p u x) {Z j : Nat} (hZ : u.heap.size ≤ Z) (v : Value) : Ap p u (x.setCell ⟨Z, j, none⟩ v) :=
  ⟨h.os, h.tape, h.output, Nat.le_trans h.size (by simp [World.setCell]), fun i hi hn => (Below.heap_setCell _ _ _ _ (by show i ≠ Z; omega)).trans (h.block i hi hn)⟩
theorem Ap.fr {p : Nat} {w u u' : World} (h : Fr w u) (k : Ap p u u') (hp : w.heap.size ≤ p) : Fr w u' :=
  ⟨k.os.trans h.os, k.tape.trans h.tape, k.output.trans h.output, Nat.le_trans h.size k.size, fun i hi => (k.block i (Nat.lt_of_lt_of_le hi h.size) (fun e => by injection e; omega)).trans (h.block i hi)⟩
/-- The first blocks are as they were. -/
def Low18 (u u' : World) : Prop := ∀ k, k < 18 → k < u.heap.size → u'.heap[k]? = u.heap[k]?
theorem Low18.cell {u u' : World} (f : Low18 u u') {g i : Nat} (hg : g < 18) (hl : g < u.heap.size) : u'.cell? ⟨g, i, none⟩ = u.cell? ⟨g, i, none⟩ := World.cell?_of_block (w := u) (f g hg hl)
theorem tabIs_low {P : Program} {w w' : World} {name : String} {k : IntKind} {zs : List Int} {g0 : Nat} (hg0 : P.globalNamed name = some g0) (hne : g0 < 18) (h : Lib.TabIs P w name k zs) (f : Low18 w w') : Lib.TabIs P w' name k zs := by
  unfold Lib.TabIs World.var? at *
  simp only [hg0, Option.bind_some] at h ⊢
  have hlt : g0 < w.heap.size := by
    rcases Nat.lt_or_ge g0 w.heap.size with h' | h'
    · exact h'
    · rw [Array.getElem?_eq_none h'] at h; simp at h
  rw [f g0 hne hlt]
  exact h
theorem gPow : Tryd.prog.globalNamed "internal/strconv.uint64pow10" = some 10 := by kernel_rfl
theorem keep_err {g : Nat} {u u' : World} (hg : g < 18) (f : Low18 u u') (h : ∃ t q, u.cell? ⟨g, 0, none⟩ = some (.iface t q)) : ∃ t q, u'.cell? ⟨g, 0, none⟩ = some (.iface t q) := by
  obtain ⟨t, q, h⟩ := h
  exact ⟨t, q, by rw [f.cell hg (lt_of_cell h)]; exact h⟩
theorem Tabs3.low {u u' : World} (h : Tabs3 u) (f : Low18 u u') : Tabs3 u' := by
  obtain ⟨⟨b1, b2, b3⟩, h0, h1, h2, h3, h4, h5, h6, h7, h8, h9⟩ := h
  refine ⟨⟨⟨fun i hi => ?_, fun i hi => ?_⟩, fun i hi => ?_, tabIs_low gPow (by omega) b3 f⟩, keep_err (by omega) f h0, keep_err (by omega) f h1, keep_err (by omega) f h2, keep_err (by omega) f h3, keep_err (by omega) f h4, keep_err (by omega) f h5, keep_err (by omega) f h6, keep_err (by omega) f h7, keep_err (by omega) f h8, ?_⟩
  · rw [f.cell (g := 0) (by omega) (lt_of_cell (b1.enc i hi))]; exact b1.enc i hi
  · rw [f.cell (g := 1) (by omega) (lt_of_cell (b1.lay i hi))]; exact b1.lay i hi
  · rw [f.cell (g := 2) (by omega) (lt_of_cell (b2 0 (by decide)))]; exact b2 i hi
  · obtain ⟨m, hm⟩ := h9
    exact ⟨m, by rw [f.cell (g := 11) (by omega) (lt_of_cell hm)]; exact hm⟩
theorem Tabs3.ap {p : Nat} {u u' : World} (h : Tabs3 u) (f : Ap p u u') (hp : 18 ≤ p) : Tabs3 u' := h.low fun k hk hl => f.block k hl (fun e => by injection e; omega)
theorem Tabs3.fr {u u' : World} (h : Tabs3 u) (f : Fr u u') : Tabs3 u' := h.low fun k _ hl => f.block k hl
theorem Ap.below {p : Nat} {u u' : World} (h : Ap p u u') (hp : p ≤ u.heap.size) : Below p u u' := ⟨h.os, h.tape, h.output, h.size, fun k hk => h.block k (by omega) (fun e => by injection e; omega)⟩
/-- What a map shows, in every world in which nothing below block p turns. -/
def MapIs (p : Nat) (m : Value) (L : List UInt8 → Option Int) (u : World) : Prop :=
  ∀ u', Below p u u' → ∀ l : List UInt8, l.length ≤ 30 → (Instr.lookup 83 m (.string (bs l)) true).run Tryd.prog u' = .ok (.tuple #[.int .i64 ((L l).getD 0), .bool (L l).isSome]) u'
/-- A scanner in block p: the words that are left, and whether there was an error. -/
structure Sc (p : Nat) (m : Value) (L : List UInt8 → Option Int) (at' : Int) (u : World) (r : List (List UInt8)) (bad : Bool) : Prop where
  tabs : Tabs3 u
  lo : 18 ≤ p
  c0 : ∃ ao cap, u.cell? ⟨p, 0, none⟩ = some (.slice ao r.length cap) ∧ r.length ≤ cap ∧ cap ≤ 9223372036854775807 ∧ (0 < r.length → ∃ g off, ao = some ⟨g, off, none⟩ ∧ g < p ∧ ∀ i, i < r.length → u.cell? ⟨g, off + i, none⟩ = some (.string (bs (r.getD i []))))
  c1 : u.cell? ⟨p, 1, none⟩ = some m
  c2 : u.cell? ⟨p, 2, none⟩ = some (.int .i64 at')
  c3 : if bad = true then ∃ t q, u.cell? ⟨p, 3, none⟩ = some (.iface t q) else u.cell? ⟨p, 3, none⟩ = some .nilIface
  z0 : u.frozen? ⟨p, 0, none⟩ = false
  z3 : u.frozen? ⟨p, 3, none⟩ = false
  mp : MapIs p m L u
  wl : ∀ x ∈ r, x.length ≤ 30
/-- What lies up to the scanner stands. -/
theorem Sc.keep {p : Nat} {m : Value} {L : List UInt8 → Option Int} {at' : Int} {u u' : World} {r : List (List UInt8)} {bad : Bool} (h : Sc p m L at' u r bad) (f : Below (p + 1) u u') : Sc p m L at' u' r bad := by
  have hp : p < u.heap.size := lt_of_cell h.c1
  have hlo := h.lo
  have hq : p < p + 1 := by omega
  refine ⟨h.tabs.low (fun k hk hl => f.block k (by omega)), h.lo, ?_, by rw [f.cell (show p < _ from hq)]; exact h.c1, by rw [f.cell (show p < _ from hq)]; exact h.c2, ?_, by rw [f.frozen (show p < _ from hq)]; exact h.z0, by rw [f.frozen (show p < _ from hq)]; exact h.z3, fun v hv => h.mp v ((f.mono (by omega)).trans hv), h.wl⟩
  · obtain ⟨ao, cap, h1, h2, h3, h4⟩ := h.c0
    refine ⟨ao, cap, by rw [f.cell (show p < _ from hq)]; exact h1, h2, h3, fun h0 => ?_⟩
    obtain ⟨g, off, e, hg, hc⟩ := h4 h0
    refine ⟨g, off, e, hg, fun i hi => ?_⟩
    rw [f.cell (show g < p + 1 by omega)]
    exact hc i hi
  · have := h.c3
    rw [f.cell (show p < _ from hq)]; exact this
theorem Sc.fr {p : Nat} {m : Value} {L : List UInt8 → Option Int} {at' : Int} {u u' : World} {r : List (List UInt8)} {bad : Bool} (h : Sc p m L at' u r bad) (f : Fr u u') : Sc p m L at' u' r bad := h.keep (f.mono (lt_of_cell h.c1))
theorem Sc.lt {p : Nat} {m : Value} {L : List UInt8 → Option Int} {at' : Int} {u : World} {r : List (List UInt8)} {bad : Bool} (h : Sc p m L at' u r bad) : p < u.heap.size := lt_of_cell h.c1
/-- An error is kept. -/
theorem Sc.err {p : Nat} {m : Value} {L : List UInt8 → Option Int} {at' : Int} {u : World} {r : List (List UInt8)} {bad : Bool} (h : Sc p m L at' u r bad) (t : TypeId) (q : Value) : Sc p m L at' (u.setCell ⟨p, 3, none⟩ (.iface t q)) r true := by
  have a := Ap.set p 3 u (.iface t q)
  obtain ⟨ao, cap, h1, h2, h3, h4⟩ := h.c0
  have h30 : ∃ v, u.cell? ⟨p, 3, none⟩ = some v := by
    have := h.c3
    split at this
    · obtain ⟨t, q, e⟩ := this; exact ⟨_, e⟩
    · exact ⟨_, this⟩
  obtain ⟨v3, h30⟩ := h30
  refine ⟨h.tabs.ap a h.lo, h.lo, ⟨ao, cap, ?_, h2, h3, fun h0 => ?_⟩, ?_, ?_, ?_, ?_, ?_, fun v hv => h.mp v ((a.below (Nat.le_of_lt h.lt)).trans hv), h.wl⟩
  · rw [World.cell?_setCell_other _ _ _ _ (by simp)]; exact h1
  · obtain ⟨g, off, e, hg, hc⟩ := h4 h0
    exact ⟨g, off, e, hg, fun i hi => by rw [World.cell?_setCell_other _ _ _ _ (by simp)]; exact hc i hi⟩
  · rw [World.cell?_setCell_other _ _ _ _ (by simp)]; exact h.c1
  · rw [World.cell?_setCell_other _ _ _ _ (by simp)]; exact h.c2
  · simp only [if_true]
    exact ⟨t, q, by rw [World.cell?_setCell_same _ _ _ h30]⟩
  · rw [World.frozen?_setCell]; exact h.z0
  · rw [World.frozen?_setCell]; exact h.z3
set_option maxHeartbeats 400000 in
theorem impl_fail {p : Nat} {m : Value} {L : List UInt8 → Option Int} {at' : Int} {u : World} {r : List (List UInt8)} {bad : Bool} (h : Sc p m L at' u r bad) (t : TypeId) (q : Value) :
    Calls Tryd.prog 79 #[.pointer (some ⟨p, 0, none⟩), .iface t q] u fun e u' => e = .returned (.tuple #[]) ∧ Sc p m L at' u' r true ∧ Ap p u u' := by
  have c3 := h.c3
  have z3 := h.z3
  have H := Lib.hid h
  clear h
  cases bad
  · simp only [Bool.false_eq_true, if_false] at c3
    go_enter Tryd.func79, Tryd.ntmps79
    go_wp2
    refine bodyPost_end (v := .tuple #[]) (by simp [results, Tryd.results79, go_sem]) rfl ⟨rfl, H.out.err t q, Ap.set _ _ _ _⟩
  · simp only [if_true] at c3
    obtain ⟨t', q', c3⟩ := c3
    go_enter Tryd.func79, Tryd.ntmps79
    go_wp2
    refine bodyPost_end (v := .tuple #[]) (by simp [results, Tryd.results79, go_sem]) rfl ⟨rfl, H.out, Ap.refl _ _⟩
/-- What taking a word does: 'f' reads it. -/
def Took {α : Type} (f : List UInt8 → Option α) (r : List (List UInt8)) (bad : Bool) (v : α) (r' : List (List UInt8)) (bad' : Bool) : Prop :=
  (bad = true → bad' = true) ∧ (bad = false → match r with
    | [] => bad' = true
    | x :: t => match f x with
      | some n => bad' = false ∧ v = n ∧ r' = t
      | none => bad' = true)
/-- The first word is taken. -/
theorem Sc.next {p : Nat} {m : Value} {L : List UInt8 → Option Int} {at' : Int} {u : World} {x : List UInt8} {t : List (List UInt8)} (h : Sc p m L at' u (x :: t) false) (g off cap : Nat) (hc : u.cell? ⟨p, 0, none⟩ = some (.slice (some ⟨g, off, none⟩) (t.length + 1) cap)) (hcap : t.length + 1 ≤ cap) (hmax : cap ≤ 9223372036854775807) (hg : g < p) (hw : ∀ i, i < t.length + 1 → u.cell? ⟨g, off + i, none⟩ = some (.string (bs ((x :: t).getD i [])))) (ao : Option Addr) (hao : 0 < t.length → ao = some ⟨g, off + 1, none⟩) :
    Sc p m L at' (u.setCell ⟨p, 0, none⟩ (.slice ao t.length (cap - 1))) t false := by
  have a := Ap.set p 0 u (.slice ao t.length (cap - 1))
  refine ⟨h.tabs.ap a h.lo, h.lo, ⟨ao, cap - 1, ?_, by omega, by omega, fun h0 => ⟨g, off + 1, hao h0, hg, fun i hi => ?_⟩⟩, ?_, ?_, ?_, ?_, ?_, fun v hv => h.mp v ((a.below (Nat.le_of_lt h.lt)).trans hv), fun y hy => h.wl y (by simp [hy])⟩
  · rw [World.cell?_setCell_same _ _ _ hc]
  · rw [World.cell?_setCell_other _ _ _ _ (by simp), show off + 1 + i = off + (i + 1) by omega, hw (i + 1) (by omega)]
    simp
  · rw [World.cell?_setCell_other _ _ _ _ (by simp)]; exact h.c1
  · rw [World.cell?_setCell_other _ _ _ _ (by simp)]; exact h.c2
  · have := h.c3
    simp only [Bool.false_eq_true, if_false] at this ⊢
    rw [World.cell?_setCell_other _ _ _ _ (by simp)]; exact this
  · rw [World.frozen?_setCell]; exact h.z0
  · rw [World.frozen?_setCell]; exact h.z3
def FieldP (p : Nat) (m : Value) (L : List UInt8 → Option Int) (at' : Int) (u : World) (r : List (List UInt8)) (bad : Bool) (e : Ending) (u' : World) : Prop :=
  ∃ s r' bad', e = .returned (.string (bs s)) ∧ Sc p m L at' u' r' bad' ∧ Ap p u u' ∧ s.length ≤ 30 ∧ Took some r bad s r' bad' ∧ (bad' = true → s = [])
set_option maxHeartbeats 1000000 in
theorem impl_field {p : Nat} {m : Value} {L : List UInt8 → Option Int} {at' : Int} {u : World} {r : List (List UInt8)} {bad : Bool} (h : Sc p m L at' u r bad) :
    Calls Tryd.prog 58 #[.pointer (some ⟨p, 0, none⟩)] u (FieldP p m L at' u r bad) := by
  obtain ⟨ao, cap, h1, h2, h3, h4⟩ := h.c0
  have c3 := h.c3
  have z0 := h.z0
  have H := Lib.hid h
  cases r with
  | nil =>
    obtain ⟨te, qe, he⟩ := h.tabs.e1
    simp only [List.length_nil] at h1
    clear h4 h c3
    go_enter Tryd.func58, Tryd.ntmps58
    go_wp2_with (go_at_call 79; refine (impl_fail H.out _ _).mono ?_; rintro e u1 ⟨rfl, S1, A1⟩; have c3 := S1.c3; simp only [if_true] at c3; obtain ⟨t3, q3, c3⟩ := c3; replace S1 := Lib.hid S1)
    go_ret
    exact ⟨[], [], true, rfl, S1.out, A1, by simp, ⟨fun _ => rfl, fun _ => rfl⟩, fun _ => rfl⟩
  | cons x t =>
    obtain ⟨g, off, rfl, hg, hw⟩ := h4 (by simp)
    simp only [List.length_cons] at h1 h2 hw
    have w0 : u.cell? ⟨g, off, none⟩ = some (.string (bs x)) := hw 0 (by omega)
    have hn0 : ¬ ((t.length : Int) + 1 = 0) := by omega
    have HW := Lib.hid hw
    have HG := Lib.hid hg
    clear h4 h hw hg
    cases bad
    · simp only [Bool.false_eq_true, if_false] at c3
      by_cases hc1 : cap = 1
      · subst hc1
        obtain rfl : t = [] := List.length_eq_zero_iff.1 (by omega)
        go_enter Tryd.func58, Tryd.ntmps58
        go_wp2
        go_ret
        exact ⟨x, [], false, rfl, H.out.next g off 1 h1 h2 h3 HG.out HW.out _ (fun h => by simp at h), Ap.set _ _ _ _, H.out.wl x (by simp), ⟨fun h => (by cases h), fun _ => ⟨rfl, rfl, rfl⟩⟩, fun h => by cases h⟩
      · go_enter Tryd.func58, Tryd.ntmps58
        go_wp2
        go_ret
        exact ⟨x, t, false, rfl, H.out.next g off cap h1 h2 h3 HG.out HW.out _ (fun _ => rfl), Ap.set _ _ _ _, H.out.wl x (by simp), ⟨fun h => (by cases h), fun _ => ⟨rfl, rfl, rfl⟩⟩, fun h => by cases h⟩
    · simp only [if_true] at c3
      obtain ⟨t', q', c3⟩ := c3
      go_enter Tryd.func58, Tryd.ntmps58
      go_wp2
      go_ret
      exact ⟨[], x :: t, true, rfl, H.out, Ap.refl _ _, by simp, ⟨fun _ => rfl, fun h => by cases h⟩, fun _ => rfl⟩
theorem impl_end {p : Nat} {m : Value} {L : List UInt8 → Option Int} {at' : Int} {u : World} {r : List (List UInt8)} {bad : Bool} (h : Sc p m L at' u r bad) :
    Calls Tryd.prog 78 #[.pointer (some ⟨p, 0, none⟩)] u fun e u' => e = .returned (.tuple #[]) ∧ Sc p m L at' u' r (bad || !r.isEmpty) ∧ Ap p u u' := by
  obtain ⟨ao, cap, h1, h2, h3, h4⟩ := h.c0
  have H := Lib.hid h
  cases r with
  | nil =>
    simp only [List.length_nil] at h1
    clear h4 h
    go_enter Tryd.func78, Tryd.ntmps78
    go_wp2
    refine bodyPost_end (v := .tuple #[]) (by simp [results, Tryd.results78, go_sem]) rfl ⟨rfl, by simp; exact H.out, Ap.refl _ _⟩
  | cons x t =>
    obtain ⟨te, qe, he⟩ := h.tabs.e2
    simp only [List.length_cons] at h1
    have hn0 : ¬ ((t.length : Int) + 1 = 0) := by omega
    have hn1 : ((t.length : Int) + 1 != 0) = true := by simp; omega
    clear h4 h
    go_enter Tryd.func78, Tryd.ntmps78
    go_wp2_with (go_at_call 79; refine (impl_fail H.out _ _).mono ?_; rintro e u1 ⟨rfl, S1, A1⟩; replace S1 := Lib.hid S1; replace A1 := Lib.hid A1)
    refine bodyPost_end (v := .tuple #[]) (by simp [results, Tryd.results78, go_sem]) rfl ⟨rfl, by simp; exact S1.out, A1.out⟩
end Go.Proofs.YtecdmafhjfnloaaDoor
