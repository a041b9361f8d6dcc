/- The program's machine in memory; what its small methods do. -/
import Derived.Test.YtbjapncfgancoaaDoorPl9
import Derived.Test.YtbjapncfgancoaaDoorPh
import Derived.Test.YtbjapncfgancoaaDoorCodSd
namespace Go.Proofs.YtbjapncfgancoaaDoor
open Go.RowKit
set_option linter.unusedVariables false
set_option linter.unusedSimpArgs false
/-- The twelve cells of a machine. -/
def mCells (pc : Int) (gr gc gm cr cc cm : Nat) (e : Ev) (nx : Int) : List Value :=
  [.int .i64 pc, .slice (some ⟨gr, 0, none⟩) 8 cr, .slice (some ⟨gc, 0, none⟩) 5 cc, .slice (some ⟨gm, 0, none⟩) 256 cm, .int .i64 e.pc, .int .i64 e.w, .int .i64 e.why, .int .i64 e.d, .int .i64 e.v, .int .i64 e.ad, .int .i64 e.dt, .int .i64 nx]
structure Mx (u : World) (m gr gc gm cr cc cm : Nat) (s : St) (e : Ev) (nx : Int) : Prop where
  lt : m < u.heap.size
  cel : ∀ j, j < 12 → u.cell? ⟨m, j, none⟩ = (mCells s.pc gr gc gm cr cc cm e nx)[j]?
  fro : ∀ j, j < 12 → u.frozen? ⟨m, j, none⟩ = false
  ow : Own u gr gc gm s
  nr : m ≠ gr
  nc : m ≠ gc
  nm : m ≠ gm
theorem Mx.but {L : List Nat} {u u' : World} {m gr gc gm cr cc cm : Nat} {s : St} {e : Ev} {nx : Int} (h : Mx u m gr gc gm cr cc cm s e nx) (f : But L u u') (h0 : m ∉ L) (h1 : gr ∉ L) (h2 : gc ∉ L) (h3 : gm ∉ L) : Mx u' m gr gc gm cr cc cm s e nx :=
  ⟨Nat.lt_of_lt_of_le h.lt f.size, fun j hj => by rw [f.cell h.lt h0]; exact h.cel j hj, fun j hj => by rw [f.frozen h.lt h0]; exact h.fro j hj, h.ow.but f h1 h2 h3, h.nr, h.nc, h.nm⟩
theorem Mx.fr {u u' : World} {m gr gc gm cr cc cm : Nat} {s : St} {e : Ev} {nx : Int} (h : Mx u m gr gc gm cr cc cm s e nx) (f : Fr u u') : Mx u' m gr gc gm cr cc cm s e nx := h.but (L := []) (But.of f) (by simp) (by simp) (by simp) (by simp)
/-- A store into a cell of the machine. -/
theorem Mx.set {u : World} {m gr gc gm cr cc cm : Nat} {s s' : St} {e e' : Ev} {nx nx' : Int} (h : Mx u m gr gc gm cr cc cm s e nx) (j : Nat) (v : Value) (hj : j < 12) (hc : mCells s'.pc gr gc gm cr cc cm e' nx' = (mCells s.pc gr gc gm cr cc cm e nx).set j v) (hR : s'.R = s.R) (hC : s'.C = s.C) (hM : s'.M = s.M) : Mx (u.setCell ⟨m, j, none⟩ v) m gr gc gm cr cc cm s' e' nx' := by
  refine ⟨by simpa [World.setCell] using h.lt, fun i hi => ?_, fun i hi => by rw [World.frozen?_setCell]; exact h.fro i hi, ?_, h.nr, h.nc, h.nm⟩
  · rw [hc]
    by_cases ee : j = i
    · subst ee
      have h1 := h.cel j hj
      have h2 : j < (mCells s.pc gr gc gm cr cc cm e nx).length := hj
      rw [List.getElem?_eq_getElem h2] at h1
      rw [World.cell?_setCell_same _ _ _ h1, List.getElem?_set_self h2]
    · rw [World.cell?_setCell_other _ _ _ _ (by simp; try omega), List.getElem?_set_ne ee]
      exact h.cel i hi
  · have := h.ow.other m j v h.nr h.nc h.nm
    exact ⟨by rw [hR]; exact this.R, by rw [hC]; exact this.C, by rw [hM]; exact this.M, this.rc, this.rm, this.cm⟩
theorem Mx.setR {u : World} {m gr gc gm cr cc cm : Nat} {s : St} {e : Ev} {nx : Int} (h : Mx u m gr gc gm cr cc cm s e nx) (i : Nat) (v : Int) (hi : i < s.R.length) : Mx (u.setCell ⟨gr, i, none⟩ (.int .i64 v)) m gr gc gm cr cc cm ⟨s.pc, s.R.set i v, s.C, s.M⟩ e nx :=
  ⟨by simpa [World.setCell] using h.lt, fun j hj => by rw [World.cell?_setCell_other _ _ _ _ (by simp; intro ee; exact absurd ee h.nr.symm)]; exact h.cel j hj, fun j hj => by rw [World.frozen?_setCell]; exact h.fro j hj, h.ow.setR i v hi s.pc, h.nr, h.nc, h.nm⟩
theorem Mx.setC {u : World} {m gr gc gm cr cc cm : Nat} {s : St} {e : Ev} {nx : Int} (h : Mx u m gr gc gm cr cc cm s e nx) (i : Nat) (v : Int) (hi : i < s.C.length) : Mx (u.setCell ⟨gc, i, none⟩ (.int .i64 v)) m gr gc gm cr cc cm ⟨s.pc, s.R, s.C.set i v, s.M⟩ e nx :=
  ⟨by simpa [World.setCell] using h.lt, fun j hj => by rw [World.cell?_setCell_other _ _ _ _ (by simp; intro ee; exact absurd ee h.nc.symm)]; exact h.cel j hj, fun j hj => by rw [World.frozen?_setCell]; exact h.fro j hj, h.ow.setC i v hi s.pc, h.nr, h.nc, h.nm⟩
theorem Mx.setM {u : World} {m gr gc gm cr cc cm : Nat} {s : St} {e : Ev} {nx : Int} (h : Mx u m gr gc gm cr cc cm s e nx) (i : Nat) (v : Int) (hi : i < s.M.length) : Mx (u.setCell ⟨gm, i, none⟩ (.int .i64 v)) m gr gc gm cr cc cm ⟨s.pc, s.R, s.C, s.M.set i v⟩ e nx :=
  ⟨by simpa [World.setCell] using h.lt, fun j hj => by rw [World.cell?_setCell_other _ _ _ _ (by simp; intro ee; exact absurd ee h.nm.symm)]; exact h.cel j hj, fun j hj => by rw [World.frozen?_setCell]; exact h.fro j hj, h.ow.setM i v hi s.pc, h.nr, h.nc, h.nm⟩
theorem impl_wrapped (x : Int) (w : World) (h0 : -1000000 ≤ x) (h1 : x ≤ 1000000) : Calls Tryd.prog 72 #[.int .i64 x] w fun e w' => e = .returned (.int .i64 (x % 65536)) ∧ w = w' := by
  go_enter Tryd.func72, Tryd.ntmps72
  go_wp2
  go_ret
  exact ⟨ret_int (by rw [IntKind.wrap_u16, IntWalk.wrap64_in _ (by omega)]), rfl⟩
/-- A trap. -/
def trapE (why : Int) : Ending := .panicked [{ v := .iface 88 (.int .i64 why), recovered := false }]
set_option maxHeartbeats 1000000 in
theorem impl_put (u : World) (m gr gc gm cr cc cm : Nat) (s : St) (e : Ev) (nx d v : Int) (h : Mx u m gr gc gm cr cc cm s e nx) (hl : s.R.length = 8) (d0 : 0 ≤ d) (d7 : d ≤ 7) :
    Calls Tryd.prog 117 #[.pointer (some ⟨m, 0, none⟩), .int .i64 d, .int .i64 v] u fun r u' => r = .returned (.tuple #[]) ∧ Mx u' m gr gc gm cr cc cm ⟨s.pc, putR s.R d v, s.C, s.M⟩ (putE e d v) nx ∧ But [m, gr] u u' := by
  by_cases hd : d = 0
  · subst hd
    have HM := Lib.hid h
    clear h
    go_enter Tryd.func117, Tryd.ntmps117
    go_wp2
    (first | refine bodyPost_end (results_none rfl _ _ _) rfl ?_ | refine bodyPost_ret (results_none rfl _ _ _) rfl ?_)
    exact ⟨rfl, HM.out, But.refl _ _⟩
  · have e1 : putR s.R d v = s.R.set d.toNat v := if_neg hd
    have e2 : putE e d v = { e with d := d, v := v } := if_neg hd
    rw [e1, e2]
    have c1 := h.cel 1 (by decide)
    have c7 := h.cel 7 (by decide)
    have c8 := h.cel 8 (by decide)
    have f7 := h.fro 7 (by decide)
    have f8 := h.fro 8 (by decide)
    simp only [mCells, List.getElem?_cons_succ, List.getElem?_cons_zero] at c1 c7 c8
    have r1 := h.ow.R.cel d.toNat (by omega)
    have r2 := h.ow.R.fro d.toNat (by omega)
    have n1 : ¬ m = gr := h.nr
    have n2 : ¬ gr = m := fun ee => h.nr ee.symm
    have HM := Lib.hid h
    have hl2 : (d.toNat : Nat) < s.R.length := by omega
    have HL := Lib.hid hl2
    clear h hl hl2 e1 e2
    go_enter Tryd.func117, Tryd.ntmps117
    go_wp2
    (first | refine bodyPost_end (results_none rfl _ _ _) rfl ?_ | refine bodyPost_ret (results_none rfl _ _ _) rfl ?_)
    refine ⟨rfl, (((HM.out.setR d.toNat v HL.out).set (s' := ⟨s.pc, s.R.set d.toNat v, s.C, s.M⟩) (e' := { e with d := d }) (nx' := nx) 7 (.int .i64 d) (by decide) rfl rfl rfl rfl).set (s' := ⟨s.pc, s.R.set d.toNat v, s.C, s.M⟩) (e' := { e with d := d, v := v }) (nx' := nx) 8 (.int .i64 v) (by decide) rfl rfl rfl rfl), ?_⟩
    exact (((But.refl [m, gr] u).set gr _ _ (.inl (by simp))).set m _ _ (.inl (by simp))).set m _ _ (.inl (by simp))
set_option maxHeartbeats 1000000 in
theorem impl_write (u : World) (m gr gc gm cr cc cm : Nat) (s : St) (e : Ev) (nx a v : Int) (h : Mx u m gr gc gm cr cc cm s e nx) (hl : s.M.length = 256) (a0 : 0 ≤ a) (a1 : a < 256) :
    Calls Tryd.prog 118 #[.pointer (some ⟨m, 0, none⟩), .int .i64 a, .int .i64 v] u fun r u' => r = .returned (.tuple #[]) ∧ Mx u' m gr gc gm cr cc cm ⟨s.pc, s.R, s.C, s.M.set a.toNat v⟩ { e with ad := a, dt := v } nx ∧ But [m, gm] u u' := by
  have c3 := h.cel 3 (by decide)
  have c9 := h.cel 9 (by decide)
  have c10 := h.cel 10 (by decide)
  have f9 := h.fro 9 (by decide)
  have f10 := h.fro 10 (by decide)
  simp only [mCells, List.getElem?_cons_succ, List.getElem?_cons_zero] at c3 c9 c10
  have r1 := h.ow.M.cel a.toNat (by omega)
  have r2 := h.ow.M.fro a.toNat (by omega)
  have n1 : ¬ m = gm := h.nm
  have n2 : ¬ gm = m := fun ee => h.nm ee.symm
  have HM := Lib.hid h
  have HL := Lib.hid (show (a.toNat : Nat) < s.M.length by omega)
  clear h hl
  go_enter Tryd.func118, Tryd.ntmps118
  go_wp2
  (first | refine bodyPost_end (results_none rfl _ _ _) rfl ?_ | refine bodyPost_ret (results_none rfl _ _ _) rfl ?_)
  refine ⟨rfl, (((HM.out.setM a.toNat v HL.out).set (s' := ⟨s.pc, s.R, s.C, s.M.set a.toNat v⟩) (e' := { e with ad := a }) (nx' := nx) 9 (.int .i64 a) (by decide) rfl rfl rfl rfl).set (s' := ⟨s.pc, s.R, s.C, s.M.set a.toNat v⟩) (e' := { e with ad := a, dt := v }) (nx' := nx) 10 (.int .i64 v) (by decide) rfl rfl rfl rfl), ?_⟩
  exact (((But.refl [m, gm] u).set gm _ _ (.inl (by simp))).set m _ _ (.inl (by simp))).set m _ _ (.inl (by simp))
set_option maxHeartbeats 1000000 in
theorem impl_branch (u : World) (m gr gc gm cr cc cm : Nat) (s : St) (e : Ev) (nx n : Int) (t : Bool) (h : Mx u m gr gc gm cr cc cm s e nx) (x0 : 0 ≤ nx) (x1 : nx < 65536) (n0 : -1000 ≤ n) (n1 : n ≤ 1000) :
    Calls Tryd.prog 119 #[.pointer (some ⟨m, 0, none⟩), .bool t, .int .i64 n] u fun r u' => r = .returned (.tuple #[]) ∧ Mx u' m gr gc gm cr cc cm s e (if t = true then (nx + n) % 65536 else nx) ∧ But [m] u u' := by
  have c11 := h.cel 11 (by decide)
  have f11 := h.fro 11 (by decide)
  simp only [mCells, List.getElem?_cons_succ, List.getElem?_cons_zero] at c11
  have HM := Lib.hid h
  clear h
  cases t
  · go_enter Tryd.func119, Tryd.ntmps119
    go_wp2
    (first | refine bodyPost_end (results_none rfl _ _ _) rfl ?_ | refine bodyPost_ret (results_none rfl _ _ _) rfl ?_)
    exact ⟨rfl, HM.out, But.refl _ _⟩
  · go_enter Tryd.func119, Tryd.ntmps119
    go_wp2_with (go_at_call 72; refine (impl_wrapped _ _ (by omega) (by omega)).mono ?_; rintro e w' ⟨rfl, rfl⟩)
    (first | refine bodyPost_end (results_none rfl _ _ _) rfl ?_ | refine bodyPost_ret (results_none rfl _ _ _) rfl ?_)
    exact ⟨rfl, HM.out.set (s' := s) (e' := e) (nx' := (nx + n) % 65536) 11 _ (by decide) rfl rfl rfl rfl, (But.refl [m] u).set m _ _ (.inl (by simp))⟩

end Go.Proofs.YtbjapncfgancoaaDoor
