/- What a guesser guesses. -/
import Derived.Test.YtpdlcjjmhcfkjaaDoorGu3
import Derived.Test.YtpdlcjjmhcfkjaaDoorCodRd
import Derived.Test.YtpdlcjjmhcfkjaaDoorCodSd
import Derived.Test.YtpdlcjjmhcfkjaaDoorTxt
import Derived.Test.YtpdlcjjmhcfkjaaDoorTx
namespace Go.Proofs.YtpdlcjjmhcfkjaaDoor
open Go.RowKit
set_option linter.unusedVariables false
set_option linter.unusedSimpArgs false
/-- A guess, or none. -/
abbrev pv (p : Int × Bool) : Value := .agg #[.int .i64 p.1, .bool p.2]
def orP (p q : Int × Bool) : Int × Bool := if p.2 = true then p else q
def topP (C : List Int) (k d : Int) : Int × Bool := if k = 8 ∧ d = 0 ∧ 0 < C.length then (C.getD (C.length - 1) 0, true) else (0, false)
def tgtP (pc k n : Int) : Int × Bool := if k = 7 then ((pc + 1 + n) % 65536, true) else (0, false)
def prdP (x : Sl) (pc : Int) : Int × Bool := if x.u = true ∧ x.p = pc ∧ 2 ≤ x.s then (x.t, true) else (0, false)
def nextK (x : Gu) (pc k d n : Int) : Int := if (orP (orP (topP x.C k d) (tgtP pc k n)) (prdP (x.S.getD (ix pc) sl0) pc)).2 = true then (orP (orP (topP x.C k d) (tgtP pc k n)) (prdP (x.S.getD (ix pc) sl0) pc)).1 else (pc + 1) % 65536
abbrev kK (m : Int) : Int := rI m (m / 4096)
abbrev kD (m : Int) : Int := rI m (rdv m 0)
abbrev kN (m : Int) : Int := rI m (rdv m 4)
def nextG (x : Gu) (pc m : Int) : Int := nextK x pc (kK m) (kD m) (kN m)
def nextA (x : Gu) (pc m : Int) : Int := if okG x && (okB pc && okB m) then nextG x pc m else -1
theorem kN_bd (m : Int) : -256 ≤ kN m ∧ kN m ≤ 511 := by
  unfold kN
  cases h : gd m
  · rw [rI_f h]; omega
  · rw [rI_t h]
    have hg := h
    simp only [gd, iok, Bool.and_eq_true, decide_eq_true_eq] at hg
    exact okAt_bd hg.2.2.1 (by omega) hg.2.2.2.2.2.2.2
theorem pv_ret {fn : Func} {tmps : Array Value} {w : World} {v u : Value} (h : (results fn tmps).run Tryd.prog w = .ok v w) (e : v = u) : (results fn tmps).run Tryd.prog w = .ok u w := by rw [← e]; exact h
theorem impl_predicted (t : Int) (w : World) : Calls Tryd.prog 76 #[.int .i64 t] w fun e w' => e = .returned (pv (t, true)) ∧ Fr w w' := by
  go_enter Tryd.func76, Tryd.ntmps76
  go_wp2
  refine bodyPost_ret (v := pv (t, true)) (by simp [results, Tryd.results76, go_sem]) rfl ⟨rfl, ?_⟩
  (repeat' first | (with_reducible exact Below.refl _ _) | (with_reducible assumption) | ((with_reducible refine Below.setCell ?_ ?hb _); (case hb => first | exact Nat.le_refl _ | (simp; done) | (simp; omega) | omega)) | ((with_reducible refine Below.alloc ?_ ?hb _); (case hb => first | exact Nat.le_refl _ | (simp; done) | (simp; omega) | omega)) | (with_reducible refine Below.drew ?_))
theorem impl_or (p q : Int × Bool) (w : World) : Calls Tryd.prog 38 #[pv p, pv q] w fun e w' => e = .returned (pv (orP p q)) ∧ Fr w w' := by
  obtain ⟨p, b⟩ := p
  obtain ⟨q, c⟩ := q
  cases b
  · simp only [orP, if_false, Bool.false_eq_true]
    go_enter Tryd.func38, Tryd.ntmps38
    go_wp2
    refine bodyPost_ret (v := pv (q, c)) (by simp [results, Tryd.results38, go_sem]) rfl ⟨rfl, ?_⟩
    (repeat' first | (with_reducible exact Below.refl _ _) | (with_reducible assumption) | ((with_reducible refine Below.setCell ?_ ?hb _); (case hb => first | exact Nat.le_refl _ | (simp; done) | (simp; omega) | omega)) | ((with_reducible refine Below.alloc ?_ ?hb _); (case hb => first | exact Nat.le_refl _ | (simp; done) | (simp; omega) | omega)) | (with_reducible refine Below.drew ?_))
  · simp only [orP, if_true]
    go_enter Tryd.func38, Tryd.ntmps38
    go_wp2
    refine bodyPost_ret (v := pv (p, true)) (by simp [results, Tryd.results38, go_sem]) rfl ⟨rfl, ?_⟩
    (repeat' first | (with_reducible exact Below.refl _ _) | (with_reducible assumption) | ((with_reducible refine Below.setCell ?_ ?hb _); (case hb => first | exact Nat.le_refl _ | (simp; done) | (simp; omega) | omega)) | ((with_reducible refine Below.alloc ?_ ?hb _); (case hb => first | exact Nat.le_refl _ | (simp; done) | (simp; omega) | omega)) | (with_reducible refine Below.drew ?_))
theorem impl_otherwise (p : Int × Bool) (t : Int) (w : World) : Calls Tryd.prog 42 #[pv p, .int .i64 t] w fun e w' => e = .returned (.int .i64 (if p.2 = true then p.1 else t)) ∧ Fr w w' := by
  obtain ⟨p, b⟩ := p
  have HF := Lib.hid (Fr.alloc w (.cells #[.int .i64 p, .bool b] 58))
  cases b
  · simp only [if_false, Bool.false_eq_true]
    go_enter Tryd.func42, Tryd.ntmps42
    go_wp2
    go_ret
    exact ⟨rfl, HF.out⟩
  · simp only [if_true]
    go_enter Tryd.func42, Tryd.ntmps42
    go_wp2
    go_ret
    exact ⟨rfl, HF.out⟩
theorem impl_isReturn (k d a b f n : Int) (w : World) : Calls Tryd.prog 75 #[.agg #[.int .i64 k, .int .i64 d, .int .i64 a, .int .i64 b, .int .i64 f, .int .i64 n]] w fun e w' => e = .returned (.bool (decide (k = 8 ∧ d = 0))) ∧ Fr w w' := by
  have HF := Lib.hid (Fr.alloc w (.cells #[.int .i64 k, .int .i64 d, .int .i64 a, .int .i64 b, .int .i64 f, .int .i64 n] 43))
  by_cases hk : k = 8
  · subst hk
    go_enter Tryd.func75, Tryd.ntmps75
    go_wp2
    all_goals (go_ret; refine ⟨ret_bool ?_, HF.out⟩; simp [BEq.beq])
  · have hk' : (k == 8) = false := by simpa using hk
    go_enter Tryd.func75, Tryd.ntmps75
    go_wp2
    all_goals (go_ret; refine ⟨ret_bool ?_, HF.out⟩; simp [hk])
set_option maxHeartbeats 1000000 in
theorem impl_topOf (C : List Int) (aC : Option Addr) (cC : Nat) (k d a b f n : Int) (w : World) (h : Src w C.length (ivl C) aC) (hC : C.length ≤ 100000000) : Calls Tryd.prog 37 #[.slice aC C.length cC, .agg #[.int .i64 k, .int .i64 d, .int .i64 a, .int .i64 b, .int .i64 f, .int .i64 n]] w fun e w' => e = .returned (pv (topP C k d)) ∧ Fr w w' := by
  have F2 : Fr w ((w.alloc (.cells #[.int .i64 k, .int .i64 d, .int .i64 a, .int .i64 b, .int .i64 f, .int .i64 n] 43)).alloc (.cells #[.int .i64 0, .bool false] 58)) := by (repeat' first | (with_reducible exact Below.refl _ _) | (with_reducible assumption) | ((with_reducible refine Below.setCell ?_ ?hb _); (case hb => first | exact Nat.le_refl _ | (simp; done) | (simp; omega) | omega)) | ((with_reducible refine Below.alloc ?_ ?hb _); (case hb => first | exact Nat.le_refl _ | (simp; done) | (simp; omega) | omega)) | (with_reducible refine Below.drew ?_))
  have E := fun w => impl_isReturn k d a b f n w
  have HF2 := Lib.hid F2
  have HZ2 := Lib.hid (Box2.new (w.alloc (.cells #[.int .i64 k, .int .i64 d, .int .i64 a, .int .i64 b, .int .i64 f, .int .i64 n] 43)) (.int .i64 0) (.bool false) 58 (w.heap.size + 1) (by simp))
  have HS := Lib.hid h
  clear F2 h
  by_cases hr : k = 8 ∧ d = 0
  · rw [decide_eq_true hr] at E
    have HE := Lib.hid E
    clear E
    by_cases h0 : 0 < C.length
    · rw [show topP C k d = (C.getD (C.length - 1) 0, true) from if_pos ⟨hr.1, hr.2, h0⟩]
      obtain ⟨z, hzz⟩ : ∃ z, C.getD (C.length - 1) 0 = z := ⟨_, rfl⟩
      rw [hzz]
      have hn0 : ((C.length : Int) == 0) = false := beq_false_of_ne (by omega)
      have hn1 : ¬ (C.length : Int) = 0 := by omega
      clear hr
      go_enter Tryd.func37, Tryd.ntmps37
      go_wp2_with fail
      generalize ((w.alloc (.cells #[.int .i64 k, .int .i64 d, .int .i64 a, .int .i64 b, .int .i64 f, .int .i64 n] 43)).alloc (.cells #[.int .i64 0, .bool false] 58)) = u0 at *
      refine (HE.out _).mono ?_
      rintro e u1 ⟨rfl, f1⟩
      have HF3 := Lib.hid (HF2.out.trans f1)
      have HZ3 := Lib.hid (HZ2.out.fr f1)
      obtain ⟨g, o, rfl, hg, hc⟩ := (HS.out.fr HF3.out) h0
      obtain ⟨m, hm⟩ : ∃ m : Nat, C.length = m + 1 := ⟨C.length - 1, by omega⟩
      have d0 := hc m (by omega)
      simp only [ivl] at d0
      have hm' : (C.length : Int) - 1 = (m : Int) := by omega
      have hm2 : (m : Int) < (C.length : Int) := by omega
      rw [show m = C.length - 1 by omega, hzz] at d0
      rw [show o + (C.length - 1) = o + m by omega] at d0
      clear hc f1 hm HF2 HZ2
      go_wp2_with fail
      refine (impl_predicted _ _).mono ?_
      rintro e u2 ⟨rfl, f2⟩
      obtain ⟨_, z0, z1, zf0, zf1⟩ := HZ3.out.fr f2
      have HF4 := Lib.hid (HF3.out.trans f2)
      clear f2 HF3 HZ3 d0
      go_wp2_with fail
      refine bodyPost_ret (v := pv (z, true)) (by simp [results, Tryd.results37, go_sem, World.cell?_setCell_other, World.cell?_setCell_same, z0, z1]) rfl ⟨rfl, ?_⟩
      exact fr_but HF4.out ((But.refl _ _).set2 (w.heap.size + 1) _ _ (.inl (by simp)) : But [w.heap.size + 1] _ _) (fun k hk => by have := List.mem_singleton.1 hk; omega)
    · rw [show topP C k d = (0, false) from if_neg (fun h => h0 h.2.2)]
      have hz : C.length = 0 := by omega
      rw [hz]
      clear hr
      go_enter Tryd.func37, Tryd.ntmps37
      go_wp2_with fail
      generalize ((w.alloc (.cells #[.int .i64 k, .int .i64 d, .int .i64 a, .int .i64 b, .int .i64 f, .int .i64 n] 43)).alloc (.cells #[.int .i64 0, .bool false] 58)) = u0 at *
      refine (HE.out _).mono ?_
      rintro e u1 ⟨rfl, f1⟩
      obtain ⟨_, z0, z1, zf0, zf1⟩ := HZ2.out.fr f1
      have HF3 := Lib.hid (HF2.out.trans f1)
      clear f1 HF2 HZ2
      go_wp2_with fail
      refine bodyPost_ret (v := pv (0, false)) (by simp [results, Tryd.results37, go_sem, World.cell?_setCell_other, World.cell?_setCell_same, z0, z1]) rfl ⟨rfl, ?_⟩
      exact fr_but HF3.out ((But.refl _ _).set2 (w.heap.size + 1) _ _ (.inl (by simp)) : But [w.heap.size + 1] _ _) (fun k hk => by have := List.mem_singleton.1 hk; omega)
  · rw [show topP C k d = (0, false) from if_neg (fun h => hr ⟨h.1, h.2.1⟩)]
    rw [decide_eq_false hr] at E
    have HE := Lib.hid E
    clear E hr
    go_enter Tryd.func37, Tryd.ntmps37
    go_wp2_with fail
    generalize ((w.alloc (.cells #[.int .i64 k, .int .i64 d, .int .i64 a, .int .i64 b, .int .i64 f, .int .i64 n] 43)).alloc (.cells #[.int .i64 0, .bool false] 58)) = u0 at *
    refine (HE.out _).mono ?_
    rintro e u1 ⟨rfl, f1⟩
    obtain ⟨_, z0, z1, zf0, zf1⟩ := HZ2.out.fr f1
    have HF3 := Lib.hid (HF2.out.trans f1)
    clear f1 HF2 HZ2
    go_wp2_with fail
    refine bodyPost_ret (v := pv (0, false)) (by simp [results, Tryd.results37, go_sem, World.cell?_setCell_other, World.cell?_setCell_same, z0, z1]) rfl ⟨rfl, ?_⟩
    exact fr_but HF3.out ((But.refl _ _).set2 (w.heap.size + 1) _ _ (.inl (by simp)) : But [w.heap.size + 1] _ _) (fun k hk => by have := List.mem_singleton.1 hk; omega)
set_option maxHeartbeats 1000000 in
theorem impl_targetOf (pc k d a b f n : Int) (w : World) (p0 : 0 ≤ pc) (p1 : pc < 65536) (n0 : -256 ≤ n) (n1 : n ≤ 511) : Calls Tryd.prog 39 #[.int .i64 pc, .agg #[.int .i64 k, .int .i64 d, .int .i64 a, .int .i64 b, .int .i64 f, .int .i64 n]] w fun e w' => e = .returned (pv (tgtP pc k n)) ∧ Fr w w' := by
  have HF2 := Lib.hid (show Fr w ((w.alloc (.cells #[.int .i64 k, .int .i64 d, .int .i64 a, .int .i64 b, .int .i64 f, .int .i64 n] 43)).alloc (.cells #[.int .i64 0, .bool false] 58)) by (repeat' first | (with_reducible exact Below.refl _ _) | (with_reducible assumption) | ((with_reducible refine Below.setCell ?_ ?hb _); (case hb => first | exact Nat.le_refl _ | (simp; done) | (simp; omega) | omega)) | ((with_reducible refine Below.alloc ?_ ?hb _); (case hb => first | exact Nat.le_refl _ | (simp; done) | (simp; omega) | omega)) | (with_reducible refine Below.drew ?_)))
  have HZ2 := Lib.hid (Box2.new (w.alloc (.cells #[.int .i64 k, .int .i64 d, .int .i64 a, .int .i64 b, .int .i64 f, .int .i64 n] 43)) (.int .i64 0) (.bool false) 58 (w.heap.size + 1) (by simp))
  by_cases hk : k = 7
  · subst hk
    rw [show tgtP pc 7 n = ((pc + 1 + n) % 65536, true) from if_pos rfl]
    go_enter Tryd.func39, Tryd.ntmps39
    go_wp2_with (go_at_call 43; refine (impl_wrapped5 _ _ (by omega) (by omega)).mono ?_; rintro e w' ⟨rfl, rfl⟩)
    generalize ((w.alloc (.cells #[.int .i64 7, .int .i64 d, .int .i64 a, .int .i64 b, .int .i64 f, .int .i64 n] 43)).alloc (.cells #[.int .i64 0, .bool false] 58)) = u0 at *
    refine (impl_predicted _ _).mono ?_
    rintro e u2 ⟨rfl, f2⟩
    obtain ⟨_, z0, z1, zf0, zf1⟩ := HZ2.out.fr f2
    have HF4 := Lib.hid (HF2.out.trans f2)
    clear f2 HF2 HZ2
    go_wp2_with fail
    refine bodyPost_ret (v := pv ((pc + 1 + n) % 65536, true)) (by simp [results, Tryd.results39, go_sem, World.cell?_setCell_other, World.cell?_setCell_same, z0, z1]) rfl ⟨rfl, ?_⟩
    exact fr_but HF4.out ((But.refl _ _).set2 (w.heap.size + 1) _ _ (.inl (by simp)) : But [w.heap.size + 1] _ _) (fun k hk => by have := List.mem_singleton.1 hk; omega)
  · rw [show tgtP pc k n = (0, false) from if_neg hk]
    have hk' : (k != 7) = true := by simpa using hk
    clear HF2 HZ2
    go_enter Tryd.func39, Tryd.ntmps39
    go_wp2_with fail
    all_goals first | (exfalso; omega) | skip
    refine bodyPost_ret (v := pv (0, false)) (by simp [results, Tryd.results39, go_sem]) rfl ⟨rfl, ?_⟩
    (repeat' first | (with_reducible exact Below.refl _ _) | (with_reducible assumption) | ((with_reducible refine Below.setCell ?_ ?hb _); (case hb => first | exact Nat.le_refl _ | (simp; done) | (simp; omega) | omega)) | ((with_reducible refine Below.alloc ?_ ?hb _); (case hb => first | exact Nat.le_refl _ | (simp; done) | (simp; omega) | omega)) | (with_reducible refine Below.drew ?_))
set_option maxHeartbeats 1000000 in
theorem impl_slot_predict (x : Sl) (pc : Int) (w : World) : Calls Tryd.prog 77 #[slw x, .int .i64 pc] w fun e w' => e = .returned (pv (prdP x pc)) ∧ Fr w w' := by
  obtain ⟨u, p, t, s⟩ := x
  have E := fun w => impl_stores ⟨u, p, t, s⟩ pc w
  have HF2 := Lib.hid (show Fr w ((w.alloc (.cells #[.bool u, .int .i64 p, .int .i64 t, .int .i64 s] 51)).alloc (.cells #[.int .i64 0, .bool false] 58)) by (repeat' first | (with_reducible exact Below.refl _ _) | (with_reducible assumption) | ((with_reducible refine Below.setCell ?_ ?hb _); (case hb => first | exact Nat.le_refl _ | (simp; done) | (simp; omega) | omega)) | ((with_reducible refine Below.alloc ?_ ?hb _); (case hb => first | exact Nat.le_refl _ | (simp; done) | (simp; omega) | omega)) | (with_reducible refine Below.drew ?_)))
  have HX2 := Lib.hid ((Box4.new w (.bool u) (.int .i64 p) (.int .i64 t) (.int .i64 s) 51 _ rfl).fr (Fr.alloc _ (.cells #[.int .i64 0, .bool false] 58)))
  have HZ2 := Lib.hid (Box2.new (w.alloc (.cells #[.bool u, .int .i64 p, .int .i64 t, .int .i64 s] 51)) (.int .i64 0) (.bool false) 58 (w.heap.size + 1) (by simp))
  simp only at E
  by_cases hst : u = true ∧ p = pc
  · rw [show (u && decide (p = pc)) = true by simpa using hst] at E
    have HE := Lib.hid E
    clear E
    by_cases hs : 2 ≤ s
    · rw [show prdP ⟨u, p, t, s⟩ pc = (t, true) from if_pos ⟨hst.1, hst.2, hs⟩]
      have hs' : ¬ s < 2 := by omega
      clear hst
      go_enter Tryd.func77, Tryd.ntmps77
      go_wp2_with fail
      generalize ((w.alloc (.cells #[.bool u, .int .i64 p, .int .i64 t, .int .i64 s] 51)).alloc (.cells #[.int .i64 0, .bool false] 58)) = u0 at *
      refine (HE.out _).mono ?_
      rintro e u1 ⟨rfl, f1⟩
      have HF3 := Lib.hid (HF2.out.trans f1)
      have HZ3 := Lib.hid (HZ2.out.fr f1)
      obtain ⟨_, x0, x1, x2, x3, _, _, _, _⟩ := HX2.out.fr f1
      clear f1 HF2 HZ2 HX2
      go_wp2_with fail
      refine (impl_predicted _ _).mono ?_
      rintro e u2 ⟨rfl, f2⟩
      obtain ⟨_, z0, z1, zf0, zf1⟩ := HZ3.out.fr f2
      have HF4 := Lib.hid (HF3.out.trans f2)
      clear f2 HF3 HZ3 x0 x1 x2 x3
      go_wp2_with fail
      refine bodyPost_ret (v := pv (t, true)) (by simp [results, Tryd.results77, go_sem, World.cell?_setCell_other, World.cell?_setCell_same, z0, z1]) rfl ⟨rfl, ?_⟩
      exact fr_but HF4.out ((But.refl _ _).set2 (w.heap.size + 1) _ _ (.inl (by simp)) : But [w.heap.size + 1] _ _) (fun k hk => by have := List.mem_singleton.1 hk; omega)
    · rw [show prdP ⟨u, p, t, s⟩ pc = (0, false) from if_neg (fun h => hs h.2.2)]
      have hs' : s < 2 := by omega
      clear hst hs
      go_enter Tryd.func77, Tryd.ntmps77
      go_wp2_with fail
      generalize ((w.alloc (.cells #[.bool u, .int .i64 p, .int .i64 t, .int .i64 s] 51)).alloc (.cells #[.int .i64 0, .bool false] 58)) = u0 at *
      refine (HE.out _).mono ?_
      rintro e u1 ⟨rfl, f1⟩
      have HF3 := Lib.hid (HF2.out.trans f1)
      obtain ⟨_, z0, z1, zf0, zf1⟩ := HZ2.out.fr f1
      obtain ⟨_, x0, x1, x2, x3, _, _, _, _⟩ := HX2.out.fr f1
      clear f1 HF2 HZ2 HX2
      go_wp2_with fail
      refine bodyPost_ret (v := pv (0, false)) (by simp [results, Tryd.results77, go_sem, World.cell?_setCell_other, World.cell?_setCell_same, z0, z1]) rfl ⟨rfl, ?_⟩
      exact fr_but HF3.out ((But.refl _ _).set2 (w.heap.size + 1) _ _ (.inl (by simp)) : But [w.heap.size + 1] _ _) (fun k hk => by have := List.mem_singleton.1 hk; omega)
  · rw [show prdP ⟨u, p, t, s⟩ pc = (0, false) from if_neg (fun h => hst ⟨h.1, h.2.1⟩)]
    rw [show (u && decide (p = pc)) = false by simpa using hst] at E
    have HE := Lib.hid E
    clear E hst
    go_enter Tryd.func77, Tryd.ntmps77
    go_wp2_with fail
    generalize ((w.alloc (.cells #[.bool u, .int .i64 p, .int .i64 t, .int .i64 s] 51)).alloc (.cells #[.int .i64 0, .bool false] 58)) = u0 at *
    refine (HE.out _).mono ?_
    rintro e u1 ⟨rfl, f1⟩
    have HF3 := Lib.hid (HF2.out.trans f1)
    obtain ⟨_, z0, z1, zf0, zf1⟩ := HZ2.out.fr f1
    clear f1 HF2 HZ2 HX2
    go_wp2_with fail
    refine bodyPost_ret (v := pv (0, false)) (by simp [results, Tryd.results77, go_sem, World.cell?_setCell_other, World.cell?_setCell_same, z0, z1]) rfl ⟨rfl, ?_⟩
    exact fr_but HF3.out ((But.refl _ _).set2 (w.heap.size + 1) _ _ (.inl (by simp)) : But [w.heap.size + 1] _ _) (fun k hk => by have := List.mem_singleton.1 hk; omega)
set_option maxHeartbeats 1000000 in
theorem impl_slots_predict (S : List Sl) (pc : Int) (w : World) (hl : S.length = 8) (p0 : 0 ≤ pc) :
    Calls Tryd.prog 41 #[.agg (cls S).toArray, .int .i64 pc] w fun e w' => e = .returned (pv (prdP (S.getD (ix pc) sl0) pc)) ∧ Fr w w' := by
  obtain ⟨k, hk8, hkm⟩ : ∃ k : Nat, k < 8 ∧ Int.tmod pc 8 = (k : Int) := ⟨(pc % 8).toNat, by omega, by rw [Int.tmod_eq_emod_of_nonneg p0]; omega⟩
  have hix : ix pc = k := by unfold ix; rw [Int.tmod_eq_emod_of_nonneg p0] at hkm; omega
  rw [hix]
  have hk8' : (k : Int) < 8 := by omega
  have R0 : Ro4 ((w.alloc (.cells (cls S).toArray 63)).alloc (.cells #[.int .i64 0, .bool false] 58)) w.heap.size S := (ro4_block (cur := (cls S).toArray) (heap_alloc_new w _) (fun j v hv => by simpa using hv)).fr (Fr.alloc _ _)
  have hsl := R0.slot k (by omega)
  have HF2 := Lib.hid (show Fr w ((w.alloc (.cells (cls S).toArray 63)).alloc (.cells #[.int .i64 0, .bool false] 58)) by (repeat' first | (with_reducible exact Below.refl _ _) | (with_reducible assumption) | ((with_reducible refine Below.setCell ?_ ?hb _); (case hb => first | exact Nat.le_refl _ | (simp; done) | (simp; omega) | omega)) | ((with_reducible refine Below.alloc ?_ ?hb _); (case hb => first | exact Nat.le_refl _ | (simp; done) | (simp; omega) | omega)) | (with_reducible refine Below.drew ?_)))
  have HZ2 := Lib.hid (Box2.new (w.alloc (.cells (cls S).toArray 63)) (.int .i64 0) (.bool false) 58 (w.heap.size + 1) (by simp))
  have HSL := Lib.hid hsl
  have E := fun u => impl_slot_predict (S.getD k sl0) pc u
  have HE := Lib.hid E
  clear R0 hsl E hix
  obtain ⟨x, hx⟩ : ∃ x, S.getD k sl0 = x := ⟨_, rfl⟩
  rw [hx] at HSL HE ⊢
  clear hx
  obtain ⟨pp, hpp⟩ : ∃ pp, prdP x pc = pp := ⟨_, rfl⟩
  rw [hpp] at HE ⊢
  clear hpp
  go_enter Tryd.func41, Tryd.ntmps41
  go_upto_region 1 with fail
  generalize ((w.alloc (.cells (cls S).toArray 63)).alloc (.cells #[.int .i64 0, .bool false] 58)) = u0 at *
  obtain ⟨d0, d1, d2, d3⟩ := HSL.out
  obtain ⟨xu, xp, xt, xs⟩ := x
  obtain ⟨p1, p2⟩ := pp
  simp only at d0 d1 d2 d3
  go_wp2_with fail
  refine (HE.out _).mono ?_
  rintro e u1 ⟨rfl, f1⟩
  have HF3 := Lib.hid (HF2.out.trans f1)
  obtain ⟨_, z0, z1, zf0, zf1⟩ := HZ2.out.fr f1
  clear f1 HF2 HZ2 d0 d1 d2 d3 HSL
  go_wp2_with fail
  refine bodyPost_ret (v := pv (p1, p2)) (by simp [results, Tryd.results41, go_sem, World.cell?_setCell_other, World.cell?_setCell_same, z0, z1]) rfl ⟨rfl, ?_⟩
  exact fr_but HF3.out ((But.refl _ _).set2 (w.heap.size + 1) _ _ (.inl (by simp)) : But [w.heap.size + 1] _ _) (fun k hk => by have := List.mem_singleton.1 hk; omega)

end Go.Proofs.YtpdlcjjmhcfkjaaDoor
