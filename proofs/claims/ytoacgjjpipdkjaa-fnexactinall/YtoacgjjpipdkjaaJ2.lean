/- What the laws call on what comes from outside: measured, copied, compared, marked, held. -/
import Derived.Test.YtoacgjjpipdkjaaJ1
import Derived.Test.YtoacgjjpipdkjaaVo
import Derived.Test.YtoacgjjpipdkjaaGh
namespace Go.Proofs.Ytoacgjjpipdkjaa
open Go.RowKit
set_option linter.unusedVariables false
set_option linter.unusedSimpArgs false
theorem laws_szIn (r l : Bool) (a n : Int) (P : List Int) (aP : Option Addr) (cP : Nat) (left : Int) (w : World) (hb : P.length ≤ 9223372036854775807) (l0 : 0 ≤ left) (l1 : left ≤ 1048576) :
    Calls Try.prog 36 #[inv9 r l a n aP P.length cP, .int .i64 left] w fun e w' => (∃ q : Int, e = .returned (.int .i64 q) ∧ ((0 ≤ q ∧ q + P.length = left) ∨ q = -1)) ∧ Fr w w' := by
  have HF := Lib.hid (Fr.alloc w (.cells #[.bool r, .bool l, .int .i64 a, .int .i64 n, .slice aP P.length cP] 43))
  go_enter Try.func36, Try.ntmps36
  go_wp2_with fail
  refine (laws_szIntS _ _ _ _ _ hb l0 l1).mono ?_
  rintro e w' ⟨⟨q, rfl, h⟩, rfl⟩
  rcases h with ⟨r0, r1⟩ | ⟨rfl, _⟩
  · have n1 : ¬ q < 0 := by omega
    go_wp2
    go_ret
    exact ⟨⟨_, rfl, .inl ⟨r0, r1⟩⟩, HF.out⟩
  · go_wp2
    go_ret
    exact ⟨⟨_, rfl, .inr rfl⟩, HF.out⟩
/-- Behind a copy: its row is a new one. -/
def ToI (r l : Bool) (a n : Int) (P : List Int) (w : World) (e : Ending) (w' : World) : Prop := ∃ g, e = .returned (inv9 r l a n (some ⟨g, 0, none⟩) P.length P.length) ∧ w.heap.size ≤ g ∧ g < w'.heap.size ∧ Vc w.heap.size w' P.length (ivl P) (some ⟨g, 0, none⟩) ∧ Fr w w'
set_option maxRecDepth 8000 in
set_option maxHeartbeats 4000000 in
theorem laws_toIn (r l : Bool) (a n : Int) (P : List Int) (aP : Option Addr) (cP : Nat) (w : World) (h : Src w P.length (ivl P) aP) (hn : P.length ≤ 1048576) :
    Calls Try.prog 38 #[inv9 r l a n aP P.length cP] w (ToI r l a n P w) := by
  have HF := Lib.hid (show Fr w (((w.alloc (.cells #[.bool r, .bool l, .int .i64 a, .int .i64 n, .slice aP P.length cP] 43)).alloc (.cells #[.bool false, .bool false, .int .i64 0, .int .i64 0, .slice none 0 0] 46)).alloc (.cells #[.bool false, .bool false, .int .i64 0, .int .i64 0, .slice none 0 0] 46)) by (repeat' first | (with_reducible exact Below.refl _ _) | (with_reducible assumption) | ((with_reducible refine Below.setCell ?_ ?hb _); (case hb => first | exact Nat.le_refl _ | (simp; done) | (simp; omega) | omega)) | ((with_reducible refine Below.alloc ?_ ?hb _); (case hb => first | exact Nat.le_refl _ | (simp; done) | (simp; omega) | omega)) | (with_reducible refine Below.drew ?_)))
  have X1 := Lib.hid (((Box5.new w (.bool r) (.bool l) (.int .i64 a) (.int .i64 n) (.slice aP P.length cP) 43 _ rfl).fr (Fr.alloc _ (.cells #[.bool false, .bool false, .int .i64 0, .int .i64 0, .slice none 0 0] 46))).fr (Fr.alloc _ (.cells #[.bool false, .bool false, .int .i64 0, .int .i64 0, .slice none 0 0] 46)))
  have X2 := Lib.hid ((Box5.new (w.alloc (.cells #[.bool r, .bool l, .int .i64 a, .int .i64 n, .slice aP P.length cP] 43)) (.bool false) (.bool false) (.int .i64 0) (.int .i64 0) (.slice none 0 0) 46 (w.heap.size + 1) (by simp)).fr (Fr.alloc _ (.cells #[.bool false, .bool false, .int .i64 0, .int .i64 0, .slice none 0 0] 46)))
  have X3 := Lib.hid (Box5.new ((w.alloc (.cells #[.bool r, .bool l, .int .i64 a, .int .i64 n, .slice aP P.length cP] 43)).alloc (.cells #[.bool false, .bool false, .int .i64 0, .int .i64 0, .slice none 0 0] 46)) (.bool false) (.bool false) (.int .i64 0) (.int .i64 0) (.slice none 0 0) 46 (w.heap.size + 2) (by simp))
  have hs0 : w.heap.size + 3 ≤ (((w.alloc (.cells #[.bool r, .bool l, .int .i64 a, .int .i64 n, .slice aP P.length cP] 43)).alloc (.cells #[.bool false, .bool false, .int .i64 0, .int .i64 0, .slice none 0 0] 46)).alloc (.cells #[.bool false, .bool false, .int .i64 0, .int .i64 0, .slice none 0 0] 46)).heap.size := by simp
  have HS := Lib.hid h
  clear h
  go_enter Try.func38, Try.ntmps38
  go_upto_region 2 with fail
  generalize (((w.alloc (.cells #[.bool r, .bool l, .int .i64 a, .int .i64 n, .slice aP P.length cP] 43)).alloc (.cells #[.bool false, .bool false, .int .i64 0, .int .i64 0, .slice none 0 0] 46)).alloc (.cells #[.bool false, .bool false, .int .i64 0, .int .i64 0, .slice none 0 0] 46)) = u0 at *
  obtain ⟨_, c0, c1, c2, c3, c4, _, _, _, _, _⟩ := X1.out
  obtain ⟨_, x0, x1, x2, x3, x4, p0, p1, p2, p3, p4⟩ := X3.out
  go_upto_region 6 with fail
  have hst : But [w.heap.size + 2] u0 ((((u0.setCell ⟨w.heap.size + 2, 0, none⟩ (.bool r)).setCell ⟨w.heap.size + 2, 1, none⟩ (.bool l)).setCell ⟨w.heap.size + 2, 2, none⟩ (.int .i64 a)).setCell ⟨w.heap.size + 2, 3, none⟩ (.int .i64 n)) := (((((But.refl _ _).set _ _ _ (.inl (by simp))).set _ _ _ (.inl (by simp))).set _ _ _ (.inl (by simp))).set _ _ _ (.inl (by simp)))
  have Y3 : Hid (Box5 ((((u0.setCell ⟨w.heap.size + 2, 0, none⟩ (.bool r)).setCell ⟨w.heap.size + 2, 1, none⟩ (.bool l)).setCell ⟨w.heap.size + 2, 2, none⟩ (.int .i64 a)).setCell ⟨w.heap.size + 2, 3, none⟩ (.int .i64 n)) (w.heap.size + 2) (.bool r) (.bool l) (.int .i64 a) (.int .i64 n) (.slice none 0 0)) := Lib.hid (by
    have hl := X3.out.lt
    refine ⟨by simpa [World.setCell] using hl, ?_, ?_, ?_, ?_, ?_, ?_, ?_, ?_, ?_, ?_⟩
    all_goals simp [World.frozen?_setCell, World.cell?_setCell_other, World.cell?_setCell_same, x0, x1, x2, x3, x4, p0, p1, p2, p3, p4])
  have Y1 := Lib.hid (X1.out.but hst (by simp))
  have Y2 := Lib.hid (X2.out.but hst (by simp))
  have HF1 := Lib.hid (show Fr w _ from fr_but HF.out hst (fun m hm => by simp at hm; omega))
  have hs1 := hst.size
  clear hst X1 X2 X3 HF c0 c1 c2 c3 c4 x0 x1 x2 x3 x4 p0 p1 p2 p3 p4
  generalize ((((u0.setCell ⟨w.heap.size + 2, 0, none⟩ (.bool r)).setCell ⟨w.heap.size + 2, 1, none⟩ (.bool l)).setCell ⟨w.heap.size + 2, 2, none⟩ (.int .i64 a)).setCell ⟨w.heap.size + 2, 3, none⟩ (.int .i64 n)) = u1 at *
  obtain ⟨_, c0, c1, c2, c3, c4, _, _, _, _, _⟩ := Y1.out
  go_wp2_with fail
  refine (laws_toIntS u1 aP P.length cP (fun i => P.getD i 0) (HS.out.fr HF1.out) hn).mono ?_
  rintro e u2 ⟨g, rfl, hg1, hg2, hV, f2⟩
  have V2 := Lib.hid hV
  have F2 := Lib.hid f2
  have hs2 := f2.size
  have Z3 := Lib.hid (Y3.out.fr f2)
  have Z2 := Lib.hid (Y2.out.fr f2)
  clear hV f2 Y1 Y2 Y3 c0 c1 c2 c3 c4
  obtain ⟨_, x0, x1, x2, x3, x4, p0, p1, p2, p3, p4⟩ := Z3.out
  go_upto_region 7 with fail
  have hst : But [w.heap.size + 2] u2 (u2.setCell ⟨w.heap.size + 2, 4, none⟩ (.slice (some ⟨g, 0, none⟩) P.length P.length)) := (But.refl _ _).set _ _ _ (.inl (by simp))
  have A3 : Hid (Box5 (u2.setCell ⟨w.heap.size + 2, 4, none⟩ (.slice (some ⟨g, 0, none⟩) P.length P.length)) (w.heap.size + 2) (.bool r) (.bool l) (.int .i64 a) (.int .i64 n) (.slice (some ⟨g, 0, none⟩) P.length P.length)) := Lib.hid (by
    have hl := Z3.out.lt
    refine ⟨by simpa [World.setCell] using hl, ?_, ?_, ?_, ?_, ?_, ?_, ?_, ?_, ?_, ?_⟩
    all_goals simp [World.frozen?_setCell, World.cell?_setCell_other, World.cell?_setCell_same, x0, x1, x2, x3, x4, p0, p1, p2, p3, p4])
  have A2 := Lib.hid (Z2.out.but hst (by simp))
  have V3 := Lib.hid (V2.out.but hst (fun b e => by cases e; simp; omega))
  have HF2 := Lib.hid (show Fr w _ from fr_but (Fr.trans HF1.out F2.out) hst (fun m hm => by simp at hm; omega))
  have hs3 := hst.size
  clear hst Z3 Z2 V2 F2 HF1 x0 x1 x2 x3 x4 p0 p1 p2 p3 p4
  generalize (u2.setCell ⟨w.heap.size + 2, 4, none⟩ (.slice (some ⟨g, 0, none⟩) P.length P.length)) = u3 at *
  obtain ⟨_, x0, x1, x2, x3, x4, p0, p1, p2, p3, p4⟩ := A3.out
  obtain ⟨_, y0, y1, y2, y3, y4, q0, q1, q2, q3, q4⟩ := A2.out
  go_wp2
  have hst : But [w.heap.size + 1] u3 (((((u3.setCell ⟨w.heap.size + 1, 0, none⟩ (.bool r)).setCell ⟨w.heap.size + 1, 1, none⟩ (.bool l)).setCell ⟨w.heap.size + 1, 2, none⟩ (.int .i64 a)).setCell ⟨w.heap.size + 1, 3, none⟩ (.int .i64 n)).setCell ⟨w.heap.size + 1, 4, none⟩ (.slice (some ⟨g, 0, none⟩) P.length P.length)) := (But.refl _ _).set5 _ _ _ _ _ _ (.inl (by simp))
  have HY := A2.out.set (.bool r) (.bool l) (.int .i64 a) (.int .i64 n) (.slice (some ⟨g, 0, none⟩) P.length P.length)
  refine bodyPost_ret (v := inv9 r l a n (some ⟨g, 0, none⟩) P.length P.length) (by simp [results, Try.results38, go_sem, HY.c0, HY.c1, HY.c2, HY.c3, HY.c4]) rfl ?_
  exact ⟨g, rfl, by omega, by have := hst.size; omega, (V3.out.but hst (fun b e => by cases e; simp; omega)).mono (by omega), fr_but HF2.out hst (fun m hm => by simp at hm; omega)⟩
set_option maxRecDepth 8000 in
set_option maxHeartbeats 4000000 in
theorem laws_eqIn_same (r l : Bool) (a n : Int) (P : List Int) (a1 a2 : Option Addr) (c1 c2 : Nat) (u : World) (h1 : Src u P.length (ivl P) a1) (h2 : Src u P.length (ivl P) a2) (hn : P.length ≤ 1048576) :
    Calls Try.prog 40 #[inv9 r l a n a1 P.length c1, inv9 r l a n a2 P.length c2] u fun e u' => e = .returned (.bool true) ∧ Fr u u' := by
  have F0 : Fr u ((u.alloc (.cells #[.bool r, .bool l, .int .i64 a, .int .i64 n, .slice a1 P.length c1] 46)).alloc (.cells #[.bool r, .bool l, .int .i64 a, .int .i64 n, .slice a2 P.length c2] 46)) := by (repeat' first | (with_reducible exact Below.refl _ _) | (with_reducible assumption) | ((with_reducible refine Below.setCell ?_ ?hb _); (case hb => first | exact Nat.le_refl _ | (simp; done) | (simp; omega) | omega)) | ((with_reducible refine Below.alloc ?_ ?hb _); (case hb => first | exact Nat.le_refl _ | (simp; done) | (simp; omega) | omega)) | (with_reducible refine Below.drew ?_))
  have HF := Lib.hid F0
  have H1 := Lib.hid (h1.fr F0)
  have H2 := Lib.hid (h2.fr F0)
  clear F0 h1 h2
  go_enter Try.func40, Try.ntmps40
  go_wp2_with fail
  refine (laws_eqIntSo _ _ (fun i => P.getD i 0) _ _ _ _ H1.out H2.out hn).mono ?_
  rintro e u1 ⟨rfl, m, hm⟩
  have f : Fr u u1 := by rw [← hm]; exact Below.trans HF.out (Below.drewN (Below.refl _ _) _)
  have F1 := Lib.hid f
  clear f hm m H1 H2
  go_wp2
  go_ret
  exact ⟨rfl, F1.out⟩
set_option maxHeartbeats 1000000 in
theorem laws_markIn (B : Nat) (r l : Bool) (a n : Int) (P : List Int) (g cP : Nat) (k : Int) (u : World) (h : Vc B u P.length (ivl P) (some ⟨g, 0, none⟩)) (hB : B ≤ u.heap.size) (hn : P.length ≤ 1048576) (k0 : 1 ≤ k) (k1 : k ≤ 1000000) :
    Calls Try.prog 43 #[inv9 r l a n (some ⟨g, 0, none⟩) P.length cP, .int .i64 k] u fun e u' => e = .returned (.int .i64 (k + P.length)) ∧ Vc B u' P.length (fun i => .int .i64 (k + i)) (some ⟨g, 0, none⟩) ∧ But [g] u u' := by
  have F0 : Fr u (u.alloc (.cells #[.bool r, .bool l, .int .i64 a, .int .i64 n, .slice (some ⟨g, 0, none⟩) P.length cP] 46)) := Fr.alloc _ _
  have HF := Lib.hid F0
  have HV := Lib.hid (h.fr F0)
  have HX := Lib.hid (Box5.new u (.bool r) (.bool l) (.int .i64 a) (.int .i64 n) (.slice (some ⟨g, 0, none⟩) P.length cP) 46 _ rfl)
  have hsz : B ≤ (u.alloc (.cells #[.bool r, .bool l, .int .i64 a, .int .i64 n, .slice (some ⟨g, 0, none⟩) P.length cP] 46)).heap.size := by simp; omega
  clear F0 h
  go_enter Try.func43, Try.ntmps43
  go_wp2_with fail
  refine (laws_markIntS B _ P.length (fun i => P.getD i 0) _ _ k HV.out hsz hn k0 (by omega)).mono ?_
  rintro e u1 ⟨rfl, V1, r1, l1⟩
  have B1 := Lib.hid (but_row r1)
  have HV1 := Lib.hid V1
  clear V1 r1 l1 HX HV
  go_wp2
  go_ret
  exact ⟨rfl, HV1.out, (But.trans (But.of HF.out : But [g] u _) (B1.out.mono (fun m hm _ => by simpa using hm)))⟩
set_option maxHeartbeats 1000000 in
theorem laws_heldIn (B : Nat) (r l : Bool) (a n : Int) (m : Nat) (aP : Option Addr) (cP : Nat) (k : Int) (u : World) (h : Vc B u m (fun i => .int .i64 (k + i)) aP) (hn : m ≤ 1048576) (k0 : 1 ≤ k) (k1 : k ≤ 1000000) :
    Calls Try.prog 44 #[inv9 r l a n aP m cP, .int .i64 k] u fun e u' => e = .returned (.int .i64 (k + m)) ∧ Fr u u' := by
  have F0 : Fr u (u.alloc (.cells #[.bool r, .bool l, .int .i64 a, .int .i64 n, .slice aP m cP] 46)) := Fr.alloc _ _
  have HF := Lib.hid F0
  have HV := Lib.hid (h.fr F0)
  clear F0 h
  go_enter Try.func44, Try.ntmps44
  go_wp2_with fail
  refine (laws_heldIntS B _ m aP _ k HV.out hn k0 (by omega)).mono ?_
  rintro e u1 ⟨rfl, f1⟩
  have HF1 := Lib.hid (Fr.trans HF.out f1)
  have hk : ¬ k + (m : Int) < 0 := by omega
  clear f1
  go_wp2
  go_ret
  exact ⟨rfl, HF1.out⟩

end Go.Proofs.Ytoacgjjpipdkjaa
