/- What the laws of chapter 6 call: places measured, copied, compared, marked, held; places that came in. -/
import Derived.Deep.SlicePairs
import Derived.Deep.Grids
import Derived.Test.YtddllgjieccikaaN1
import Derived.Test.YtddllgjieccikaaNbx
import Derived.Test.YtddllgjieccikaaOpenPln
namespace Go.Proofs.Ytddllgjieccikaa
open Go.ChangeShapes Go.WideShapes Go.ChangeAt Go.RowKit
set_option linter.unusedVariables false
set_option linter.unusedSimpArgs false
/-- Rows that places may have. -/
structure BigN (x : Nm) : Prop where
  M : x.M.length ≤ 9223372036854775807
  F : x.F.length ≤ 9223372036854775807
  V : x.V.length ≤ 9223372036854775807
  H : x.H.length ≤ 9223372036854775807
set_option maxHeartbeats 1000000 in
theorem laws_szNam (x : Nm) (aM aF aV aH : Option Addr) (cM cF cV cH : Nat) (left : Int) (w : World) (hb : BigN x) (l0 : 0 ≤ left) (l1 : left ≤ 1048576) :
    Calls Try.prog 23 #[.agg #[.slice aM x.M.length cM, .slice aF x.F.length cF, .slice aV x.V.length cV, .slice aH x.H.length cH], .int .i64 left] w fun e w' => (∃ r : Int, e = .returned (.int .i64 r) ∧ ((0 ≤ r ∧ FewN x) ∨ r = -1)) ∧ Fr w w' := by
  have HF := Lib.hid (Fr.alloc w (.cells #[.slice aM x.M.length cM, .slice aF x.F.length cF, .slice aV x.V.length cV, .slice aH x.H.length cH] 30))
  have h1 := hb.M
  have h2 := hb.F
  have h3 := hb.V
  have h4 := hb.H
  clear hb
  go_enter Try.func23, Try.ntmps23
  go_wp2_with fail
  refine (laws_szIntS _ _ _ _ _ h1 l0 l1).mono ?_
  rintro e w' ⟨⟨r1, rfl, q1⟩, rfl⟩
  rcases q1 with ⟨r10, r11⟩ | ⟨rfl, _⟩
  · have n1 : ¬ r1 < 0 := by omega
    go_wp2_with fail
    refine (laws_szIntS _ _ _ _ _ h2 r10 (by omega)).mono ?_
    rintro e w' ⟨⟨r2, rfl, q2⟩, rfl⟩
    rcases q2 with ⟨r20, r21⟩ | ⟨rfl, _⟩
    · have n2 : ¬ r2 < 0 := by omega
      go_wp2_with fail
      refine (laws_szIntS _ _ _ _ _ h3 r20 (by omega)).mono ?_
      rintro e w' ⟨⟨r3, rfl, q3⟩, rfl⟩
      rcases q3 with ⟨r30, r31⟩ | ⟨rfl, _⟩
      · have n3 : ¬ r3 < 0 := by omega
        go_wp2_with fail
        refine (laws_szBoolS _ _ _ _ _ h4 r30 (by omega)).mono ?_
        rintro e w' ⟨⟨r4, rfl, q4⟩, rfl⟩
        rcases q4 with ⟨r40, r41⟩ | ⟨rfl, _⟩
        · have n4 : ¬ r4 < 0 := by omega
          go_wp2_with fail
          go_ret
          exact ⟨⟨_, rfl, .inl ⟨r40, ⟨by omega, by omega, by omega, by omega⟩⟩⟩, HF.out⟩
        · go_wp2_with fail
          go_ret
          exact ⟨⟨_, rfl, .inr rfl⟩, HF.out⟩
      · go_wp2_with fail
        go_ret
        exact ⟨⟨_, rfl, .inr rfl⟩, HF.out⟩
    · go_wp2_with fail
      go_ret
      exact ⟨⟨_, rfl, .inr rfl⟩, HF.out⟩
  · go_wp2_with fail
    go_ret
    exact ⟨⟨_, rfl, .inr rfl⟩, HF.out⟩
set_option maxRecDepth 4000 in
set_option maxHeartbeats 2000000 in
theorem laws_eqNam_same (u : World) (x : Nm) (aM aF aV aH bM bF bV bH : Option Addr) (cM cF cV cH dM dF dV dH : Nat) (h1 : SrcN u x aM aF aV aH) (h2 : SrcN u x bM bF bV bH) (hn : FewN x) :
    Calls Try.prog 20 #[.agg #[.slice aM x.M.length cM, .slice aF x.F.length cF, .slice aV x.V.length cV, .slice aH x.H.length cH], .agg #[.slice bM x.M.length dM, .slice bF x.F.length dF, .slice bV x.V.length dV, .slice bH x.H.length dH]] u fun e u' => e = .returned (.bool true) ∧ Fr u u' := by
  have F0 : Fr u ((u.alloc (.cells #[.slice aM x.M.length cM, .slice aF x.F.length cF, .slice aV x.V.length cV, .slice aH x.H.length cH] 25)).alloc (.cells #[.slice bM x.M.length dM, .slice bF x.F.length dF, .slice bV x.V.length dV, .slice bH x.H.length dH] 25)) := by (repeat' first | (with_reducible exact Below.refl _ _) | (with_reducible assumption) | ((with_reducible refine Below.setCell ?_ ?hb _); (case hb => first | exact Nat.le_refl _ | (simp; done) | (simp; omega) | omega)) | ((with_reducible refine Below.alloc ?_ ?hb _); (case hb => first | exact Nat.le_refl _ | (simp; done) | (simp; omega) | omega)) | (with_reducible refine Below.drew ?_))
  have H1 := Lib.hid (h1.fr F0)
  have H2 := Lib.hid (h2.fr F0)
  have Y1 : Hid (Box4 ((u.alloc (.cells #[.slice aM x.M.length cM, .slice aF x.F.length cF, .slice aV x.V.length cV, .slice aH x.H.length cH] 25)).alloc (.cells #[.slice bM x.M.length dM, .slice bF x.F.length dF, .slice bV x.V.length dV, .slice bH x.H.length dH] 25)) u.heap.size (.slice aM x.M.length cM) (.slice aF x.F.length cF) (.slice aV x.V.length cV) (.slice aH x.H.length cH)) := Lib.hid ((Box4.new _ _ _ _ _ _ _ rfl).fr (Fr.alloc _ _))
  have Y2 : Hid (Box4 ((u.alloc (.cells #[.slice aM x.M.length cM, .slice aF x.F.length cF, .slice aV x.V.length cV, .slice aH x.H.length cH] 25)).alloc (.cells #[.slice bM x.M.length dM, .slice bF x.F.length dF, .slice bV x.V.length dV, .slice bH x.H.length dH] 25)) (u.heap.size + 1) (.slice bM x.M.length dM) (.slice bF x.F.length dF) (.slice bV x.V.length dV) (.slice bH x.H.length dH)) := Lib.hid (Box4.new _ _ _ _ _ _ _ (by simp))
  have F1 := Lib.hid F0
  clear F0 h1 h2
  go_enter Try.func20, Try.ntmps20
  go_wp2_with fail
  generalize ((u.alloc (.cells #[.slice aM x.M.length cM, .slice aF x.F.length cF, .slice aV x.V.length cV, .slice aH x.H.length cH] 25)).alloc (.cells #[.slice bM x.M.length dM, .slice bF x.F.length dF, .slice bV x.V.length dV, .slice bH x.H.length dH] 25)) = u0 at *
  refine (laws_eqIntSo _ _ (fun i => x.M.getD i 0) _ _ _ _ H1.out.M H2.out.M hn.M).mono ?_
  rintro e u1 ⟨rfl, m, hm⟩
  have f : Fr u0 u1 := by rw [← hm]; exact Below.drewN (Below.refl _ _) _
  replace H1 := Lib.hid (H1.out.fr f)
  replace H2 := Lib.hid (H2.out.fr f)
  replace Y1 := Lib.hid (Y1.out.fr f)
  replace Y2 := Lib.hid (Y2.out.fr f)
  replace F1 := Lib.hid (F1.out.trans f)
  clear f hm m
  obtain ⟨_, x0, x1, x2, x3, _, _, _, _⟩ := Y1.out
  obtain ⟨_, y0, y1, y2, y3, _, _, _, _⟩ := Y2.out
  go_wp2_with fail
  refine (laws_eqIntSo _ _ (fun i => x.F.getD i 0) _ _ _ _ H1.out.F H2.out.F hn.F).mono ?_
  rintro e u2 ⟨rfl, m, hm⟩
  have f : Fr u1 u2 := by rw [← hm]; exact Below.drewN (Below.refl _ _) _
  clear x0 x1 x2 x3 y0 y1 y2 y3
  replace H1 := Lib.hid (H1.out.fr f)
  replace H2 := Lib.hid (H2.out.fr f)
  replace Y1 := Lib.hid (Y1.out.fr f)
  replace Y2 := Lib.hid (Y2.out.fr f)
  replace F1 := Lib.hid (F1.out.trans f)
  clear f hm m
  obtain ⟨_, x0, x1, x2, x3, _, _, _, _⟩ := Y1.out
  obtain ⟨_, y0, y1, y2, y3, _, _, _, _⟩ := Y2.out
  go_wp2_with fail
  refine (laws_eqIntSo _ _ (fun i => x.V.getD i 0) _ _ _ _ H1.out.V H2.out.V hn.V).mono ?_
  rintro e u3 ⟨rfl, m, hm⟩
  have f : Fr u2 u3 := by rw [← hm]; exact Below.drewN (Below.refl _ _) _
  clear x0 x1 x2 x3 y0 y1 y2 y3
  replace H1 := Lib.hid (H1.out.fr f)
  replace H2 := Lib.hid (H2.out.fr f)
  replace Y1 := Lib.hid (Y1.out.fr f)
  replace Y2 := Lib.hid (Y2.out.fr f)
  replace F1 := Lib.hid (F1.out.trans f)
  clear f hm m
  obtain ⟨_, x0, x1, x2, x3, _, _, _, _⟩ := Y1.out
  obtain ⟨_, y0, y1, y2, y3, _, _, _, _⟩ := Y2.out
  go_wp2_with fail
  refine (laws_eqBoolSo _ _ (fun i => x.H.getD i false) _ _ _ _ H1.out.H H2.out.H hn.H).mono ?_
  rintro e u4 ⟨rfl, m, hm⟩
  have f : Fr u3 u4 := by rw [← hm]; exact Below.drewN (Below.refl _ _) _
  clear x0 x1 x2 x3 y0 y1 y2 y3
  replace H1 := Lib.hid (H1.out.fr f)
  replace H2 := Lib.hid (H2.out.fr f)
  replace Y1 := Lib.hid (Y1.out.fr f)
  replace Y2 := Lib.hid (Y2.out.fr f)
  replace F1 := Lib.hid (F1.out.trans f)
  clear f hm m
  clear H1 H2 Y1 Y2
  go_wp2_with fail
  go_ret
  exact ⟨rfl, F1.out⟩
/-- Behind toNamState: the places, in new rows. -/
def ToN (x : Nm) (w : World) (e : Ending) (w' : World) : Prop := ∃ g1 g2 g3 g4, e = .returned (.agg #[.slice (some ⟨g1, 0, none⟩) x.M.length x.M.length, .slice (some ⟨g2, 0, none⟩) x.F.length x.F.length, .slice (some ⟨g3, 0, none⟩) x.V.length x.V.length, .slice (some ⟨g4, 0, none⟩) x.H.length x.H.length]) ∧ VcNm w.heap.size w' x (some ⟨g1, 0, none⟩) (some ⟨g2, 0, none⟩) (some ⟨g3, 0, none⟩) (some ⟨g4, 0, none⟩) ∧ Fr w w'
theorem Vc.but'' {B : Nat} {L : List Nat} {u u' : World} {n : Nat} {c : Nat → Value} {g : Nat} (h : Vc B u n c (some ⟨g, 0, none⟩)) (f : But L u u') (hn : g ∉ L) : Vc B u' n c (some ⟨g, 0, none⟩) := h.but f (fun b e => by cases e; exact hn)
set_option maxRecDepth 4000 in
set_option maxHeartbeats 4000000 in
theorem laws_toNam (x : Nm) (aM aF aV aH : Option Addr) (cM cF cV cH : Nat) (w : World) (h : SrcN w x aM aF aV aH) (hn : FewN x) :
    Calls Try.prog 25 #[.agg #[.slice aM x.M.length cM, .slice aF x.F.length cF, .slice aV x.V.length cV, .slice aH x.H.length cH]] w (ToN x w) := by
  have F0 : Fr w (((w.alloc (.cells #[.slice aM x.M.length cM, .slice aF x.F.length cF, .slice aV x.V.length cV, .slice aH x.H.length cH] 30)).alloc (.cells #[.slice none 0 0, .slice none 0 0, .slice none 0 0, .slice none 0 0] 25)).alloc (.cells #[.slice none 0 0, .slice none 0 0, .slice none 0 0, .slice none 0 0] 25)) := by (repeat' first | (with_reducible exact Below.refl _ _) | (with_reducible assumption) | ((with_reducible refine Below.setCell ?_ ?hb _); (case hb => first | exact Nat.le_refl _ | (simp; done) | (simp; omega) | omega)) | ((with_reducible refine Below.alloc ?_ ?hb _); (case hb => first | exact Nat.le_refl _ | (simp; done) | (simp; omega) | omega)) | (with_reducible refine Below.drew ?_))
  have HF := Lib.hid F0
  have X1 : Hid (Box4 (((w.alloc (.cells #[.slice aM x.M.length cM, .slice aF x.F.length cF, .slice aV x.V.length cV, .slice aH x.H.length cH] 30)).alloc (.cells #[.slice none 0 0, .slice none 0 0, .slice none 0 0, .slice none 0 0] 25)).alloc (.cells #[.slice none 0 0, .slice none 0 0, .slice none 0 0, .slice none 0 0] 25)) w.heap.size (.slice aM x.M.length cM) (.slice aF x.F.length cF) (.slice aV x.V.length cV) (.slice aH x.H.length cH)) := Lib.hid (((Box4.new _ _ _ _ _ _ _ rfl).fr (Fr.alloc _ _)).fr (Fr.alloc _ _))
  have X2 : Hid (Box4 (((w.alloc (.cells #[.slice aM x.M.length cM, .slice aF x.F.length cF, .slice aV x.V.length cV, .slice aH x.H.length cH] 30)).alloc (.cells #[.slice none 0 0, .slice none 0 0, .slice none 0 0, .slice none 0 0] 25)).alloc (.cells #[.slice none 0 0, .slice none 0 0, .slice none 0 0, .slice none 0 0] 25)) (w.heap.size + 1) (.slice none 0 0) (.slice none 0 0) (.slice none 0 0) (.slice none 0 0)) := Lib.hid ((Box4.new _ _ _ _ _ _ _ (by simp)).fr (Fr.alloc _ _))
  have X3 : Hid (Box4 (((w.alloc (.cells #[.slice aM x.M.length cM, .slice aF x.F.length cF, .slice aV x.V.length cV, .slice aH x.H.length cH] 30)).alloc (.cells #[.slice none 0 0, .slice none 0 0, .slice none 0 0, .slice none 0 0] 25)).alloc (.cells #[.slice none 0 0, .slice none 0 0, .slice none 0 0, .slice none 0 0] 25)) (w.heap.size + 2) (.slice none 0 0) (.slice none 0 0) (.slice none 0 0) (.slice none 0 0)) := Lib.hid (Box4.new _ _ _ _ _ _ _ (by simp))
  have HS := Lib.hid h
  have hz : w.heap.size + 3 ≤ (((w.alloc (.cells #[.slice aM x.M.length cM, .slice aF x.F.length cF, .slice aV x.V.length cV, .slice aH x.H.length cH] 30)).alloc (.cells #[.slice none 0 0, .slice none 0 0, .slice none 0 0, .slice none 0 0] 25)).alloc (.cells #[.slice none 0 0, .slice none 0 0, .slice none 0 0, .slice none 0 0] 25)).heap.size := by simp
  clear F0 h
  go_enter Try.func25, Try.ntmps25
  go_wp2_with fail
  generalize (((w.alloc (.cells #[.slice aM x.M.length cM, .slice aF x.F.length cF, .slice aV x.V.length cV, .slice aH x.H.length cH] 30)).alloc (.cells #[.slice none 0 0, .slice none 0 0, .slice none 0 0, .slice none 0 0] 25)).alloc (.cells #[.slice none 0 0, .slice none 0 0, .slice none 0 0, .slice none 0 0] 25)) = u0 at *
  refine (laws_toIntS _ _ _ _ (fun i => x.M.getD i 0) (HS.out.M.fr HF.out) hn.M).mono ?_
  rintro e v0 ⟨g0, rfl, b0, l0, V0, f0⟩
  have hst : But [w.heap.size + 2] v0 (v0.setCell ⟨w.heap.size + 2, 0, none⟩ (.slice (some ⟨g0, 0, none⟩) x.M.length x.M.length)) := (But.refl _ _).set _ _ _ (.inl (by simp))
  have hs0 := f0.size
  obtain ⟨_, x0, x1, x2, x3, _, _, _, _⟩ := X1.out.fr f0
  obtain ⟨_, y0, y1, y2, y3, yf0, yf1, yf2, yf3⟩ := X3.out.fr f0
  replace X1 := Lib.hid ((X1.out.fr f0).but hst (by simp <;> omega))
  replace X2 := Lib.hid ((X2.out.fr f0).but hst (by simp <;> omega))
  replace X3 := Lib.hid ((X3.out.fr f0).t0 (.slice (some ⟨g0, 0, none⟩) x.M.length x.M.length))
  replace HF := Lib.hid (show Fr w _ from fr_but (HF.out.trans f0) hst (fun k hk => by have := List.mem_singleton.1 hk; omega))
  have R0 := Lib.hid ((V0.mono (show w.heap.size ≤ _ by omega)).but'' hst (by simp <;> omega))
  have hz0 : v0.heap.size = (v0.setCell ⟨w.heap.size + 2, 0, none⟩ (.slice (some ⟨g0, 0, none⟩) x.M.length x.M.length)).heap.size := by simp [World.setCell]
  clear hst V0 f0
  go_wp2_with fail
  clear x0 x1 x2 x3 y0 y1 y2 y3 yf0 yf1 yf2 yf3
  generalize (v0.setCell ⟨w.heap.size + 2, 0, none⟩ (.slice (some ⟨g0, 0, none⟩) x.M.length x.M.length)) = u1 at *
  obtain ⟨_, x0, x1, x2, x3, _, _, _, _⟩ := X1.out
  obtain ⟨_, y0, y1, y2, y3, yf0, yf1, yf2, yf3⟩ := X3.out
  refine (laws_toIntS _ _ _ _ (fun i => x.F.getD i 0) (HS.out.F.fr HF.out) hn.F).mono ?_
  rintro e v1 ⟨g1, rfl, b1, l1, V1, f1⟩
  clear x0 x1 x2 x3 y0 y1 y2 y3 yf0 yf1 yf2 yf3
  have hst : But [w.heap.size + 2] v1 (v1.setCell ⟨w.heap.size + 2, 1, none⟩ (.slice (some ⟨g1, 0, none⟩) x.F.length x.F.length)) := (But.refl _ _).set _ _ _ (.inl (by simp))
  have hs1 := f1.size
  obtain ⟨_, x0, x1, x2, x3, _, _, _, _⟩ := X1.out.fr f1
  obtain ⟨_, y0, y1, y2, y3, yf0, yf1, yf2, yf3⟩ := X3.out.fr f1
  replace X1 := Lib.hid ((X1.out.fr f1).but hst (by simp <;> omega))
  replace X2 := Lib.hid ((X2.out.fr f1).but hst (by simp <;> omega))
  replace X3 := Lib.hid ((X3.out.fr f1).t1 (.slice (some ⟨g1, 0, none⟩) x.F.length x.F.length))
  replace HF := Lib.hid (show Fr w _ from fr_but (HF.out.trans f1) hst (fun k hk => by have := List.mem_singleton.1 hk; omega))
  replace R0 := Lib.hid ((R0.out.fr f1).but'' hst (by simp <;> omega))
  have R1 := Lib.hid ((V1.mono (show w.heap.size ≤ _ by omega)).but'' hst (by simp <;> omega))
  have hz1 : v1.heap.size = (v1.setCell ⟨w.heap.size + 2, 1, none⟩ (.slice (some ⟨g1, 0, none⟩) x.F.length x.F.length)).heap.size := by simp [World.setCell]
  clear hst V1 f1
  go_wp2_with fail
  clear x0 x1 x2 x3 y0 y1 y2 y3 yf0 yf1 yf2 yf3
  generalize (v1.setCell ⟨w.heap.size + 2, 1, none⟩ (.slice (some ⟨g1, 0, none⟩) x.F.length x.F.length)) = u2 at *
  obtain ⟨_, x0, x1, x2, x3, _, _, _, _⟩ := X1.out
  obtain ⟨_, y0, y1, y2, y3, yf0, yf1, yf2, yf3⟩ := X3.out
  refine (laws_toIntS _ _ _ _ (fun i => x.V.getD i 0) (HS.out.V.fr HF.out) hn.V).mono ?_
  rintro e v2 ⟨g2, rfl, b2, l2, V2, f2⟩
  clear x0 x1 x2 x3 y0 y1 y2 y3 yf0 yf1 yf2 yf3
  have hst : But [w.heap.size + 2] v2 (v2.setCell ⟨w.heap.size + 2, 2, none⟩ (.slice (some ⟨g2, 0, none⟩) x.V.length x.V.length)) := (But.refl _ _).set _ _ _ (.inl (by simp))
  have hs2 := f2.size
  obtain ⟨_, x0, x1, x2, x3, _, _, _, _⟩ := X1.out.fr f2
  obtain ⟨_, y0, y1, y2, y3, yf0, yf1, yf2, yf3⟩ := X3.out.fr f2
  replace X1 := Lib.hid ((X1.out.fr f2).but hst (by simp <;> omega))
  replace X2 := Lib.hid ((X2.out.fr f2).but hst (by simp <;> omega))
  replace X3 := Lib.hid ((X3.out.fr f2).t2 (.slice (some ⟨g2, 0, none⟩) x.V.length x.V.length))
  replace HF := Lib.hid (show Fr w _ from fr_but (HF.out.trans f2) hst (fun k hk => by have := List.mem_singleton.1 hk; omega))
  replace R0 := Lib.hid ((R0.out.fr f2).but'' hst (by simp <;> omega))
  replace R1 := Lib.hid ((R1.out.fr f2).but'' hst (by simp <;> omega))
  have R2 := Lib.hid ((V2.mono (show w.heap.size ≤ _ by omega)).but'' hst (by simp <;> omega))
  have hz2 : v2.heap.size = (v2.setCell ⟨w.heap.size + 2, 2, none⟩ (.slice (some ⟨g2, 0, none⟩) x.V.length x.V.length)).heap.size := by simp [World.setCell]
  clear hst V2 f2
  go_wp2_with fail
  clear x0 x1 x2 x3 y0 y1 y2 y3 yf0 yf1 yf2 yf3
  generalize (v2.setCell ⟨w.heap.size + 2, 2, none⟩ (.slice (some ⟨g2, 0, none⟩) x.V.length x.V.length)) = u3 at *
  obtain ⟨_, x0, x1, x2, x3, _, _, _, _⟩ := X1.out
  obtain ⟨_, y0, y1, y2, y3, yf0, yf1, yf2, yf3⟩ := X3.out
  refine (laws_toBoolS _ _ _ _ (fun i => x.H.getD i false) (HS.out.H.fr HF.out) hn.H).mono ?_
  rintro e v3 ⟨g3, rfl, b3, l3, V3, f3⟩
  clear x0 x1 x2 x3 y0 y1 y2 y3 yf0 yf1 yf2 yf3
  have hs3 := f3.size
  have hb3 : But [w.heap.size + 1, w.heap.size + 2] v3 (((((v3.setCell ⟨w.heap.size + 2, 3, none⟩ (.slice (some ⟨g3, 0, none⟩) x.H.length x.H.length)).setCell ⟨w.heap.size + 1, 0, none⟩ (.slice (some ⟨g0, 0, none⟩) x.M.length x.M.length)).setCell ⟨w.heap.size + 1, 1, none⟩ (.slice (some ⟨g1, 0, none⟩) x.F.length x.F.length)).setCell ⟨w.heap.size + 1, 2, none⟩ (.slice (some ⟨g2, 0, none⟩) x.V.length x.V.length)).setCell ⟨w.heap.size + 1, 3, none⟩ (.slice (some ⟨g3, 0, none⟩) x.H.length x.H.length)) := ((But.refl _ _).set _ _ _ (.inl (by simp))).set4 _ _ _ _ _ (.inl (by simp))
  obtain ⟨_, y0, y1, y2, y3, yf0, yf1, yf2, yf3⟩ := X3.out.fr f3
  obtain ⟨_, x0, x1, x2, x3, xf0, xf1, xf2, xf3⟩ := X2.out.fr f3
  replace R0 := Lib.hid ((R0.out.fr f3).but'' hb3 (by simp <;> omega))
  replace R1 := Lib.hid ((R1.out.fr f3).but'' hb3 (by simp <;> omega))
  replace R2 := Lib.hid ((R2.out.fr f3).but'' hb3 (by simp <;> omega))
  have R3 := Lib.hid ((V3.mono (show w.heap.size ≤ _ by omega)).but'' hb3 (by simp <;> omega))
  have HFin := Lib.hid (show Fr w _ from fr_but (HF.out.trans f3) hb3 (fun k hk => by simp at hk; omega))
  clear V3 f3 hb3 X1 X2 X3 HF HS
  go_wp2_with fail
  refine bodyPost_ret (v := .agg #[.slice (some ⟨g0, 0, none⟩) x.M.length x.M.length, .slice (some ⟨g1, 0, none⟩) x.F.length x.F.length, .slice (some ⟨g2, 0, none⟩) x.V.length x.V.length, .slice (some ⟨g3, 0, none⟩) x.H.length x.H.length]) (by simp [results, Try.results25, go_sem, World.cell?_setCell_other, World.cell?_setCell_same, x0, x1, x2, x3, y0, y1, y2, y3]) rfl ⟨g0, g1, g2, g3, rfl, VcNm.mk' R0.out.vo R1.out.vo R2.out.vo R3.out.vo (bkS_ap (by omega)) (bkS_ap (by omega)) (bkS_ap (by omega)) (bkS_ap (by omega)) (bkS_ap (by omega)) (bkS_ap (by omega)), HFin.out⟩

end Go.Proofs.Ytddllgjieccikaa
