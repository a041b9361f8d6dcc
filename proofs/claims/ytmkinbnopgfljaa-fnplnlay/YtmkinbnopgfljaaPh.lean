/- What the laws of chapter 4 call: machines copied, compared, marked, held. -/
import Derived.Test.YtmkinbnopgfljaaPl7
namespace Go.Proofs.Ytmkinbnopgfljaa
open Go.RowKit
set_option linter.unusedVariables false
set_option linter.unusedSimpArgs false
/-- A machine that was handed over: its rows may be written, and lie apart. -/
structure VcS (B : Nat) (u : World) (s : St) (aR aC aM : Option Addr) : Prop where
  R : Vc B u s.R.length (ivl s.R) aR
  C : Vc B u s.C.length (ivl s.C) aC
  M : Vc B u s.M.length (ivl s.M) aM
  rc : ∀ b c, aR = some b → aC = some c → b.block ≠ c.block
  rm : ∀ b c, aR = some b → aM = some c → b.block ≠ c.block
  cm : ∀ b c, aC = some b → aM = some c → b.block ≠ c.block
theorem Ro.vc {B : Nat} {u : World} {g : Nat} {xs : List Int} (h : Ro u g xs) (hB : B ≤ g) : Vc B u xs.length (ivl xs) (some ⟨g, 0, none⟩) := ⟨fun _ => ⟨g, rfl, hB, h.lt, h.cel, h.fro⟩⟩
theorem Own.vcs {B : Nat} {u : World} {gr gc gm : Nat} {s : St} (h : Own u gr gc gm s) (h1 : B ≤ gr) (h2 : B ≤ gc) (h3 : B ≤ gm) : VcS B u s (some ⟨gr, 0, none⟩) (some ⟨gc, 0, none⟩) (some ⟨gm, 0, none⟩) :=
  ⟨h.R.vc h1, h.C.vc h2, h.M.vc h3, fun b c hb hc => by cases hb; cases hc; exact h.rc, fun b c hb hc => by cases hb; cases hc; exact h.rm, fun b c hb hc => by cases hb; cases hc; exact h.cm⟩
theorem VcS.fr {B : Nat} {u u' : World} {s : St} {aR aC aM : Option Addr} (h : VcS B u s aR aC aM) (f : Fr u u') : VcS B u' s aR aC aM := ⟨h.R.fr f, h.C.fr f, h.M.fr f, h.rc, h.rm, h.cm⟩
theorem VcS.src {B : Nat} {u : World} {s : St} {aR aC aM : Option Addr} (h : VcS B u s aR aC aM) : SrcS u s aR aC aM := ⟨h.R.src, h.C.src, h.M.src⟩
theorem VcS.mono {B B' : Nat} {u : World} {s : St} {aR aC aM : Option Addr} (h : VcS B u s aR aC aM) (hB : B' ≤ B) : VcS B' u s aR aC aM := ⟨h.R.mono hB, h.C.mono hB, h.M.mono hB, h.rc, h.rm, h.cm⟩
theorem VcS.nil (B : Nat) (u : World) (p : Int) : VcS B u ⟨p, [], [], []⟩ none none none := ⟨Vc.nil _ _ _ _, Vc.nil _ _ _ _, Vc.nil _ _ _ _, fun b c h => (by cases h), fun b c h => (by cases h), fun b c h => (by cases h)⟩
theorem Vc.but {B : Nat} {L : List Nat} {u u' : World} {n : Nat} {c : Nat → Value} {ao : Option Addr} (h : Vc B u n c ao) (f : But L u u') (hn : ∀ b, ao = some b → b.block ∉ L) : Vc B u' n c ao := by
  refine ⟨fun h0 => ?_⟩
  obtain ⟨g, e, b, l, hc, hf⟩ := h.at0 h0
  have hg := hn _ e
  exact ⟨g, e, b, Nat.lt_of_lt_of_le l f.size, fun i hi => by rw [f.cell l hg]; exact hc i hi, fun i hi => by rw [f.frozen l hg]; exact hf i hi⟩
theorem VcS.but {B : Nat} {L : List Nat} {u u' : World} {s : St} {aR aC aM : Option Addr} (h : VcS B u s aR aC aM) (f : But L u u') (hn : ∀ b, aR = some b ∨ aC = some b ∨ aM = some b → b.block ∉ L) : VcS B u' s aR aC aM :=
  ⟨h.R.but f (fun b e => hn b (.inl e)), h.C.but f (fun b e => hn b (.inr (.inl e))), h.M.but f (fun b e => hn b (.inr (.inr e))), h.rc, h.rm, h.cm⟩
theorem Vc.bel {B B' : Nat} {u u' : World} {n : Nat} {c : Nat → Value} {ao : Option Addr} (h : Vc B u n c ao) (f : Below B' u u') (hn : ∀ b, ao = some b → b.block < B') : Vc B u' n c ao := by
  refine ⟨fun h0 => ?_⟩
  obtain ⟨g, e, b, l, hc, hf⟩ := h.at0 h0
  have hg : g < B' := hn _ e
  exact ⟨g, e, b, Nat.lt_of_lt_of_le l f.size, fun i hi => by rw [f.cell (show g < B' from hg)]; exact hc i hi, fun i hi => by rw [f.frozen (show g < B' from hg)]; exact hf i hi⟩
theorem VcS.bel {B B' : Nat} {u u' : World} {s : St} {aR aC aM : Option Addr} (h : VcS B u s aR aC aM) (f : Below B' u u') (hn : ∀ b, aR = some b ∨ aC = some b ∨ aM = some b → b.block < B') : VcS B u' s aR aC aM :=
  ⟨h.R.bel f (fun b e => hn b (.inl e)), h.C.bel f (fun b e => hn b (.inr (.inl e))), h.M.bel f (fun b e => hn b (.inr (.inr e))), h.rc, h.rm, h.cm⟩
theorem but_row {w w' : World} {row : Option Nat} (h : w.grownBy w' row) : But row.toList w w' :=
  ⟨h.os, h.tape, h.output, h.size, fun k hk hn => h.block k hk (fun e => hn (by rw [← e]; simp))⟩
/-- Not too many rows to be copied. -/
structure Few20 (s : St) : Prop where
  R : s.R.length ≤ 1048576
  C : s.C.length ≤ 1048576
  M : s.M.length ≤ 1048576
theorem Few20.few {s : St} (h : Few20 s) : Few s := ⟨by have := h.R; omega, by have := h.C; omega, by have := h.M; omega⟩
theorem ok_few20 {s : St} (h : OkS s) : Few20 s := ⟨by rw [h.Rl]; decide, by rw [h.Cl]; decide, by rw [h.Ml]; decide⟩
set_option maxRecDepth 4000 in
set_option maxHeartbeats 2000000 in
theorem laws_haPln_same (B1 B2 : Nat) (u : World) (s : St) (aR aC aM bR bC bM : Option Addr) (cR cC cM dR dC dM : Nat) (h1 : VcS B1 u s aR aC aM) (h2 : VcS B2 u s bR bC bM) (hn : Few20 s) :
    Calls Try.prog 20 #[.agg #[.int .i64 (s).pc, .slice aR (s).R.length cR, .slice aC (s).C.length cC, .slice aM (s).M.length cM], .agg #[.int .i64 s.pc, .slice bR s.R.length dR, .slice bC s.C.length dC, .slice bM s.M.length dM]] u fun e u' => e = .returned (.bool true) ∧ Fr u u' := by
  have F0 : Fr u ((u.alloc (.cells #[.int .i64 s.pc, .slice aR s.R.length cR, .slice aC s.C.length cC, .slice aM s.M.length cM] 26)).alloc (.cells #[.int .i64 s.pc, .slice bR s.R.length dR, .slice bC s.C.length dC, .slice bM s.M.length dM] 26)) := by (repeat' first | (with_reducible exact Below.refl _ _) | (with_reducible assumption) | ((with_reducible refine Below.setCell ?_ ?hb _); (case hb => first | exact Nat.le_refl _ | (simp; done) | (simp; omega) | omega)) | ((with_reducible refine Below.alloc ?_ ?hb _); (case hb => first | exact Nat.le_refl _ | (simp; done) | (simp; omega) | omega)) | (with_reducible refine Below.drew ?_))
  have H1 := Lib.hid (h1.fr F0)
  have H2 := Lib.hid (h2.fr F0)
  have X1 : Box4 ((u.alloc (.cells #[.int .i64 s.pc, .slice aR s.R.length cR, .slice aC s.C.length cC, .slice aM s.M.length cM] 26)).alloc (.cells #[.int .i64 s.pc, .slice bR s.R.length dR, .slice bC s.C.length dC, .slice bM s.M.length dM] 26)) u.heap.size (.int .i64 s.pc) (.slice aR s.R.length cR) (.slice aC s.C.length cC) (.slice aM s.M.length cM) := (Box4.new _ _ _ _ _ _ _ rfl).fr (Fr.alloc _ _)
  have X2 : Box4 ((u.alloc (.cells #[.int .i64 s.pc, .slice aR s.R.length cR, .slice aC s.C.length cC, .slice aM s.M.length cM] 26)).alloc (.cells #[.int .i64 s.pc, .slice bR s.R.length dR, .slice bC s.C.length dC, .slice bM s.M.length dM] 26)) (u.heap.size + 1) (.int .i64 s.pc) (.slice bR s.R.length dR) (.slice bC s.C.length dC) (.slice bM s.M.length dM) := Box4.new _ _ _ _ _ _ _ (by simp)
  have Y1 := Lib.hid X1
  have Y2 := Lib.hid X2
  have F1 := Lib.hid F0
  clear F0 X1 X2 h1 h2
  go_enter Try.func20, Try.ntmps20
  go_wp2_with fail
  generalize ((u.alloc (.cells #[.int .i64 s.pc, .slice aR s.R.length cR, .slice aC s.C.length cC, .slice aM s.M.length cM] 26)).alloc (.cells #[.int .i64 s.pc, .slice bR s.R.length dR, .slice bC s.C.length dC, .slice bM s.M.length dM] 26)) = u0 at *
  refine (laws_haInts_same _ _ _ _ (fun i => s.R.getD i 0) _ _ _ _ H1.out.R H2.out.R hn.R).mono ?_
  rintro e u1 ⟨rfl, m1, hm1⟩
  have f1 : Fr u0 u1 := by rw [← hm1]; exact Below.drewN (Below.refl _ _) _
  have H3 := Lib.hid (H1.out.fr f1)
  have H4 := Lib.hid (H2.out.fr f1)
  have Y3 := Lib.hid (Y1.out.fr f1)
  have Y4 := Lib.hid (Y2.out.fr f1)
  have F3 := Lib.hid (F1.out.trans f1)
  clear f1 hm1 m1 H1 H2 Y1 Y2 F1
  obtain ⟨_, x0, x1, x2, x3, _, _, _, _⟩ := Y3.out
  obtain ⟨_, y0, y1, y2, y3, _, _, _, _⟩ := Y4.out
  go_wp2_with fail
  refine (laws_haInts_same _ _ _ _ (fun i => s.C.getD i 0) _ _ _ _ H3.out.C H4.out.C hn.C).mono ?_
  rintro e u2 ⟨rfl, m2, hm2⟩
  have f2 : Fr u1 u2 := by rw [← hm2]; exact Below.drewN (Below.refl _ _) _
  have H5 := Lib.hid (H3.out.fr f2)
  have H6 := Lib.hid (H4.out.fr f2)
  have Y5 := Lib.hid (Y3.out.fr f2)
  have Y6 := Lib.hid (Y4.out.fr f2)
  have F5 := Lib.hid (F3.out.trans f2)
  clear f2 hm2 m2 H3 H4 Y3 Y4 F3 x0 x1 x2 x3 y0 y1 y2 y3
  obtain ⟨_, x0, x1, x2, x3, _, _, _, _⟩ := Y5.out
  obtain ⟨_, y0, y1, y2, y3, _, _, _, _⟩ := Y6.out
  go_wp2_with fail
  refine (laws_haInts_same _ _ _ _ (fun i => s.M.getD i 0) _ _ _ _ H5.out.M H6.out.M hn.M).mono ?_
  rintro e u3 ⟨rfl, m3, hm3⟩
  have f3 : Fr u2 u3 := by rw [← hm3]; exact Below.drewN (Below.refl _ _) _
  have F7 := Lib.hid (F5.out.trans f3)
  clear f3 hm3
  go_wp2_with fail
  go_ret
  exact ⟨rfl, F7.out⟩
theorem Box4.put0 {u : World} {g : Nat} {a b c d : Value} (h : Box4 u g a b c d) (x : Value) : Box4 (u.setCell ⟨g, 0, none⟩ x) g x b c d :=
  ⟨by simpa [World.setCell] using h.lt, World.cell?_setCell_same _ _ _ h.c0, by rw [World.cell?_setCell_other _ _ _ _ (by simp)]; exact h.c1, by rw [World.cell?_setCell_other _ _ _ _ (by simp)]; exact h.c2, by rw [World.cell?_setCell_other _ _ _ _ (by simp)]; exact h.c3, by rw [World.frozen?_setCell]; exact h.f0, by rw [World.frozen?_setCell]; exact h.f1, by rw [World.frozen?_setCell]; exact h.f2, by rw [World.frozen?_setCell]; exact h.f3⟩
theorem Box4.set1 {u : World} {g : Nat} {a b c d : Value} (h : Box4 u g a b c d) (x : Value) : Box4 (u.setCell ⟨g, 1, none⟩ x) g a x c d :=
  ⟨by simpa [World.setCell] using h.lt, by rw [World.cell?_setCell_other _ _ _ _ (by simp)]; exact h.c0, World.cell?_setCell_same _ _ _ h.c1, by rw [World.cell?_setCell_other _ _ _ _ (by simp)]; exact h.c2, by rw [World.cell?_setCell_other _ _ _ _ (by simp)]; exact h.c3, by rw [World.frozen?_setCell]; exact h.f0, by rw [World.frozen?_setCell]; exact h.f1, by rw [World.frozen?_setCell]; exact h.f2, by rw [World.frozen?_setCell]; exact h.f3⟩
theorem Box4.set2 {u : World} {g : Nat} {a b c d : Value} (h : Box4 u g a b c d) (x : Value) : Box4 (u.setCell ⟨g, 2, none⟩ x) g a b x d :=
  ⟨by simpa [World.setCell] using h.lt, by rw [World.cell?_setCell_other _ _ _ _ (by simp)]; exact h.c0, by rw [World.cell?_setCell_other _ _ _ _ (by simp)]; exact h.c1, World.cell?_setCell_same _ _ _ h.c2, by rw [World.cell?_setCell_other _ _ _ _ (by simp)]; exact h.c3, by rw [World.frozen?_setCell]; exact h.f0, by rw [World.frozen?_setCell]; exact h.f1, by rw [World.frozen?_setCell]; exact h.f2, by rw [World.frozen?_setCell]; exact h.f3⟩
theorem Box4.set3 {u : World} {g : Nat} {a b c d : Value} (h : Box4 u g a b c d) (x : Value) : Box4 (u.setCell ⟨g, 3, none⟩ x) g a b c x :=
  ⟨by simpa [World.setCell] using h.lt, by rw [World.cell?_setCell_other _ _ _ _ (by simp)]; exact h.c0, by rw [World.cell?_setCell_other _ _ _ _ (by simp)]; exact h.c1, by rw [World.cell?_setCell_other _ _ _ _ (by simp)]; exact h.c2, World.cell?_setCell_same _ _ _ h.c3, by rw [World.frozen?_setCell]; exact h.f0, by rw [World.frozen?_setCell]; exact h.f1, by rw [World.frozen?_setCell]; exact h.f2, by rw [World.frozen?_setCell]; exact h.f3⟩
theorem Box4.oth {u : World} {g : Nat} {a b c d : Value} (h : Box4 u g a b c d) (Z j : Nat) (x : Value) (hz : ¬ Z = g) : Box4 (u.setCell ⟨Z, j, none⟩ x) g a b c d :=
  h.but (L := [Z]) ((But.refl _ _).set Z j x (.inl (by simp))) (by simp; try omega)
theorem Ro.low {B : Nat} {u u' : World} {g : Nat} {xs : List Int} (h : Ro u g xs) (f : Below B u u') (hg : g < B) : Ro u' g xs :=
  ⟨Nat.lt_of_lt_of_le h.lt f.size, fun i hi => by rw [f.cell (show g < B from hg)]; exact h.cel i hi, fun i hi => by rw [f.frozen (show g < B from hg)]; exact h.fro i hi⟩
/-- .. as a value. -/
def ToQ (s : St) (v : Value) (u : World) : Prop := ∃ gr gc gm B, v = .agg #[.int .i64 s.pc, .slice (some ⟨gr, 0, none⟩) s.R.length s.R.length, .slice (some ⟨gc, 0, none⟩) s.C.length s.C.length, .slice (some ⟨gm, 0, none⟩) s.M.length s.M.length] ∧ VcS B u s (some ⟨gr, 0, none⟩) (some ⟨gc, 0, none⟩) (some ⟨gm, 0, none⟩)
theorem ToQ.but {L : List Nat} {s : St} {v : Value} {u u' : World} (h : ToQ s v u) (f : But [] u u') : ToQ s v u' := by
  obtain ⟨gr, gc, gm, B, e, V⟩ := h
  exact ⟨gr, gc, gm, B, e, V.but f (fun b _ => by simp)⟩
/-- A marked machine. -/
structure VcK (B : Nat) (u : World) (nr nc nm : Nat) (k : Int) (aR aC aM : Option Addr) : Prop where
  R : Vc B u nr (fun i => .int .i64 (k + i)) aR
  C : Vc B u nc (fun i => .int .i64 (k + nr + i)) aC
  M : Vc B u nm (fun i => .int .i64 (k + nr + nc + i)) aM
theorem VcK.fr {B : Nat} {u u' : World} {nr nc nm : Nat} {k : Int} {aR aC aM : Option Addr} (h : VcK B u nr nc nm k aR aC aM) (f : Fr u u') : VcK B u' nr nc nm k aR aC aM := ⟨h.R.fr f, h.C.fr f, h.M.fr f⟩
end Go.Proofs.Ytmkinbnopgfljaa
