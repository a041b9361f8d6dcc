/- What the laws of chapter 4 call: machines copied, compared, marked, held. -/
import Derived.Test.YtbjapncfgancoaaDoorPl6
import Derived.StillTailTactics
import Derived.Test.YtbjapncfgancoaaDoorPl4
namespace Go.Proofs.YtbjapncfgancoaaDoor
open Go.RowKit
set_option linter.unusedVariables false
set_option linter.unusedSimpArgs false
/-- A machine that was handed over: its rows may be written, and lie apart. -/
structure VcS (B : Nat) (u : World) (s : St) (aR aC aM : Option Addr) : Prop where
  R : Vc B u s.R.length (ivl s.R) aR
  C : Vc B u s.C.length (ivl s.C) aC
  M : Vc B u s.M.length (ivl s.M) aM
  rc : ∀ b c, aR = some b → aC = some c → b.block ≠ c.block
  rm : ∀ b c, aR = some b → aM = some c → b.block ≠ c.block
  cm : ∀ b c, aC = some b → aM = some c → b.block ≠ c.block
theorem Ro.vc {B : Nat} {u : World} {g : Nat} {xs : List Int} (h : Ro u g xs) (hB : B ≤ g) : Vc B u xs.length (ivl xs) (some ⟨g, 0, none⟩) := ⟨fun _ => ⟨g, rfl, hB, h.lt, h.cel, h.fro⟩⟩
theorem Own.vcs {B : Nat} {u : World} {gr gc gm : Nat} {s : St} (h : Own u gr gc gm s) (h1 : B ≤ gr) (h2 : B ≤ gc) (h3 : B ≤ gm) : VcS B u s (some ⟨gr, 0, none⟩) (some ⟨gc, 0, none⟩) (some ⟨gm, 0, none⟩) :=
  ⟨h.R.vc h1, h.C.vc h2, h.M.vc h3, fun b c hb hc => by cases hb; cases hc; exact h.rc, fun b c hb hc => by cases hb; cases hc; exact h.rm, fun b c hb hc => by cases hb; cases hc; exact h.cm⟩
theorem VcS.fr {B : Nat} {u u' : World} {s : St} {aR aC aM : Option Addr} (h : VcS B u s aR aC aM) (f : Fr u u') : VcS B u' s aR aC aM := ⟨h.R.fr f, h.C.fr f, h.M.fr f, h.rc, h.rm, h.cm⟩
theorem VcS.src {B : Nat} {u : World} {s : St} {aR aC aM : Option Addr} (h : VcS B u s aR aC aM) : SrcS u s aR aC aM := ⟨h.R.src, h.C.src, h.M.src⟩
theorem VcS.mono {B B' : Nat} {u : World} {s : St} {aR aC aM : Option Addr} (h : VcS B u s aR aC aM) (hB : B' ≤ B) : VcS B' u s aR aC aM := ⟨h.R.mono hB, h.C.mono hB, h.M.mono hB, h.rc, h.rm, h.cm⟩
theorem VcS.nil (B : Nat) (u : World) (p : Int) : VcS B u ⟨p, [], [], []⟩ none none none := ⟨Vc.nil _ _ _ _, Vc.nil _ _ _ _, Vc.nil _ _ _ _, fun b c h => (by cases h), fun b c h => (by cases h), fun b c h => (by cases h)⟩
theorem Vc.but {B : Nat} {L : List Nat} {u u' : World} {n : Nat} {c : Nat → Value} {ao : Option Addr} (h : Vc B u n c ao) (f : But L u u') (hn : ∀ b, ao = some b → b.block ∉ L) : Vc B u' n c ao := by
  refine ⟨fun h0 => ?_⟩
  obtain ⟨g, e, b, l, hc, hf⟩ := h.at0 h0
  have hg := hn _ e
  exact ⟨g, e, b, Nat.lt_of_lt_of_le l f.size, fun i hi => by rw [f.cell l hg]; exact hc i hi, fun i hi => by rw [f.frozen l hg]; exact hf i hi⟩
/-- The blocks of a machine's rows. -/
def blks (aR aC aM : Option Addr) : List Nat := (aR.map (·.block)).toList ++ ((aC.map (·.block)).toList ++ (aM.map (·.block)).toList)
theorem mem_blks {aR aC aM : Option Addr} {k : Nat} (h : k ∈ blks aR aC aM) : ∃ b : Addr, b.block = k ∧ (aR = some b ∨ aC = some b ∨ aM = some b) := by
  unfold blks at h
  rw [List.mem_append, List.mem_append] at h
  rcases h with h | h | h
  · cases aR with
    | none => simp at h
    | some b => simp at h; exact ⟨b, h.symm, .inl rfl⟩
  · cases aC with
    | none => simp at h
    | some b => simp at h; exact ⟨b, h.symm, .inr (.inl rfl)⟩
  · cases aM with
    | none => simp at h
    | some b => simp at h; exact ⟨b, h.symm, .inr (.inr rfl)⟩
theorem VcS.but {B : Nat} {L : List Nat} {u u' : World} {s : St} {aR aC aM : Option Addr} (h : VcS B u s aR aC aM) (f : But L u u') (hn : ∀ b, aR = some b ∨ aC = some b ∨ aM = some b → b.block ∉ L) : VcS B u' s aR aC aM :=
  ⟨h.R.but f (fun b e => hn b (.inl e)), h.C.but f (fun b e => hn b (.inr (.inl e))), h.M.but f (fun b e => hn b (.inr (.inr e))), h.rc, h.rm, h.cm⟩
theorem Vc.bel {B B' : Nat} {u u' : World} {n : Nat} {c : Nat → Value} {ao : Option Addr} (h : Vc B u n c ao) (f : Below B' u u') (hn : ∀ b, ao = some b → b.block < B') : Vc B u' n c ao := by
  refine ⟨fun h0 => ?_⟩
  obtain ⟨g, e, b, l, hc, hf⟩ := h.at0 h0
  have hg : g < B' := hn _ e
  exact ⟨g, e, b, Nat.lt_of_lt_of_le l f.size, fun i hi => by rw [f.cell (show g < B' from hg)]; exact hc i hi, fun i hi => by rw [f.frozen (show g < B' from hg)]; exact hf i hi⟩
theorem VcS.bel {B B' : Nat} {u u' : World} {s : St} {aR aC aM : Option Addr} (h : VcS B u s aR aC aM) (f : Below B' u u') (hn : ∀ b, aR = some b ∨ aC = some b ∨ aM = some b → b.block < B') : VcS B u' s aR aC aM :=
  ⟨h.R.bel f (fun b e => hn b (.inl e)), h.C.bel f (fun b e => hn b (.inr (.inl e))), h.M.bel f (fun b e => hn b (.inr (.inr e))), h.rc, h.rm, h.cm⟩
theorem but_row {w w' : World} {row : Option Nat} (h : w.grownBy w' row) : But row.toList w w' :=
  ⟨h.os, h.tape, h.output, h.size, fun k hk hn => h.block k hk (fun e => hn (by rw [← e]; simp))⟩
/-- Not too many rows to be copied. -/
structure Few20 (s : St) : Prop where
  R : s.R.length ≤ 1048576
  C : s.C.length ≤ 1048576
  M : s.M.length ≤ 1048576
theorem Few20.few {s : St} (h : Few20 s) : Few s := ⟨by have := h.R; omega, by have := h.C; omega, by have := h.M; omega⟩
theorem ok_few20 {s : St} (h : OkS s) : Few20 s := ⟨by rw [h.Rl]; decide, by rw [h.Cl]; decide, by rw [h.Ml]; decide⟩
theorem laws_szIntS (ao : Option Addr) (n cap : Nat) (left : Int) (w : World) (hn : n ≤ 9223372036854775807) (l0 : 0 ≤ left) (l1 : left ≤ 1048576) :
    Calls Tryd.prog 45 #[.slice ao n cap, .int .i64 left] w fun e w' => (∃ r : Int, e = .returned (.int .i64 r) ∧ ((0 ≤ r ∧ r + n = left) ∨ (r = -1 ∧ left < n))) ∧ w = w' := by
  have h1 : left - (n : Int) ≤ 9223372036854775807 := by omega
  have h2 : -9223372036854775808 ≤ left - (n : Int) := by omega
  by_cases hlt : left - (n : Int) < 0
  · go_enter Tryd.func45, Tryd.ntmps45
    go_wp2
    go_ret
    exact ⟨⟨-1, rfl, .inr ⟨rfl, by omega⟩⟩, rfl⟩
  · go_enter Tryd.func45, Tryd.ntmps45
    go_wp2
    go_ret
    exact ⟨⟨_, rfl, .inl ⟨by omega, by omega⟩⟩, rfl⟩
set_option maxHeartbeats 1000000 in
theorem laws_szPln (s : St) (aR aC aM : Option Addr) (cR cC cM : Nat) (left : Int) (w : World) (h1 : s.R.length ≤ 9223372036854775807) (h2 : s.C.length ≤ 9223372036854775807) (h3 : s.M.length ≤ 9223372036854775807) (l0 : 0 ≤ left) (l1 : left ≤ 1048576) :
    Calls Tryd.prog 19 #[.agg #[.int .i64 (s).pc, .slice aR (s).R.length cR, .slice aC (s).C.length cC, .slice aM (s).M.length cM], .int .i64 left] w fun e w' => (∃ r : Int, e = .returned (.int .i64 r) ∧ ((0 ≤ r ∧ Few20 s) ∨ r = -1)) ∧ Fr w w' := by
  have HF := Lib.hid (Fr.alloc w (.cells #[.int .i64 s.pc, .slice aR s.R.length cR, .slice aC s.C.length cC, .slice aM s.M.length cM] 24))
  have HZ := Lib.hid (Box4.new w (.int .i64 s.pc) (.slice aR s.R.length cR) (.slice aC s.C.length cC) (.slice aM s.M.length cM) 24 _ rfl)
  go_enter Tryd.func19, Tryd.ntmps19
  go_wp2_with fail
  refine (laws_szIntS _ _ _ _ _ h1 l0 l1).mono ?_
  rintro e w' ⟨⟨r1, rfl, q1⟩, rfl⟩
  rcases q1 with ⟨r10, r11⟩ | ⟨rfl, _⟩
  · have n1 : ¬ r1 < 0 := by omega
    go_wp2_with fail
    refine (laws_szIntS _ _ _ _ _ h2 r10 (by omega)).mono ?_
    rintro e w' ⟨⟨r2, rfl, q2⟩, rfl⟩
    rcases q2 with ⟨r20, r21⟩ | ⟨rfl, _⟩
    · have n2 : ¬ r2 < 0 := by omega
      go_wp2_with fail
      refine (laws_szIntS _ _ _ _ _ h3 r20 (by omega)).mono ?_
      rintro e w' ⟨⟨r3, rfl, q3⟩, rfl⟩
      rcases q3 with ⟨r30, r31⟩ | ⟨rfl, _⟩
      · have n3 : ¬ r3 < 0 := by omega
        go_wp2_with fail
        go_ret
        exact ⟨⟨_, rfl, .inl ⟨r30, ⟨by omega, by omega, by omega⟩⟩⟩, HF.out⟩
      · go_wp2_with fail
        go_ret
        exact ⟨⟨_, rfl, .inr rfl⟩, HF.out⟩
    · go_wp2_with fail
      go_ret
      exact ⟨⟨_, rfl, .inr rfl⟩, HF.out⟩
  · go_wp2_with fail
    go_ret
    exact ⟨⟨_, rfl, .inr rfl⟩, HF.out⟩
set_option maxRecDepth 4000 in
set_option maxHeartbeats 2000000 in
theorem laws_eqPln_same (B1 B2 : Nat) (u : World) (s : St) (aR aC aM bR bC bM : Option Addr) (cR cC cM dR dC dM : Nat) (h1 : VcS B1 u s aR aC aM) (h2 : VcS B2 u s bR bC bM) (hn : Few20 s) :
    Calls Tryd.prog 23 #[.agg #[.int .i64 (s).pc, .slice aR (s).R.length cR, .slice aC (s).C.length cC, .slice aM (s).M.length cM], .agg #[.int .i64 s.pc, .slice bR s.R.length dR, .slice bC s.C.length dC, .slice bM s.M.length dM]] u fun e u' => e = .returned (.bool true) ∧ Fr u u' := by
  have F0 : Fr u ((u.alloc (.cells #[.int .i64 s.pc, .slice aR s.R.length cR, .slice aC s.C.length cC, .slice aM s.M.length cM] 26)).alloc (.cells #[.int .i64 s.pc, .slice bR s.R.length dR, .slice bC s.C.length dC, .slice bM s.M.length dM] 26)) := by (repeat' first | (with_reducible exact Below.refl _ _) | (with_reducible assumption) | ((with_reducible refine Below.setCell ?_ ?hb _); (case hb => first | exact Nat.le_refl _ | (simp; done) | (simp; omega) | omega)) | ((with_reducible refine Below.alloc ?_ ?hb _); (case hb => first | exact Nat.le_refl _ | (simp; done) | (simp; omega) | omega)) | (with_reducible refine Below.drew ?_))
  have H1 := Lib.hid (h1.fr F0)
  have H2 := Lib.hid (h2.fr F0)
  have X1 : Box4 ((u.alloc (.cells #[.int .i64 s.pc, .slice aR s.R.length cR, .slice aC s.C.length cC, .slice aM s.M.length cM] 26)).alloc (.cells #[.int .i64 s.pc, .slice bR s.R.length dR, .slice bC s.C.length dC, .slice bM s.M.length dM] 26)) u.heap.size (.int .i64 s.pc) (.slice aR s.R.length cR) (.slice aC s.C.length cC) (.slice aM s.M.length cM) := (Box4.new _ _ _ _ _ _ _ rfl).fr (Fr.alloc _ _)
  have X2 : Box4 ((u.alloc (.cells #[.int .i64 s.pc, .slice aR s.R.length cR, .slice aC s.C.length cC, .slice aM s.M.length cM] 26)).alloc (.cells #[.int .i64 s.pc, .slice bR s.R.length dR, .slice bC s.C.length dC, .slice bM s.M.length dM] 26)) (u.heap.size + 1) (.int .i64 s.pc) (.slice bR s.R.length dR) (.slice bC s.C.length dC) (.slice bM s.M.length dM) := Box4.new _ _ _ _ _ _ _ (by simp)
  have Y1 := Lib.hid X1
  have Y2 := Lib.hid X2
  have F1 := Lib.hid F0
  clear F0 X1 X2 h1 h2
  go_enter Tryd.func23, Tryd.ntmps23
  go_wp2_with fail
  generalize ((u.alloc (.cells #[.int .i64 s.pc, .slice aR s.R.length cR, .slice aC s.C.length cC, .slice aM s.M.length cM] 26)).alloc (.cells #[.int .i64 s.pc, .slice bR s.R.length dR, .slice bC s.C.length dC, .slice bM s.M.length dM] 26)) = u0 at *
  refine (laws_eqIntS_same _ _ _ _ (fun i => s.R.getD i 0) _ _ _ _ H1.out.R H2.out.R hn.R).mono ?_
  rintro e u1 ⟨rfl, m1, hm1⟩
  have f1 : Fr u0 u1 := by rw [← hm1]; exact Below.drewN (Below.refl _ _) _
  have H3 := Lib.hid (H1.out.fr f1)
  have H4 := Lib.hid (H2.out.fr f1)
  have Y3 := Lib.hid (Y1.out.fr f1)
  have Y4 := Lib.hid (Y2.out.fr f1)
  have F3 := Lib.hid (F1.out.trans f1)
  clear f1 hm1 m1 H1 H2 Y1 Y2 F1
  obtain ⟨_, x0, x1, x2, x3, _, _, _, _⟩ := Y3.out
  obtain ⟨_, y0, y1, y2, y3, _, _, _, _⟩ := Y4.out
  go_wp2_with fail
  refine (laws_eqIntS_same _ _ _ _ (fun i => s.C.getD i 0) _ _ _ _ H3.out.C H4.out.C hn.C).mono ?_
  rintro e u2 ⟨rfl, m2, hm2⟩
  have f2 : Fr u1 u2 := by rw [← hm2]; exact Below.drewN (Below.refl _ _) _
  have H5 := Lib.hid (H3.out.fr f2)
  have H6 := Lib.hid (H4.out.fr f2)
  have Y5 := Lib.hid (Y3.out.fr f2)
  have Y6 := Lib.hid (Y4.out.fr f2)
  have F5 := Lib.hid (F3.out.trans f2)
  clear f2 hm2 m2 H3 H4 Y3 Y4 F3 x0 x1 x2 x3 y0 y1 y2 y3
  obtain ⟨_, x0, x1, x2, x3, _, _, _, _⟩ := Y5.out
  obtain ⟨_, y0, y1, y2, y3, _, _, _, _⟩ := Y6.out
  go_wp2_with fail
  refine (laws_eqIntS_same _ _ _ _ (fun i => s.M.getD i 0) _ _ _ _ H5.out.M H6.out.M hn.M).mono ?_
  rintro e u3 ⟨rfl, m3, hm3⟩
  have f3 : Fr u2 u3 := by rw [← hm3]; exact Below.drewN (Below.refl _ _) _
  have F7 := Lib.hid (F5.out.trans f3)
  clear f3 hm3
  go_wp2_with fail
  go_ret
  exact ⟨rfl, F7.out⟩
/-- Behind toPlnState: the machine, in new rows. -/
def ToP (s : St) (w : World) (e : Ending) (w' : World) : Prop := ∃ gr gc gm, e = .returned (.agg #[.int .i64 s.pc, .slice (some ⟨gr, 0, none⟩) s.R.length s.R.length, .slice (some ⟨gc, 0, none⟩) s.C.length s.C.length, .slice (some ⟨gm, 0, none⟩) s.M.length s.M.length]) ∧ VcS w.heap.size w' s (some ⟨gr, 0, none⟩) (some ⟨gc, 0, none⟩) (some ⟨gm, 0, none⟩) ∧ w.heap.size ≤ gr ∧ w.heap.size ≤ gc ∧ w.heap.size ≤ gm ∧ gr < w'.heap.size ∧ gc < w'.heap.size ∧ gm < w'.heap.size ∧ Fr w w'
/-- Within toPlnState: the argument, the result, the machine that is made. -/
structure Tw (w : World) (s : St) (aR aC aM : Option Addr) (cR cC cM : Nat) (a b c d : Value) (v : World) : Prop where
  fr : Fr w v
  x1 : Box4 v w.heap.size (.int .i64 s.pc) (.slice aR s.R.length cR) (.slice aC s.C.length cC) (.slice aM s.M.length cM)
  x2 : Box4 v (w.heap.size + 1) (.int .i64 0) (.slice none 0 0) (.slice none 0 0) (.slice none 0 0)
  x3 : Box4 v (w.heap.size + 2) a b c d
theorem Tw.fr' {w : World} {s : St} {aR aC aM : Option Addr} {cR cC cM : Nat} {a b c d : Value} {v v' : World} (h : Tw w s aR aC aM cR cC cM a b c d v) (f : Fr v v') : Tw w s aR aC aM cR cC cM a b c d v' := ⟨h.fr.trans f, h.x1.fr f, h.x2.fr f, h.x3.fr f⟩
theorem Box4.set1 {u : World} {g : Nat} {a b c d : Value} (h : Box4 u g a b c d) (x : Value) : Box4 (u.setCell ⟨g, 1, none⟩ x) g a x c d :=
  ⟨by simpa [World.setCell] using h.lt, by rw [World.cell?_setCell_other _ _ _ _ (by simp)]; exact h.c0, World.cell?_setCell_same _ _ _ h.c1, by rw [World.cell?_setCell_other _ _ _ _ (by simp)]; exact h.c2, by rw [World.cell?_setCell_other _ _ _ _ (by simp)]; exact h.c3, by rw [World.frozen?_setCell]; exact h.f0, by rw [World.frozen?_setCell]; exact h.f1, by rw [World.frozen?_setCell]; exact h.f2, by rw [World.frozen?_setCell]; exact h.f3⟩
theorem Box4.set2 {u : World} {g : Nat} {a b c d : Value} (h : Box4 u g a b c d) (x : Value) : Box4 (u.setCell ⟨g, 2, none⟩ x) g a b x d :=
  ⟨by simpa [World.setCell] using h.lt, by rw [World.cell?_setCell_other _ _ _ _ (by simp)]; exact h.c0, by rw [World.cell?_setCell_other _ _ _ _ (by simp)]; exact h.c1, World.cell?_setCell_same _ _ _ h.c2, by rw [World.cell?_setCell_other _ _ _ _ (by simp)]; exact h.c3, by rw [World.frozen?_setCell]; exact h.f0, by rw [World.frozen?_setCell]; exact h.f1, by rw [World.frozen?_setCell]; exact h.f2, by rw [World.frozen?_setCell]; exact h.f3⟩
theorem Box4.set3 {u : World} {g : Nat} {a b c d : Value} (h : Box4 u g a b c d) (x : Value) : Box4 (u.setCell ⟨g, 3, none⟩ x) g a b c x :=
  ⟨by simpa [World.setCell] using h.lt, by rw [World.cell?_setCell_other _ _ _ _ (by simp)]; exact h.c0, by rw [World.cell?_setCell_other _ _ _ _ (by simp)]; exact h.c1, by rw [World.cell?_setCell_other _ _ _ _ (by simp)]; exact h.c2, World.cell?_setCell_same _ _ _ h.c3, by rw [World.frozen?_setCell]; exact h.f0, by rw [World.frozen?_setCell]; exact h.f1, by rw [World.frozen?_setCell]; exact h.f2, by rw [World.frozen?_setCell]; exact h.f3⟩
theorem Box4.oth {u : World} {g : Nat} {a b c d : Value} (h : Box4 u g a b c d) (Z j : Nat) (x : Value) (hz : ¬ Z = g) : Box4 (u.setCell ⟨Z, j, none⟩ x) g a b c d :=
  h.but (L := [Z]) ((But.refl _ _).set Z j x (.inl (by simp))) (by simp; try omega)
theorem tw_set {w : World} {s : St} {aR aC aM : Option Addr} {cR cC cM : Nat} {a b c d : Value} {v : World} (h : Tw w s aR aC aM cR cC cM a b c d v) (j : Nat) (x : Value) {a' b' c' d' : Value} (hb : Box4 (v.setCell ⟨w.heap.size + 2, j, none⟩ x) (w.heap.size + 2) a' b' c' d') : Tw w s aR aC aM cR cC cM a' b' c' d' (v.setCell ⟨w.heap.size + 2, j, none⟩ x) :=
  ⟨Below.setCell h.fr (show w.heap.size ≤ w.heap.size + 2 by omega) _, h.x1.oth _ _ _ (by omega), h.x2.oth _ _ _ (by omega), hb⟩
theorem vc_ro {B : Nat} {u : World} {g : Nat} {xs : List Int} (h : Vc B u xs.length (ivl xs) (some ⟨g, 0, none⟩)) (hl : g < u.heap.size) : Ro u g xs := by
  refine ⟨hl, fun i hi => ?_, fun i hi => ?_⟩
  · obtain ⟨g', e, _, _, hc, _⟩ := h.at0 (by omega)
    cases e
    exact hc i hi
  · obtain ⟨g', e, _, _, _, hf⟩ := h.at0 (by omega)
    cases e
    exact hf i hi
set_option maxRecDepth 4000 in
set_option maxHeartbeats 2000000 in
theorem laws_toPln (s : St) (aR aC aM : Option Addr) (cR cC cM : Nat) (w : World) (h : SrcS w s aR aC aM) (hn : Few20 s) :
    Calls Tryd.prog 21 #[.agg #[.int .i64 (s).pc, .slice aR (s).R.length cR, .slice aC (s).C.length cC, .slice aM (s).M.length cM]] w (ToP s w) := by
  have T0 : Tw w s aR aC aM cR cC cM (.int .i64 s.pc) (.slice none 0 0) (.slice none 0 0) (.slice none 0 0) (((w.alloc (.cells #[.int .i64 s.pc, .slice aR s.R.length cR, .slice aC s.C.length cC, .slice aM s.M.length cM] 24)).alloc (.cells #[.int .i64 0, .slice none 0 0, .slice none 0 0, .slice none 0 0] 26)).alloc (.cells #[.int .i64 s.pc, .slice none 0 0, .slice none 0 0, .slice none 0 0] 26)) :=
    ⟨by (repeat' first | (with_reducible exact Below.refl _ _) | (with_reducible assumption) | ((with_reducible refine Below.setCell ?_ ?hb _); (case hb => first | exact Nat.le_refl _ | (simp; done) | (simp; omega) | omega)) | ((with_reducible refine Below.alloc ?_ ?hb _); (case hb => first | exact Nat.le_refl _ | (simp; done) | (simp; omega) | omega)) | (with_reducible refine Below.drew ?_)), ((Box4.new _ _ _ _ _ _ _ rfl).fr (Fr.alloc _ _)).fr (Fr.alloc _ _), (Box4.new _ _ _ _ _ _ _ (by simp)).fr (Fr.alloc _ _), Box4.new _ _ _ _ _ _ _ (by simp)⟩
  have HT := Lib.hid T0
  have HS := Lib.hid h
  have hz : w.heap.size + 3 = (((w.alloc (.cells #[.int .i64 s.pc, .slice aR s.R.length cR, .slice aC s.C.length cC, .slice aM s.M.length cM] 24)).alloc (.cells #[.int .i64 0, .slice none 0 0, .slice none 0 0, .slice none 0 0] 26)).alloc (.cells #[.int .i64 s.pc, .slice none 0 0, .slice none 0 0, .slice none 0 0] 26)).heap.size := by simp
  clear T0 h
  go_enter Tryd.func21, Tryd.ntmps21
  go_wp2_with fail
  generalize (((w.alloc (.cells #[.int .i64 s.pc, .slice aR s.R.length cR, .slice aC s.C.length cC, .slice aM s.M.length cM] 24)).alloc (.cells #[.int .i64 0, .slice none 0 0, .slice none 0 0, .slice none 0 0] 26)).alloc (.cells #[.int .i64 s.pc, .slice none 0 0, .slice none 0 0, .slice none 0 0] 26)) = v0 at *
  refine (laws_toIntS _ _ _ _ (fun i => s.R.getD i 0) (HS.out.R.fr HT.out.fr) hn.R).mono ?_
  rintro e v1 ⟨g1, rfl, b1, l1, V1, f1⟩
  rw [← hz] at b1
  have T1 := Lib.hid (HT.out.fr' f1)
  have r1 := Lib.hid (vc_ro V1 l1)
  clear HT f1 V1 hz
  obtain ⟨_, x0, x1, x2, x3, _, _, _, _⟩ := T1.out.x1
  obtain ⟨y, y0, y1, y2, y3, y4, y5, y6, y7⟩ := T1.out.x3
  go_wp2_with fail
  have T2 := Lib.hid (tw_set T1.out 1 _ (T1.out.x3.set1 (.slice (some ⟨g1, 0, none⟩) s.R.length s.R.length)))
  have r2 := Lib.hid (r1.out.other (w.heap.size + 2) 1 (.slice (some ⟨g1, 0, none⟩) s.R.length s.R.length) (by omega))
  have hz : v1.heap.size = (v1.setCell ⟨w.heap.size + 2, 1, none⟩ (.slice (some ⟨g1, 0, none⟩) s.R.length s.R.length)).heap.size := by simp [World.setCell]
  clear T1 r1 x0 x1 x2 x3 y y0 y1 y2 y3 y4 y5 y6 y7
  generalize (v1.setCell ⟨w.heap.size + 2, 1, none⟩ (.slice (some ⟨g1, 0, none⟩) s.R.length s.R.length)) = v2 at *
  refine (laws_toIntS _ _ _ _ (fun i => s.C.getD i 0) (HS.out.C.fr T2.out.fr) hn.C).mono ?_
  rintro e v3 ⟨g3, rfl, b3, l3, V3, f3⟩
  rw [← hz] at b3
  have T3 := Lib.hid (T2.out.fr' f3)
  have r3 := Lib.hid (vc_ro V3 l3)
  have r31 := Lib.hid (r2.out.fr f3)
  clear T2 f3 V3 hz r2
  obtain ⟨_, x0, x1, x2, x3, _, _, _, _⟩ := T3.out.x1
  obtain ⟨y, y0, y1, y2, y3, y4, y5, y6, y7⟩ := T3.out.x3
  go_wp2_with fail
  have T4 := Lib.hid (tw_set T3.out 2 _ (T3.out.x3.set2 (.slice (some ⟨g3, 0, none⟩) s.C.length s.C.length)))
  have r4 := Lib.hid (r3.out.other (w.heap.size + 2) 2 (.slice (some ⟨g3, 0, none⟩) s.C.length s.C.length) (by omega))
  have r41 := Lib.hid (r31.out.other (w.heap.size + 2) 2 (.slice (some ⟨g3, 0, none⟩) s.C.length s.C.length) (by omega))
  have hz : v3.heap.size = (v3.setCell ⟨w.heap.size + 2, 2, none⟩ (.slice (some ⟨g3, 0, none⟩) s.C.length s.C.length)).heap.size := by simp [World.setCell]
  clear T3 r3 r31 x0 x1 x2 x3 y y0 y1 y2 y3 y4 y5 y6 y7
  generalize (v3.setCell ⟨w.heap.size + 2, 2, none⟩ (.slice (some ⟨g3, 0, none⟩) s.C.length s.C.length)) = v4 at *
  refine (laws_toIntS _ _ _ _ (fun i => s.M.getD i 0) (HS.out.M.fr T4.out.fr) hn.M).mono ?_
  rintro e v5 ⟨g5, rfl, b5, l5, V5, f5⟩
  rw [← hz] at b5
  have T5 := Lib.hid (T4.out.fr' f5)
  have r5 := Lib.hid (vc_ro V5 l5)
  have r51 := Lib.hid (r4.out.fr f5)
  have r52 := Lib.hid (r41.out.fr f5)
  clear T4 f5 V5 hz r4 r41
  obtain ⟨_, x0, x1, x2, x3, _, _, _, _⟩ := T5.out.x2
  obtain ⟨y, y0, y1, y2, y3, y4, y5, y6, y7⟩ := T5.out.x3
  go_wp2_with fail
  refine bodyPost_ret (v := .agg #[.int .i64 s.pc, .slice (some ⟨g1, 0, none⟩) s.R.length s.R.length, .slice (some ⟨g3, 0, none⟩) s.C.length s.C.length, .slice (some ⟨g5, 0, none⟩) s.M.length s.M.length]) (by simp [results, Tryd.results21, go_sem, x0, x1, x2, x3]) rfl ⟨g1, g3, g5, rfl, ?_, by omega, by omega, by omega, ?_, ?_, ?_, ?_⟩
  · refine Own.vcs (gr := g1) (gc := g3) (gm := g5) ⟨?_, ?_, ?_, by omega, by omega, by omega⟩ (by omega) (by omega) (by omega)
    all_goals
      repeat' refine Ro.other ?_ _ _ _ (by omega)
    · exact r52.out
    · exact r51.out
    · exact r5.out
  · simp [World.setCell]; omega
  · simp [World.setCell]; omega
  · simp [World.setCell]; omega
  · have F := T5.out.fr
    (repeat' first | (with_reducible exact Below.refl _ _) | (with_reducible assumption) | ((with_reducible refine Below.setCell ?_ ?hb _); (case hb => first | exact Nat.le_refl _ | (simp; done) | (simp; omega) | omega)) | ((with_reducible refine Below.alloc ?_ ?hb _); (case hb => first | exact Nat.le_refl _ | (simp; done) | (simp; omega) | omega)) | (with_reducible refine Below.drew ?_))
/-- .. as a value. -/
def ToQ (s : St) (v : Value) (u : World) : Prop := ∃ gr gc gm B, v = .agg #[.int .i64 s.pc, .slice (some ⟨gr, 0, none⟩) s.R.length s.R.length, .slice (some ⟨gc, 0, none⟩) s.C.length s.C.length, .slice (some ⟨gm, 0, none⟩) s.M.length s.M.length] ∧ VcS B u s (some ⟨gr, 0, none⟩) (some ⟨gc, 0, none⟩) (some ⟨gm, 0, none⟩)
theorem ToQ.but {L : List Nat} {s : St} {v : Value} {u u' : World} (h : ToQ s v u) (f : But [] u u') : ToQ s v u' := by
  obtain ⟨gr, gc, gm, B, e, V⟩ := h
  exact ⟨gr, gc, gm, B, e, V.but f (fun b _ => by simp)⟩
/-- A marked machine. -/
structure VcK (B : Nat) (u : World) (nr nc nm : Nat) (k : Int) (aR aC aM : Option Addr) : Prop where
  R : Vc B u nr (fun i => .int .i64 (k + i)) aR
  C : Vc B u nc (fun i => .int .i64 (k + nr + i)) aC
  M : Vc B u nm (fun i => .int .i64 (k + nr + nc + i)) aM
theorem VcK.fr {B : Nat} {u u' : World} {nr nc nm : Nat} {k : Int} {aR aC aM : Option Addr} (h : VcK B u nr nc nm k aR aC aM) (f : Fr u u') : VcK B u' nr nc nm k aR aC aM := ⟨h.R.fr f, h.C.fr f, h.M.fr f⟩
def MkP (B : Nat) (s : St) (aR aC aM : Option Addr) (k : Int) (u : World) (e : Ending) (u' : World) : Prop :=
  e = .returned (.int .i64 (k + s.R.length + s.C.length + s.M.length)) ∧ VcK B u' s.R.length s.C.length s.M.length k aR aC aM ∧ But (blks aR aC aM) u u' ∧ Below B u u'
theorem But.wide {L L' : List Nat} {w w' : World} (h : But L w w') (hL : ∀ k, k ∈ L → k ∈ L') : But L' w w' := ⟨h.os, h.tape, h.output, h.size, fun k hk hn => h.block k hk (fun m => hn (hL k m))⟩
theorem row_ne {a b : Option Addr} (h : ∀ x y, a = some x → b = some y → x.block ≠ y.block) : ∀ x, a = some x → x.block ∉ (b.map (·.block)).toList := by
  intro x hx hm
  cases hb : b with
  | none => rw [hb] at hm; simp at hm
  | some y => rw [hb] at hm; simp at hm; exact h x y hx hb hm
theorem row_nb {g : Nat} {b : Option Addr} (h : ∀ y, b = some y → y.block < g) : g ∉ (b.map (·.block)).toList := by
  intro hm
  cases hb : b with
  | none => rw [hb] at hm; simp at hm
  | some y => rw [hb] at hm; simp at hm; have := h y hb; omega
theorem symm_ne {a b : Option Addr} (h : ∀ x y, a = some x → b = some y → x.block ≠ y.block) : ∀ x y, b = some x → a = some y → x.block ≠ y.block := fun x y hx hy e => h y x hy hx e.symm
set_option maxRecDepth 4000 in
set_option maxHeartbeats 2000000 in
theorem laws_markPln (B : Nat) (s : St) (aR aC aM : Option Addr) (cR cC cM : Nat) (k : Int) (u : World) (h : VcS B u s aR aC aM) (hB : B ≤ u.heap.size) (hn : Few20 s) (k0 : 1 ≤ k) (k1 : k ≤ 1000000) (hR : ∀ b, aR = some b → b.block < u.heap.size) (hC : ∀ b, aC = some b → b.block < u.heap.size) :
    Calls Tryd.prog 25 #[.agg #[.int .i64 (s).pc, .slice aR (s).R.length cR, .slice aC (s).C.length cC, .slice aM (s).M.length cM], .int .i64 k] u (MkP B s aR aC aM k u) := by
  have F0 : Fr u (u.alloc (.cells #[.int .i64 s.pc, .slice aR s.R.length cR, .slice aC s.C.length cC, .slice aM s.M.length cM] 26)) := Fr.alloc _ _
  have X0 : Box4 (u.alloc (.cells #[.int .i64 s.pc, .slice aR s.R.length cR, .slice aC s.C.length cC, .slice aM s.M.length cM] 26)) u.heap.size (.int .i64 s.pc) (.slice aR s.R.length cR) (.slice aC s.C.length cC) (.slice aM s.M.length cM) := Box4.new _ _ _ _ _ _ _ rfl
  have V0 := Lib.hid (h.fr F0)
  have h1 := hn.R
  have h2 := hn.C
  have h3 := hn.M
  have HX := Lib.hid X0
  have HF := Lib.hid F0
  have HR := Lib.hid hR
  have HC := Lib.hid hC
  clear X0 F0 h hn hR hC
  go_enter Tryd.func25, Tryd.ntmps25
  go_wp2_with fail
  generalize (u.alloc (.cells #[.int .i64 s.pc, .slice aR s.R.length cR, .slice aC s.C.length cC, .slice aM s.M.length cM] 26)) = u0 at *
  have hs0 : B ≤ u0.heap.size := Nat.le_trans hB HF.out.size
  refine (laws_markIntS B _ _ (fun i => s.R.getD i 0) _ _ _ V0.out.R hs0 h1 k0 (by omega)).mono ?_
  rintro e u1 ⟨rfl, M1, q1, l1⟩
  have X1 := Lib.hid (HX.out.but (but_row q1) (row_nb HR.out))
  have C1 := Lib.hid (V0.out.C.but (but_row q1) (row_ne (symm_ne V0.out.rc)))
  have A1 := Lib.hid (V0.out.M.but (but_row q1) (row_ne (symm_ne V0.out.rm)))
  have N1 := Lib.hid M1
  have Q1 := Lib.hid (But.wide (L' := blks aR aC aM) (but_row q1) (fun k hk => List.mem_append_left _ hk))
  have L1 := Lib.hid l1
  have hs1 : B ≤ u1.heap.size := Nat.le_trans hs0 q1.size
  clear M1 q1 l1 HX
  obtain ⟨_, x0, x1, x2, x3, _, _, _, _⟩ := X1.out
  go_wp2_with fail
  refine (laws_markIntS B _ _ (fun i => s.C.getD i 0) _ _ _ C1.out hs1 h2 (by omega) (by omega)).mono ?_
  rintro e u2 ⟨rfl, M2, q2, l2⟩
  have X2 := Lib.hid (X1.out.but (but_row q2) (row_nb HC.out))
  have A2 := Lib.hid (A1.out.but (but_row q2) (row_ne (symm_ne V0.out.cm)))
  have N2 := Lib.hid (N1.out.but (but_row q2) (row_ne V0.out.rc))
  have O2 := Lib.hid M2
  have Q2 := Lib.hid (But.wide (L' := blks aR aC aM) (but_row q2) (fun k hk => List.mem_append_right _ (List.mem_append_left _ hk)))
  have L2 := Lib.hid (L1.out.trans l2)
  have hs2 : B ≤ u2.heap.size := Nat.le_trans hs1 q2.size
  clear M2 q2 l2 X1 C1 A1 N1 x0 x1 x2 x3
  obtain ⟨_, x0, x1, x2, x3, _, _, _, _⟩ := X2.out
  go_wp2_with fail
  refine (laws_markIntS B _ _ (fun i => s.M.getD i 0) _ _ _ A2.out hs2 h3 (by omega) (by omega)).mono ?_
  rintro e u3 ⟨rfl, M3, q3, l3⟩
  have N3 := Lib.hid (N2.out.but (but_row q3) (row_ne V0.out.rm))
  have O3 := Lib.hid (O2.out.but (but_row q3) (row_ne V0.out.cm))
  have P3 := Lib.hid M3
  have Q3 := Lib.hid (But.wide (L' := blks aR aC aM) (but_row q3) (fun k hk => List.mem_append_right _ (List.mem_append_right _ hk)))
  have L3 := Lib.hid (L2.out.trans l3)
  clear M3 q3 l3 X2 A2 N2 O2 x0 x1 x2 x3
  go_wp2_with fail
  go_ret
  exact ⟨rfl, ⟨N3.out, O3.out, P3.out⟩, ((But.of HF.out).trans Q1.out).trans (Q2.out.trans Q3.out), (HF.out.mono hB).trans L3.out⟩
set_option maxRecDepth 4000 in
set_option maxHeartbeats 2000000 in
theorem laws_heldPln (B : Nat) (s : St) (aR aC aM : Option Addr) (cR cC cM : Nat) (k : Int) (u : World) (h : VcK B u s.R.length s.C.length s.M.length k aR aC aM) (hn : Few20 s) (k0 : 1 ≤ k) (k1 : k ≤ 1000000) (pc : Int) :
    Calls Tryd.prog 26 #[.agg #[.int .i64 pc, .slice aR s.R.length cR, .slice aC s.C.length cC, .slice aM s.M.length cM], .int .i64 k] u fun e u' => e = .returned (.int .i64 (k + s.R.length + s.C.length + s.M.length)) ∧ Fr u u' := by
  have F0 : Fr u (u.alloc (.cells #[.int .i64 pc, .slice aR s.R.length cR, .slice aC s.C.length cC, .slice aM s.M.length cM] 26)) := Fr.alloc _ _
  have X0 : Box4 (u.alloc (.cells #[.int .i64 pc, .slice aR s.R.length cR, .slice aC s.C.length cC, .slice aM s.M.length cM] 26)) u.heap.size (.int .i64 pc) (.slice aR s.R.length cR) (.slice aC s.C.length cC) (.slice aM s.M.length cM) := Box4.new _ _ _ _ _ _ _ rfl
  have V0 := Lib.hid (h.fr F0)
  have h1 := hn.R
  have h2 := hn.C
  have h3 := hn.M
  have HX := Lib.hid X0
  have HF := Lib.hid F0
  clear X0 F0 h hn
  go_enter Tryd.func26, Tryd.ntmps26
  go_wp2_with fail
  generalize (u.alloc (.cells #[.int .i64 pc, .slice aR s.R.length cR, .slice aC s.C.length cC, .slice aM s.M.length cM] 26)) = u0 at *
  refine (laws_heldIntS B _ _ _ _ _ V0.out.R h1 k0 (by omega)).mono ?_
  rintro e u1 ⟨rfl, f1⟩
  have n1 : ¬ k + (s.R.length : Int) < 0 := by omega
  have X1 := Lib.hid (HX.out.fr f1)
  have V1 := Lib.hid (V0.out.fr f1)
  have F1 := Lib.hid (HF.out.trans f1)
  clear f1 HX V0 HF
  obtain ⟨_, x0, x1, x2, x3, _, _, _, _⟩ := X1.out
  go_wp2_with fail
  refine (laws_heldIntS B _ _ _ _ _ V1.out.C h2 (by omega) (by omega)).mono ?_
  rintro e u2 ⟨rfl, f2⟩
  have n2 : ¬ k + (s.R.length : Int) + (s.C.length : Int) < 0 := by omega
  have X2 := Lib.hid (X1.out.fr f2)
  have V2 := Lib.hid (V1.out.fr f2)
  have F2 := Lib.hid (F1.out.trans f2)
  clear f2 X1 V1 F1 x0 x1 x2 x3
  obtain ⟨_, x0, x1, x2, x3, _, _, _, _⟩ := X2.out
  go_wp2_with fail
  refine (laws_heldIntS B _ _ _ _ _ V2.out.M h3 (by omega) (by omega)).mono ?_
  rintro e u3 ⟨rfl, f3⟩
  have n3 : ¬ k + (s.R.length : Int) + (s.C.length : Int) + (s.M.length : Int) < 0 := by omega
  have F3 := Lib.hid (F2.out.trans f3)
  clear f3 x0 x1 x2 x3
  go_wp2_with fail
  go_ret
  exact ⟨rfl, F3.out⟩

end Go.Proofs.YtbjapncfgancoaaDoor
