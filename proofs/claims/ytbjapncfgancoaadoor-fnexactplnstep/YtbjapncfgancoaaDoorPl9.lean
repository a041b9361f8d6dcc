/- What lies in memory beside a machine while the model steps: an instruction, an event; the next place. -/
import Derived.Test.YtbjapncfgancoaaDoorPl8
namespace Go.Proofs.YtbjapncfgancoaaDoor
open Go.RowKit
set_option linter.unusedVariables false
set_option linter.unusedSimpArgs false
theorem Box.but {L : List Nat} {u u' : World} {g : Nat} {k d a b f n : Int} (h : Box u g k d a b f n) (hb : But L u u') (hn : g ∉ L) : Box u' g k d a b f n :=
  ⟨(hb.cell h.lt hn).trans h.c0, (hb.cell h.lt hn).trans h.c1, (hb.cell h.lt hn).trans h.c2, (hb.cell h.lt hn).trans h.c3, (hb.cell h.lt hn).trans h.c4, (hb.cell h.lt hn).trans h.c5⟩
theorem Box.alloc {u : World} {g : Nat} {k d a b f n : Int} (h : Box u g k d a b f n) (o : Obj) : Box (u.alloc o) g k d a b f n := h.fr (Fr.alloc _ _)
theorem Box.other {u : World} {g : Nat} {k d a b f n : Int} (h : Box u g k d a b f n) (Z j : Nat) (v : Value) (hz : ¬ Z = g) : Box (u.setCell ⟨Z, j, none⟩ v) g k d a b f n :=
  h.but (L := [Z]) ((But.refl _ _).set Z j v (.inl (by simp))) (by simp; try omega)
theorem Box.new6 (w : World) (k d a b f n : Int) (t : TypeId) (g : Nat) (hg : w.heap.size = g) : Box (w.alloc (.cells #[.int .i64 k, .int .i64 d, .int .i64 a, .int .i64 b, .int .i64 f, .int .i64 n] t)) g k d a b f n := by
  subst hg; exact Box.new w k d a b f n t
/-- An event lies in block g, and may be written. -/
structure Box7 (u : World) (g : Nat) (e : Ev) : Prop where
  lt : g < u.heap.size
  c0 : u.cell? ⟨g, 0, none⟩ = some (.int .i64 e.pc)
  c1 : u.cell? ⟨g, 1, none⟩ = some (.int .i64 e.w)
  c2 : u.cell? ⟨g, 2, none⟩ = some (.int .i64 e.why)
  c3 : u.cell? ⟨g, 3, none⟩ = some (.int .i64 e.d)
  c4 : u.cell? ⟨g, 4, none⟩ = some (.int .i64 e.v)
  c5 : u.cell? ⟨g, 5, none⟩ = some (.int .i64 e.ad)
  c6 : u.cell? ⟨g, 6, none⟩ = some (.int .i64 e.dt)
  f0 : u.frozen? ⟨g, 0, none⟩ = false
  f1 : u.frozen? ⟨g, 1, none⟩ = false
  f2 : u.frozen? ⟨g, 2, none⟩ = false
  f3 : u.frozen? ⟨g, 3, none⟩ = false
  f4 : u.frozen? ⟨g, 4, none⟩ = false
  f5 : u.frozen? ⟨g, 5, none⟩ = false
  f6 : u.frozen? ⟨g, 6, none⟩ = false
theorem Box7.but {L : List Nat} {u u' : World} {g : Nat} {e : Ev} (h : Box7 u g e) (f : But L u u') (hn : g ∉ L) : Box7 u' g e :=
  ⟨Nat.lt_of_lt_of_le h.lt f.size, (f.cell h.lt hn).trans h.c0, (f.cell h.lt hn).trans h.c1, (f.cell h.lt hn).trans h.c2, (f.cell h.lt hn).trans h.c3, (f.cell h.lt hn).trans h.c4, (f.cell h.lt hn).trans h.c5, (f.cell h.lt hn).trans h.c6, (f.frozen h.lt hn).trans h.f0, (f.frozen h.lt hn).trans h.f1, (f.frozen h.lt hn).trans h.f2, (f.frozen h.lt hn).trans h.f3, (f.frozen h.lt hn).trans h.f4, (f.frozen h.lt hn).trans h.f5, (f.frozen h.lt hn).trans h.f6⟩
theorem Box7.fr {u u' : World} {g : Nat} {e : Ev} (h : Box7 u g e) (f : Fr u u') : Box7 u' g e := h.but (L := []) (But.of f) (by simp)
theorem Box7.alloc {u : World} {g : Nat} {e : Ev} (h : Box7 u g e) (o : Obj) : Box7 (u.alloc o) g e := h.fr (Fr.alloc _ _)
theorem Box7.drew {u : World} {g : Nat} {e : Ev} (h : Box7 u g e) : Box7 u.drew g e := h.but (L := []) (But.refl _ _).drew (by simp)
theorem Box7.drewN {u : World} {g : Nat} {e : Ev} (h : Box7 u g e) (n : Nat) : Box7 (u.drewN n) g e := h.but (L := []) ((But.refl _ _).drewN n) (by simp)
theorem Box7.other {u : World} {g : Nat} {e : Ev} (h : Box7 u g e) (Z j : Nat) (v : Value) (hz : ¬ Z = g) : Box7 (u.setCell ⟨Z, j, none⟩ v) g e :=
  h.but (L := [Z]) ((But.refl _ _).set Z j v (.inl (by simp))) (by simp; try omega)
theorem Box7.new (w : World) (e : Ev) (t : TypeId) (n : Nat) (hn : w.heap.size = n) : Box7 (w.alloc (.cells #[.int .i64 e.pc, .int .i64 e.w, .int .i64 e.why, .int .i64 e.d, .int .i64 e.v, .int .i64 e.ad, .int .i64 e.dt] t)) n e := by
  subst hn
  exact ⟨by simp, (alloc_at w _ t _ rfl 0).1, (alloc_at w _ t _ rfl 1).1, (alloc_at w _ t _ rfl 2).1, (alloc_at w _ t _ rfl 3).1, (alloc_at w _ t _ rfl 4).1, (alloc_at w _ t _ rfl 5).1, (alloc_at w _ t _ rfl 6).1, (alloc_at w _ t _ rfl 0).2, (alloc_at w _ t _ rfl 1).2, (alloc_at w _ t _ rfl 2).2, (alloc_at w _ t _ rfl 3).2, (alloc_at w _ t _ rfl 4).2, (alloc_at w _ t _ rfl 5).2, (alloc_at w _ t _ rfl 6).2⟩
theorem Box7.newv (w : World) (a b c d x y z : Int) (t : TypeId) (n : Nat) (hn : w.heap.size = n) : Box7 (w.alloc (.cells #[.int .i64 a, .int .i64 b, .int .i64 c, .int .i64 d, .int .i64 x, .int .i64 y, .int .i64 z] t)) n ⟨a, b, c, d, x, y, z⟩ := Box7.new w ⟨a, b, c, d, x, y, z⟩ t n hn
theorem Box7.set0 {u : World} {g : Nat} {e : Ev} (h : Box7 u g e) (v : Int) : Box7 (u.setCell ⟨g, 0, none⟩ (.int .i64 v)) g { e with pc := v } := by
  refine ⟨by simpa [World.setCell] using h.lt, World.cell?_setCell_same _ _ _ h.c0, (World.cell?_setCell_other _ _ _ _ (by simp)).trans h.c1, (World.cell?_setCell_other _ _ _ _ (by simp)).trans h.c2, (World.cell?_setCell_other _ _ _ _ (by simp)).trans h.c3, (World.cell?_setCell_other _ _ _ _ (by simp)).trans h.c4, (World.cell?_setCell_other _ _ _ _ (by simp)).trans h.c5, (World.cell?_setCell_other _ _ _ _ (by simp)).trans h.c6, (World.frozen?_setCell _ _ _ _).trans h.f0, (World.frozen?_setCell _ _ _ _).trans h.f1, (World.frozen?_setCell _ _ _ _).trans h.f2, (World.frozen?_setCell _ _ _ _).trans h.f3, (World.frozen?_setCell _ _ _ _).trans h.f4, (World.frozen?_setCell _ _ _ _).trans h.f5, (World.frozen?_setCell _ _ _ _).trans h.f6⟩
theorem Box7.set1 {u : World} {g : Nat} {e : Ev} (h : Box7 u g e) (v : Int) : Box7 (u.setCell ⟨g, 1, none⟩ (.int .i64 v)) g { e with w := v } := by
  refine ⟨by simpa [World.setCell] using h.lt, (World.cell?_setCell_other _ _ _ _ (by simp)).trans h.c0, World.cell?_setCell_same _ _ _ h.c1, (World.cell?_setCell_other _ _ _ _ (by simp)).trans h.c2, (World.cell?_setCell_other _ _ _ _ (by simp)).trans h.c3, (World.cell?_setCell_other _ _ _ _ (by simp)).trans h.c4, (World.cell?_setCell_other _ _ _ _ (by simp)).trans h.c5, (World.cell?_setCell_other _ _ _ _ (by simp)).trans h.c6, (World.frozen?_setCell _ _ _ _).trans h.f0, (World.frozen?_setCell _ _ _ _).trans h.f1, (World.frozen?_setCell _ _ _ _).trans h.f2, (World.frozen?_setCell _ _ _ _).trans h.f3, (World.frozen?_setCell _ _ _ _).trans h.f4, (World.frozen?_setCell _ _ _ _).trans h.f5, (World.frozen?_setCell _ _ _ _).trans h.f6⟩
theorem Box7.set2 {u : World} {g : Nat} {e : Ev} (h : Box7 u g e) (v : Int) : Box7 (u.setCell ⟨g, 2, none⟩ (.int .i64 v)) g { e with why := v } := by
  refine ⟨by simpa [World.setCell] using h.lt, (World.cell?_setCell_other _ _ _ _ (by simp)).trans h.c0, (World.cell?_setCell_other _ _ _ _ (by simp)).trans h.c1, World.cell?_setCell_same _ _ _ h.c2, (World.cell?_setCell_other _ _ _ _ (by simp)).trans h.c3, (World.cell?_setCell_other _ _ _ _ (by simp)).trans h.c4, (World.cell?_setCell_other _ _ _ _ (by simp)).trans h.c5, (World.cell?_setCell_other _ _ _ _ (by simp)).trans h.c6, (World.frozen?_setCell _ _ _ _).trans h.f0, (World.frozen?_setCell _ _ _ _).trans h.f1, (World.frozen?_setCell _ _ _ _).trans h.f2, (World.frozen?_setCell _ _ _ _).trans h.f3, (World.frozen?_setCell _ _ _ _).trans h.f4, (World.frozen?_setCell _ _ _ _).trans h.f5, (World.frozen?_setCell _ _ _ _).trans h.f6⟩
theorem Box7.set3 {u : World} {g : Nat} {e : Ev} (h : Box7 u g e) (v : Int) : Box7 (u.setCell ⟨g, 3, none⟩ (.int .i64 v)) g { e with d := v } := by
  refine ⟨by simpa [World.setCell] using h.lt, (World.cell?_setCell_other _ _ _ _ (by simp)).trans h.c0, (World.cell?_setCell_other _ _ _ _ (by simp)).trans h.c1, (World.cell?_setCell_other _ _ _ _ (by simp)).trans h.c2, World.cell?_setCell_same _ _ _ h.c3, (World.cell?_setCell_other _ _ _ _ (by simp)).trans h.c4, (World.cell?_setCell_other _ _ _ _ (by simp)).trans h.c5, (World.cell?_setCell_other _ _ _ _ (by simp)).trans h.c6, (World.frozen?_setCell _ _ _ _).trans h.f0, (World.frozen?_setCell _ _ _ _).trans h.f1, (World.frozen?_setCell _ _ _ _).trans h.f2, (World.frozen?_setCell _ _ _ _).trans h.f3, (World.frozen?_setCell _ _ _ _).trans h.f4, (World.frozen?_setCell _ _ _ _).trans h.f5, (World.frozen?_setCell _ _ _ _).trans h.f6⟩
theorem Box7.set4 {u : World} {g : Nat} {e : Ev} (h : Box7 u g e) (v : Int) : Box7 (u.setCell ⟨g, 4, none⟩ (.int .i64 v)) g { e with v := v } := by
  refine ⟨by simpa [World.setCell] using h.lt, (World.cell?_setCell_other _ _ _ _ (by simp)).trans h.c0, (World.cell?_setCell_other _ _ _ _ (by simp)).trans h.c1, (World.cell?_setCell_other _ _ _ _ (by simp)).trans h.c2, (World.cell?_setCell_other _ _ _ _ (by simp)).trans h.c3, World.cell?_setCell_same _ _ _ h.c4, (World.cell?_setCell_other _ _ _ _ (by simp)).trans h.c5, (World.cell?_setCell_other _ _ _ _ (by simp)).trans h.c6, (World.frozen?_setCell _ _ _ _).trans h.f0, (World.frozen?_setCell _ _ _ _).trans h.f1, (World.frozen?_setCell _ _ _ _).trans h.f2, (World.frozen?_setCell _ _ _ _).trans h.f3, (World.frozen?_setCell _ _ _ _).trans h.f4, (World.frozen?_setCell _ _ _ _).trans h.f5, (World.frozen?_setCell _ _ _ _).trans h.f6⟩
theorem Box7.set5 {u : World} {g : Nat} {e : Ev} (h : Box7 u g e) (v : Int) : Box7 (u.setCell ⟨g, 5, none⟩ (.int .i64 v)) g { e with ad := v } := by
  refine ⟨by simpa [World.setCell] using h.lt, (World.cell?_setCell_other _ _ _ _ (by simp)).trans h.c0, (World.cell?_setCell_other _ _ _ _ (by simp)).trans h.c1, (World.cell?_setCell_other _ _ _ _ (by simp)).trans h.c2, (World.cell?_setCell_other _ _ _ _ (by simp)).trans h.c3, (World.cell?_setCell_other _ _ _ _ (by simp)).trans h.c4, World.cell?_setCell_same _ _ _ h.c5, (World.cell?_setCell_other _ _ _ _ (by simp)).trans h.c6, (World.frozen?_setCell _ _ _ _).trans h.f0, (World.frozen?_setCell _ _ _ _).trans h.f1, (World.frozen?_setCell _ _ _ _).trans h.f2, (World.frozen?_setCell _ _ _ _).trans h.f3, (World.frozen?_setCell _ _ _ _).trans h.f4, (World.frozen?_setCell _ _ _ _).trans h.f5, (World.frozen?_setCell _ _ _ _).trans h.f6⟩
theorem Box7.set6 {u : World} {g : Nat} {e : Ev} (h : Box7 u g e) (v : Int) : Box7 (u.setCell ⟨g, 6, none⟩ (.int .i64 v)) g { e with dt := v } := by
  refine ⟨by simpa [World.setCell] using h.lt, (World.cell?_setCell_other _ _ _ _ (by simp)).trans h.c0, (World.cell?_setCell_other _ _ _ _ (by simp)).trans h.c1, (World.cell?_setCell_other _ _ _ _ (by simp)).trans h.c2, (World.cell?_setCell_other _ _ _ _ (by simp)).trans h.c3, (World.cell?_setCell_other _ _ _ _ (by simp)).trans h.c4, (World.cell?_setCell_other _ _ _ _ (by simp)).trans h.c5, World.cell?_setCell_same _ _ _ h.c6, (World.frozen?_setCell _ _ _ _).trans h.f0, (World.frozen?_setCell _ _ _ _).trans h.f1, (World.frozen?_setCell _ _ _ _).trans h.f2, (World.frozen?_setCell _ _ _ _).trans h.f3, (World.frozen?_setCell _ _ _ _).trans h.f4, (World.frozen?_setCell _ _ _ _).trans h.f5, (World.frozen?_setCell _ _ _ _).trans h.f6⟩
/-- The next place, and what goes into the register. -/
def nxV (k n pc a b f : Int) : Int × Int :=
  if k = 0 then ((pc + 1) % 65536, aluD f a b) else if k = 1 then ((pc + 1) % 65536, (a + n) % 65536) else if k = 2 then ((pc + 1) % 65536, n * 128)
  else if k = 9 then ((pc + 1) % 65536, mulD a b) else if k = 5 then (if a = b then ((pc + 1 + n) % 65536, 0) else ((pc + 1) % 65536, 0))
  else if k = 6 then (if sgn a < sgn b then ((pc + 1 + n) % 65536, 0) else ((pc + 1) % 65536, 0)) else if k = 7 then ((pc + 1 + n) % 65536, (pc + 1) % 65536)
  else if k = 8 then ((a + n) % 65536, (pc + 1) % 65536) else ((pc + 1) % 65536, 0)
set_option maxRecDepth 8000 in
set_option maxHeartbeats 4000000 in
theorem spec_l4Next (k d a b f n pc x y : Int) (w : World) (hk : 0 ≤ k ∧ k < 16) (n0 : -256 ≤ n) (n1 : n ≤ 511) (p0 : 0 ≤ pc) (p1 : pc < 65536) (x0 : 0 ≤ x) (x1 : x < 65536) (y0 : 0 ≤ y) (y1 : y < 65536) :
    Calls Tryd.prog 88 #[.agg #[.int .i64 k, .int .i64 d, .int .i64 a, .int .i64 b, .int .i64 f, .int .i64 n], .int .i64 pc, .int .i64 x, .int .i64 y] w fun e w' => e = .returned (.tuple #[.int .i64 (nxV k n pc x y f).1, .int .i64 (nxV k n pc x y f).2]) ∧ Fr w w' := by
  have F1 := Lib.hid (Fr.alloc w (.cells #[.int .i64 k, .int .i64 d, .int .i64 a, .int .i64 b, .int .i64 f, .int .i64 n] 48))
  rcases kinds hk with rfl | rfl | rfl | rfl | rfl | rfl | rfl | rfl | rfl | rfl | rfl | rfl | rfl | rfl | rfl | rfl
  all_goals clear hk
  · go_enter Tryd.func88, Tryd.ntmps88
    go_wp2_with (first | (go_at_call 110; refine (spec_l1Wrap _ _).mono ?_; rintro e w' ⟨rfl, rfl⟩) | (go_at_call 111; refine (spec_AluDo _ _ _ _).mono ?_; rintro e w' ⟨rfl, rfl⟩) | (go_at_call 112; refine (spec_MulDo _ _ _).mono ?_; rintro e w' ⟨rfl, rfl⟩) | (go_at_call 113; refine (spec_WrdInt _ _).mono ?_; rintro e w' ⟨rfl, rfl⟩))
    go_ret2
    exact ⟨rfl, F1.out⟩
  · go_enter Tryd.func88, Tryd.ntmps88
    go_wp2_with (first | (go_at_call 110; refine (spec_l1Wrap _ _).mono ?_; rintro e w' ⟨rfl, rfl⟩) | (go_at_call 111; refine (spec_AluDo _ _ _ _).mono ?_; rintro e w' ⟨rfl, rfl⟩) | (go_at_call 112; refine (spec_MulDo _ _ _).mono ?_; rintro e w' ⟨rfl, rfl⟩) | (go_at_call 113; refine (spec_WrdInt _ _).mono ?_; rintro e w' ⟨rfl, rfl⟩))
    go_ret2
    exact ⟨rfl, F1.out⟩
  · go_enter Tryd.func88, Tryd.ntmps88
    go_wp2_with (first | (go_at_call 110; refine (spec_l1Wrap _ _).mono ?_; rintro e w' ⟨rfl, rfl⟩) | (go_at_call 111; refine (spec_AluDo _ _ _ _).mono ?_; rintro e w' ⟨rfl, rfl⟩) | (go_at_call 112; refine (spec_MulDo _ _ _).mono ?_; rintro e w' ⟨rfl, rfl⟩) | (go_at_call 113; refine (spec_WrdInt _ _).mono ?_; rintro e w' ⟨rfl, rfl⟩))
    go_quiet (fail)
    go_wp2
    go_ret2
    exact ⟨rfl, Below.drewN F1.out _⟩
  · go_enter Tryd.func88, Tryd.ntmps88
    go_wp2_with (first | (go_at_call 110; refine (spec_l1Wrap _ _).mono ?_; rintro e w' ⟨rfl, rfl⟩) | (go_at_call 111; refine (spec_AluDo _ _ _ _).mono ?_; rintro e w' ⟨rfl, rfl⟩) | (go_at_call 112; refine (spec_MulDo _ _ _).mono ?_; rintro e w' ⟨rfl, rfl⟩) | (go_at_call 113; refine (spec_WrdInt _ _).mono ?_; rintro e w' ⟨rfl, rfl⟩))
    go_ret2
    exact ⟨rfl, F1.out⟩
  · go_enter Tryd.func88, Tryd.ntmps88
    go_wp2_with (first | (go_at_call 110; refine (spec_l1Wrap _ _).mono ?_; rintro e w' ⟨rfl, rfl⟩) | (go_at_call 111; refine (spec_AluDo _ _ _ _).mono ?_; rintro e w' ⟨rfl, rfl⟩) | (go_at_call 112; refine (spec_MulDo _ _ _).mono ?_; rintro e w' ⟨rfl, rfl⟩) | (go_at_call 113; refine (spec_WrdInt _ _).mono ?_; rintro e w' ⟨rfl, rfl⟩))
    go_ret2
    exact ⟨rfl, F1.out⟩
  · by_cases hc : x = y
    · have HV := Lib.hid (show nxV 5 n pc x y f = _ from if_pos hc)
      subst hc
      go_enter Tryd.func88, Tryd.ntmps88
      go_wp2_with (first | (go_at_call 110; refine (spec_l1Wrap _ _).mono ?_; rintro e w' ⟨rfl, rfl⟩) | (go_at_call 111; refine (spec_AluDo _ _ _ _).mono ?_; rintro e w' ⟨rfl, rfl⟩) | (go_at_call 112; refine (spec_MulDo _ _ _).mono ?_; rintro e w' ⟨rfl, rfl⟩) | (go_at_call 113; refine (spec_WrdInt _ _).mono ?_; rintro e w' ⟨rfl, rfl⟩))
      go_ret2
      exact ⟨by rw [HV.out]; rfl, F1.out⟩
    · have HV := Lib.hid (show nxV 5 n pc x y f = _ from if_neg hc)
      have hb : (x == y) = false := by simpa using hc
      clear hc
      go_enter Tryd.func88, Tryd.ntmps88
      go_wp2_with (first | (go_at_call 110; refine (spec_l1Wrap _ _).mono ?_; rintro e w' ⟨rfl, rfl⟩) | (go_at_call 111; refine (spec_AluDo _ _ _ _).mono ?_; rintro e w' ⟨rfl, rfl⟩) | (go_at_call 112; refine (spec_MulDo _ _ _).mono ?_; rintro e w' ⟨rfl, rfl⟩) | (go_at_call 113; refine (spec_WrdInt _ _).mono ?_; rintro e w' ⟨rfl, rfl⟩))
      go_ret2
      exact ⟨by rw [HV.out]; rfl, F1.out⟩
  · by_cases hc : sgn x < sgn y
    · have HV := Lib.hid (show nxV 6 n pc x y f = _ from if_pos hc)
      go_enter Tryd.func88, Tryd.ntmps88
      go_wp2_with (first | (go_at_call 110; refine (spec_l1Wrap _ _).mono ?_; rintro e w' ⟨rfl, rfl⟩) | (go_at_call 111; refine (spec_AluDo _ _ _ _).mono ?_; rintro e w' ⟨rfl, rfl⟩) | (go_at_call 112; refine (spec_MulDo _ _ _).mono ?_; rintro e w' ⟨rfl, rfl⟩) | (go_at_call 113; refine (spec_WrdInt _ _).mono ?_; rintro e w' ⟨rfl, rfl⟩))
      go_ret2
      exact ⟨by rw [HV.out]; rfl, F1.out⟩
    · have HV := Lib.hid (show nxV 6 n pc x y f = _ from if_neg hc)
      go_enter Tryd.func88, Tryd.ntmps88
      go_wp2_with (first | (go_at_call 110; refine (spec_l1Wrap _ _).mono ?_; rintro e w' ⟨rfl, rfl⟩) | (go_at_call 111; refine (spec_AluDo _ _ _ _).mono ?_; rintro e w' ⟨rfl, rfl⟩) | (go_at_call 112; refine (spec_MulDo _ _ _).mono ?_; rintro e w' ⟨rfl, rfl⟩) | (go_at_call 113; refine (spec_WrdInt _ _).mono ?_; rintro e w' ⟨rfl, rfl⟩))
      go_ret2
      exact ⟨by rw [HV.out]; rfl, F1.out⟩
  · go_enter Tryd.func88, Tryd.ntmps88
    go_wp2_with (first | (go_at_call 110; refine (spec_l1Wrap _ _).mono ?_; rintro e w' ⟨rfl, rfl⟩) | (go_at_call 111; refine (spec_AluDo _ _ _ _).mono ?_; rintro e w' ⟨rfl, rfl⟩) | (go_at_call 112; refine (spec_MulDo _ _ _).mono ?_; rintro e w' ⟨rfl, rfl⟩) | (go_at_call 113; refine (spec_WrdInt _ _).mono ?_; rintro e w' ⟨rfl, rfl⟩))
    go_ret2
    exact ⟨rfl, F1.out⟩
  · go_enter Tryd.func88, Tryd.ntmps88
    go_wp2_with (first | (go_at_call 110; refine (spec_l1Wrap _ _).mono ?_; rintro e w' ⟨rfl, rfl⟩) | (go_at_call 111; refine (spec_AluDo _ _ _ _).mono ?_; rintro e w' ⟨rfl, rfl⟩) | (go_at_call 112; refine (spec_MulDo _ _ _).mono ?_; rintro e w' ⟨rfl, rfl⟩) | (go_at_call 113; refine (spec_WrdInt _ _).mono ?_; rintro e w' ⟨rfl, rfl⟩))
    go_ret2
    exact ⟨rfl, F1.out⟩
  · go_enter Tryd.func88, Tryd.ntmps88
    go_wp2_with (first | (go_at_call 110; refine (spec_l1Wrap _ _).mono ?_; rintro e w' ⟨rfl, rfl⟩) | (go_at_call 111; refine (spec_AluDo _ _ _ _).mono ?_; rintro e w' ⟨rfl, rfl⟩) | (go_at_call 112; refine (spec_MulDo _ _ _).mono ?_; rintro e w' ⟨rfl, rfl⟩) | (go_at_call 113; refine (spec_WrdInt _ _).mono ?_; rintro e w' ⟨rfl, rfl⟩))
    go_ret2
    exact ⟨rfl, F1.out⟩
  · go_enter Tryd.func88, Tryd.ntmps88
    go_wp2_with (first | (go_at_call 110; refine (spec_l1Wrap _ _).mono ?_; rintro e w' ⟨rfl, rfl⟩) | (go_at_call 111; refine (spec_AluDo _ _ _ _).mono ?_; rintro e w' ⟨rfl, rfl⟩) | (go_at_call 112; refine (spec_MulDo _ _ _).mono ?_; rintro e w' ⟨rfl, rfl⟩) | (go_at_call 113; refine (spec_WrdInt _ _).mono ?_; rintro e w' ⟨rfl, rfl⟩))
    go_ret2
    exact ⟨rfl, F1.out⟩
  · go_enter Tryd.func88, Tryd.ntmps88
    go_wp2_with (first | (go_at_call 110; refine (spec_l1Wrap _ _).mono ?_; rintro e w' ⟨rfl, rfl⟩) | (go_at_call 111; refine (spec_AluDo _ _ _ _).mono ?_; rintro e w' ⟨rfl, rfl⟩) | (go_at_call 112; refine (spec_MulDo _ _ _).mono ?_; rintro e w' ⟨rfl, rfl⟩) | (go_at_call 113; refine (spec_WrdInt _ _).mono ?_; rintro e w' ⟨rfl, rfl⟩))
    go_ret2
    exact ⟨rfl, F1.out⟩
  · go_enter Tryd.func88, Tryd.ntmps88
    go_wp2_with (first | (go_at_call 110; refine (spec_l1Wrap _ _).mono ?_; rintro e w' ⟨rfl, rfl⟩) | (go_at_call 111; refine (spec_AluDo _ _ _ _).mono ?_; rintro e w' ⟨rfl, rfl⟩) | (go_at_call 112; refine (spec_MulDo _ _ _).mono ?_; rintro e w' ⟨rfl, rfl⟩) | (go_at_call 113; refine (spec_WrdInt _ _).mono ?_; rintro e w' ⟨rfl, rfl⟩))
    go_ret2
    exact ⟨rfl, F1.out⟩
  · go_enter Tryd.func88, Tryd.ntmps88
    go_wp2_with (first | (go_at_call 110; refine (spec_l1Wrap _ _).mono ?_; rintro e w' ⟨rfl, rfl⟩) | (go_at_call 111; refine (spec_AluDo _ _ _ _).mono ?_; rintro e w' ⟨rfl, rfl⟩) | (go_at_call 112; refine (spec_MulDo _ _ _).mono ?_; rintro e w' ⟨rfl, rfl⟩) | (go_at_call 113; refine (spec_WrdInt _ _).mono ?_; rintro e w' ⟨rfl, rfl⟩))
    go_ret2
    exact ⟨rfl, F1.out⟩
  · go_enter Tryd.func88, Tryd.ntmps88
    go_wp2_with (first | (go_at_call 110; refine (spec_l1Wrap _ _).mono ?_; rintro e w' ⟨rfl, rfl⟩) | (go_at_call 111; refine (spec_AluDo _ _ _ _).mono ?_; rintro e w' ⟨rfl, rfl⟩) | (go_at_call 112; refine (spec_MulDo _ _ _).mono ?_; rintro e w' ⟨rfl, rfl⟩) | (go_at_call 113; refine (spec_WrdInt _ _).mono ?_; rintro e w' ⟨rfl, rfl⟩))
    go_ret2
    exact ⟨rfl, F1.out⟩
  · go_enter Tryd.func88, Tryd.ntmps88
    go_wp2_with (first | (go_at_call 110; refine (spec_l1Wrap _ _).mono ?_; rintro e w' ⟨rfl, rfl⟩) | (go_at_call 111; refine (spec_AluDo _ _ _ _).mono ?_; rintro e w' ⟨rfl, rfl⟩) | (go_at_call 112; refine (spec_MulDo _ _ _).mono ?_; rintro e w' ⟨rfl, rfl⟩) | (go_at_call 113; refine (spec_WrdInt _ _).mono ?_; rintro e w' ⟨rfl, rfl⟩))
    go_ret2
    exact ⟨rfl, F1.out⟩

end Go.Proofs.YtbjapncfgancoaaDoor
