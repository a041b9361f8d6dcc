/- What comes from outside, drawn. -/
import Derived.Test.YtoacgjjpipdkjaaJ1
import Derived.Test.YtoacgjjpipdkjaaDrawI
import Derived.Test.YtoacgjjpipdkjaaCodOk
import Derived.Test.YtoacgjjpipdkjaaK44
namespace Go.Proofs.Ytoacgjjpipdkjaa
open Go.RowKit
set_option linter.unusedVariables false
set_option linter.unusedSimpArgs false
theorem Box5.p0 {u : World} {g : Nat} {a b c d e : Value} (h : Box5 u g a b c d e) (x : Value) : Box5 (u.setCell ⟨g, 0, none⟩ x) g x b c d e := by
  have c0 := h.c0
  have c1 := h.c1
  have c2 := h.c2
  have c3 := h.c3
  have c4 := h.c4
  have f0 := h.f0
  have f1 := h.f1
  have f2 := h.f2
  have f3 := h.f3
  have f4 := h.f4
  have hl := h.lt
  refine ⟨by simpa [World.setCell] using hl, ?_, ?_, ?_, ?_, ?_, ?_, ?_, ?_, ?_, ?_⟩
  all_goals simp [World.frozen?_setCell, World.cell?_setCell_other, World.cell?_setCell_same, c0, c1, c2, c3, c4, f0, f1, f2, f3, f4]
theorem Box5.p1 {u : World} {g : Nat} {a b c d e : Value} (h : Box5 u g a b c d e) (x : Value) : Box5 (u.setCell ⟨g, 1, none⟩ x) g a x c d e := by
  have c0 := h.c0
  have c1 := h.c1
  have c2 := h.c2
  have c3 := h.c3
  have c4 := h.c4
  have f0 := h.f0
  have f1 := h.f1
  have f2 := h.f2
  have f3 := h.f3
  have f4 := h.f4
  have hl := h.lt
  refine ⟨by simpa [World.setCell] using hl, ?_, ?_, ?_, ?_, ?_, ?_, ?_, ?_, ?_, ?_⟩
  all_goals simp [World.frozen?_setCell, World.cell?_setCell_other, World.cell?_setCell_same, c0, c1, c2, c3, c4, f0, f1, f2, f3, f4]
theorem Box5.p2 {u : World} {g : Nat} {a b c d e : Value} (h : Box5 u g a b c d e) (x : Value) : Box5 (u.setCell ⟨g, 2, none⟩ x) g a b x d e := by
  have c0 := h.c0
  have c1 := h.c1
  have c2 := h.c2
  have c3 := h.c3
  have c4 := h.c4
  have f0 := h.f0
  have f1 := h.f1
  have f2 := h.f2
  have f3 := h.f3
  have f4 := h.f4
  have hl := h.lt
  refine ⟨by simpa [World.setCell] using hl, ?_, ?_, ?_, ?_, ?_, ?_, ?_, ?_, ?_, ?_⟩
  all_goals simp [World.frozen?_setCell, World.cell?_setCell_other, World.cell?_setCell_same, c0, c1, c2, c3, c4, f0, f1, f2, f3, f4]
theorem Box5.p3 {u : World} {g : Nat} {a b c d e : Value} (h : Box5 u g a b c d e) (x : Value) : Box5 (u.setCell ⟨g, 3, none⟩ x) g a b c x e := by
  have c0 := h.c0
  have c1 := h.c1
  have c2 := h.c2
  have c3 := h.c3
  have c4 := h.c4
  have f0 := h.f0
  have f1 := h.f1
  have f2 := h.f2
  have f3 := h.f3
  have f4 := h.f4
  have hl := h.lt
  refine ⟨by simpa [World.setCell] using hl, ?_, ?_, ?_, ?_, ?_, ?_, ?_, ?_, ?_, ?_⟩
  all_goals simp [World.frozen?_setCell, World.cell?_setCell_other, World.cell?_setCell_same, c0, c1, c2, c3, c4, f0, f1, f2, f3, f4]
theorem Box5.p4 {u : World} {g : Nat} {a b c d e : Value} (h : Box5 u g a b c d e) (x : Value) : Box5 (u.setCell ⟨g, 4, none⟩ x) g a b c d x := by
  have c0 := h.c0
  have c1 := h.c1
  have c2 := h.c2
  have c3 := h.c3
  have c4 := h.c4
  have f0 := h.f0
  have f1 := h.f1
  have f2 := h.f2
  have f3 := h.f3
  have f4 := h.f4
  have hl := h.lt
  refine ⟨by simpa [World.setCell] using hl, ?_, ?_, ?_, ?_, ?_, ?_, ?_, ?_, ?_, ?_⟩
  all_goals simp [World.frozen?_setCell, World.cell?_setCell_other, World.cell?_setCell_same, c0, c1, c2, c3, c4, f0, f1, f2, f3, f4]
theorem but_one {u u' : World} {b : Nat} (g : u.grownBy u' (some b)) : But [b] u u' := by
  have := but_row g
  simpa using this
/-- A row of numbers that can be read, in a block of its own. -/
def RwI (lo Z : Nat) (u : World) (P : List Int) (aP : Option Addr) : Prop := ∃ g o, aP = some ⟨g, o, none⟩ ∧ lo < g ∧ g ≠ Z ∧ g < u.heap.size ∧ ∀ i, i < P.length → u.cell? ⟨g, o + i, none⟩ = some (.int .i64 (P.getD i 0))
theorem RwI.but {lo Z : Nat} {u u' : World} {P : List Int} {aP : Option Addr} {L : List Nat} (h : RwI lo Z u P aP) (f : But L u u') (hL : ∀ k, k ∈ L → k ≤ lo ∨ k = Z) : RwI lo Z u' P aP := by
  obtain ⟨g, o, e, h1, h2, h3, hc⟩ := h
  have hn : g ∉ L := fun m => by have := hL g m; omega
  exact ⟨g, o, e, h1, h2, Nat.lt_of_lt_of_le h3 f.size, fun i hi => by rw [f.cell h3 hn]; exact hc i hi⟩
theorem RwI.src {lo Z : Nat} {u : World} {P : List Int} {aP : Option Addr} (h : RwI lo Z u P aP) : Src u P.length (ivl P) aP := fun _ => by
  obtain ⟨g, o, e, _, _, h3, hc⟩ := h
  exact ⟨g, o, e, h3, hc⟩
/-- What comes from outside lies in box Z. -/
structure LI (B b N Z : Nat) (w u : World) (r l : Bool) (a n : Int) (P : List Int) (aP : Option Addr) (cP : Nat) : Prop where
  rd : Rd B N u b
  gr : w.grownBy u (some b)
  z0 : Box5 u w.heap.size (.bool false) (.bool false) (.int .i64 0) (.int .i64 0) (.slice none 0 0)
  bx : Box5 u Z (.bool r) (.bool l) (.int .i64 a) (.int .i64 n) (.slice aP P.length cP)
  row : RwI w.heap.size Z u P aP
  few : P.length ≤ 3
  zb : w.heap.size < Z
  bw : b < w.heap.size
section
variable {B b N N' Z : Nat} {w u u' : World} {r l : Bool} {a n : Int} {P : List Int} {aP : Option Addr} {cP : Nat}
theorem LI.step (h : LI B b N Z w u r l a n P aP cP) (r' : Rd B N' u' b) (g : u.grownBy u' (some b)) : LI B b N' Z w u' r l a n P aP cP := by
  have f := but_one g
  have zb := h.zb
  have bw := h.bw
  exact ⟨r', grown_trans h.gr g, h.z0.but f (by simp; omega), h.bx.but f (by simp; omega), h.row.but f (fun k m => by have := List.mem_singleton.1 m; omega), h.few, zb, bw⟩
theorem LI.fr (h : LI B b N Z w u r l a n P aP cP) (f : Fr u u') : LI B b N Z w u' r l a n P aP cP := h.step (h.rd.row (fr_row f none) (by simp)) (fr_row f (some b))
theorem LI.mono (h : LI B b N Z w u r l a n P aP cP) (hN : N ≤ N') : LI B b N' Z w u r l a n P aP cP := { h with rd := h.rd.mono hN }
theorem LI.put {r' l' : Bool} {a' n' : Int} {P' : List Int} {aP' : Option Addr} {cP' : Nat} (h : LI B b N Z w u r l a n P aP cP) (f : But [Z] u u') (rd : Rd B N u' b) (bx : Box5 u' Z (.bool r') (.bool l') (.int .i64 a') (.int .i64 n') (.slice aP' P'.length cP')) (row : RwI w.heap.size Z u P' aP') (few : P'.length ≤ 3) : LI B b N Z w u' r' l' a' n' P' aP' cP' := by
  have zb := h.zb
  have bw := h.bw
  exact ⟨rd, grown_but7 h.gr f (fun k m => by have := List.mem_singleton.1 m; omega), h.z0.but f (by simp; omega), bx, row.but f (fun k m => by have := List.mem_singleton.1 m; omega), few, zb, bw⟩
theorem setZ (Z j : Nat) (v : Value) : But [Z] u (u.setCell ⟨Z, j, none⟩ v) := (But.refl _ _).set _ _ _ (.inl (by simp))
theorem LI.setL (h : LI B b N Z w u r l a n P aP cP) (v : Bool) : LI B b N Z w (u.setCell ⟨Z, 1, none⟩ (.bool v)) r v a n P aP cP := h.put (setZ Z 1 _) (h.rd.setOther _ _ _ (by have := h.zb; have := h.bw; omega)) (h.bx.p1 _) h.row h.few
theorem LI.setA (h : LI B b N Z w u r l a n P aP cP) (v : Int) : LI B b N Z w (u.setCell ⟨Z, 2, none⟩ (.int .i64 v)) r l v n P aP cP := h.put (setZ Z 2 _) (h.rd.setOther _ _ _ (by have := h.zb; have := h.bw; omega)) (h.bx.p2 _) h.row h.few
theorem LI.setN (h : LI B b N Z w u r l a n P aP cP) (v : Int) : LI B b N Z w (u.setCell ⟨Z, 3, none⟩ (.int .i64 v)) r l a v P aP cP := h.put (setZ Z 3 _) (h.rd.setOther _ _ _ (by have := h.zb; have := h.bw; omega)) (h.bx.p3 _) h.row h.few
theorem LI.setP {P' : List Int} {aP' : Option Addr} {cP' : Nat} (h : LI B b N Z w u r l a n P aP cP) (row : RwI w.heap.size Z u P' aP') (few : P'.length ≤ 3) : LI B b N Z w (u.setCell ⟨Z, 4, none⟩ (.slice aP' P'.length cP')) r l a n P' aP' cP' := h.put (setZ Z 4 _) (h.rd.setOther _ _ _ (by have := h.zb; have := h.bw; omega)) (h.bx.p4 _) row few
theorem LI.put2 {r' l' : Bool} {a' n' : Int} {P' : List Int} {aP' : Option Addr} {cP' : Nat} (h : LI B b N Z w u r l a n P aP cP) (f : But [Z] u u') (rd : Rd B N u' b) (bx : Box5 u' Z (.bool r') (.bool l') (.int .i64 a') (.int .i64 n') (.slice aP' P'.length cP')) (row : RwI w.heap.size Z u' P' aP') (few : P'.length ≤ 3) : LI B b N Z w u' r' l' a' n' P' aP' cP' := by
  have zb := h.zb
  have bw := h.bw
  exact ⟨rd, grown_but7 h.gr f (fun k m => by have := List.mem_singleton.1 m; omega), h.z0.but f (by simp; omega), bx, row, few, zb, bw⟩
theorem LI.newP (h : LI B b N Z w u r l a n P aP cP) (P' : List Int) (k : Nat) (few : P'.length ≤ 3) : LI B b N Z w ((u.setCell ⟨Z, 4, none⟩ (.slice (some ⟨u.heap.size, 0, none⟩) P'.length k)).alloc (.cells (P'.map (Value.int .i64)).toArray 3)) r l a n P' (some ⟨u.heap.size, 0, none⟩) k := by
  have F := Fr.alloc (u.setCell ⟨Z, 4, none⟩ (.slice (some ⟨u.heap.size, 0, none⟩) P'.length k)) (.cells (P'.map (Value.int .i64)).toArray 3)
  refine h.put2 ((setZ Z 4 _).trans (But.of F)) ((h.rd.setOther _ _ _ (by have := h.zb; have := h.bw; omega)).alloc _) ((h.bx.p4 _).fr F) ⟨u.heap.size, 0, rfl, h.z0.lt, by have := h.bx.lt; omega, by simp, fun i hi => ?_⟩ few
  rw [Nat.zero_add, (alloc_at (u.setCell ⟨Z, 4, none⟩ (.slice (some ⟨u.heap.size, 0, none⟩) P'.length k)) _ _ u.heap.size (by simp) i).1]
  simp [hi]
/-- A new row is laid down. -/
theorem RwI.new (lo Z : Nat) (P : List Int) (hlo : lo < u.heap.size) (hZ : Z < u.heap.size) : RwI lo Z (u.alloc (.cells (P.map (Value.int .i64)).toArray 3)) P (some ⟨u.heap.size, 0, none⟩) :=
  ⟨u.heap.size, 0, rfl, hlo, by omega, by simp, fun i hi => by
    rw [Nat.zero_add, (alloc_at u _ _ _ rfl i).1]
    simp [hi]⟩
theorem LI.new {u3 : World} (rd : Rd B N u3 b) (bw : b < w.heap.size) (f : But [b] (w.alloc (.cells #[.bool false, .bool false, .int .i64 0, .int .i64 0, .slice none 0 0] 46)) u3) (r : Bool) (x y : Int) :
    LI B b N (u3.heap.size + 1) w ((u3.alloc (.cells #[.int .i64 x, .int .i64 y] 3)).alloc (.cells #[.bool r, .bool false, .int .i64 0, .int .i64 0, .slice (some ⟨u3.heap.size, 0, none⟩) 2 2] 46)) r false 0 0 [x, y] (some ⟨u3.heap.size, 0, none⟩) 2 := by
  have hz := (Box5.new w (.bool false) (.bool false) (.int .i64 0) (.int .i64 0) (.slice none 0 0) 46 _ rfl)
  have hs := f.size
  have hs' : w.heap.size + 1 ≤ u3.heap.size := by simpa using hs
  have F : Fr u3 ((u3.alloc (.cells #[.int .i64 x, .int .i64 y] 3)).alloc (.cells #[.bool r, .bool false, .int .i64 0, .int .i64 0, .slice (some ⟨u3.heap.size, 0, none⟩) 2 2] 46)) := Fr.trans (Fr.alloc _ _) (Fr.alloc _ _)
  refine ⟨(rd.alloc _).alloc _, ?_, (hz.but f (by simp; omega)).fr F, Box5.new _ _ _ _ _ _ _ _ (by simp), ⟨u3.heap.size, 0, rfl, by omega, by omega, by simp; omega, fun i hi => ?_⟩, by simp, by omega, bw⟩
  · exact grown_but7 (L := []) (grown_but7 (World.grownBy_alloc w _ (some b)) f (fun k m => .inl (List.mem_singleton.1 m))) (But.of F) (fun k m => by simp at m)
  · rw [Nat.zero_add, (Fr.alloc (u3.alloc (.cells #[.int .i64 x, .int .i64 y] 3)) _).cell (by simp), (alloc_at u3 _ _ _ rfl i).1]
    have hi' : i < 2 := by simpa using hi
    rcases i with _ | _ | i
    · rfl
    · rfl
    · omega
end
theorem row3_in {w w1 : World} {b : Nat} {v0 v1 v2 : Int} {t : TypeId} (hb : b < w.heap.size) (hg : (w.alloc (.cells #[.int .i64 v0, .int .i64 v1, .int .i64 v2] t)).grownBy w1 (some b)) (x : Int) (x0 : 0 ≤ x) (x1 : x < 3) :
    ∃ v : Int, w1.cell? ⟨w.heap.size, x.toNat, none⟩ = some (.int .i64 v) := by
  rw [row_at hb hg]
  have : x = 0 ∨ x = 1 ∨ x = 2 := by omega
  rcases this with rfl | rfl | rfl
  · exact ⟨v0, rfl⟩
  · exact ⟨v1, rfl⟩
  · exact ⟨v2, rfl⟩
theorem row2_in {w w1 : World} {b : Nat} {v0 v1 : Int} {t : TypeId} (hb : b < w.heap.size) (hg : (w.alloc (.cells #[.int .i64 v0, .int .i64 v1] t)).grownBy w1 (some b)) (x : Int) (x0 : 0 ≤ x) (x1 : x < 2) :
    ∃ v : Int, w1.cell? ⟨w.heap.size, x.toNat, none⟩ = some (.int .i64 v) := by
  rw [row_at hb hg]
  have : x = 0 ∨ x = 1 := by omega
  rcases this with rfl | rfl
  · exact ⟨v0, rfl⟩
  · exact ⟨v1, rfl⟩
/-- Behind a draw of what comes from outside. -/
def DrewIn (B N b : Nat) (w : World) (e : Ending) (w' : World) : Prop := ∃ r l a n P aP cP, List.length P ≤ 3 ∧ e = .returned (inv9 r l a n aP P.length cP) ∧ Rd B N w' b ∧ w.grownBy w' (some b) ∧ (∀ L u', But L w' u' → (∀ k, k ∈ L → k ≤ w.heap.size) → Src u' P.length (ivl P) aP)
theorem LI.done {B b N N' Z : Nat} {w u : World} {r l : Bool} {a n : Int} {P : List Int} {aP : Option Addr} {cP : Nat} (h : LI B b N Z w u r l a n P aP cP) (hN : N ≤ N') :
    DrewIn B N' b w (.returned (inv9 r l a n aP P.length cP)) (((((u.setCell ⟨w.heap.size, 0, none⟩ (.bool r)).setCell ⟨w.heap.size, 1, none⟩ (.bool l)).setCell ⟨w.heap.size, 2, none⟩ (.int .i64 a)).setCell ⟨w.heap.size, 3, none⟩ (.int .i64 n)).setCell ⟨w.heap.size, 4, none⟩ (.slice aP P.length cP)) := by
  have bw := h.bw
  have f : But [w.heap.size] u (((((u.setCell ⟨w.heap.size, 0, none⟩ (.bool r)).setCell ⟨w.heap.size, 1, none⟩ (.bool l)).setCell ⟨w.heap.size, 2, none⟩ (.int .i64 a)).setCell ⟨w.heap.size, 3, none⟩ (.int .i64 n)).setCell ⟨w.heap.size, 4, none⟩ (.slice aP P.length cP)) := (But.refl _ _).set5 _ _ _ _ _ _ (.inl (by simp))
  refine ⟨r, l, a, n, P, aP, cP, h.few, rfl, ((h.rd.mono hN).but7 f (fun k m => by have := List.mem_singleton.1 m; omega)), grown_but7 h.gr f (fun k m => by have := List.mem_singleton.1 m; omega), fun L u' f' hL => ?_⟩
  exact ((h.row.but f (fun k m => by have := List.mem_singleton.1 m; omega)).but f' (fun k m => .inl (hL k m))).src
set_option maxRecDepth 100000 in
set_option maxHeartbeats 8000000 in
theorem l20In (B N b : Nat) (n : Int) (w : World) (h : Rd B N w b) (hM : N ≤ 700000000) (n0 : 0 ≤ n) (n1 : n ≤ 1000) :
    Calls Try.prog 83 #[.pointer (some ⟨b, 0, none⟩), .int .i64 n] w (DrewIn B (N + 200) b w) := by
  have HZ := Lib.hid (Fr.alloc w (.cells #[.bool false, .bool false, .int .i64 0, .int .i64 0, .slice none 0 0] 46))
  have hb := h.lt
  have hr0 := Lib.hid (h.alloc (.cells #[.bool false, .bool false, .int .i64 0, .int .i64 0, .slice none 0 0] 46))
  clear h
  go_enter Try.func83, Try.ntmps83
  go_wp2_with fail
  refine (pick B _ b _ _ hr0.out (by omega)).mono ?_
  rintro e u1 ⟨x1, x10, x11, rfl, r1, g1⟩
  replace x11 := x11 (by omega)
  go_wp2_with fail
  refine (pick B _ b _ _ r1 (by omega)).mono ?_
  rintro e u2 ⟨x2, x20, x21, rfl, r2, g2⟩
  replace x21 := x21 (by omega)
  go_wp2_with fail
  refine (pick B _ b _ _ r2 (by omega)).mono ?_
  rintro e u3 ⟨x3, x30, x31, rfl, r3, g3⟩
  replace x31 := x31 (by omega)
  have HB := Lib.hid (((but_one g1).trans (but_one g2)).trans (but_one g3))
  obtain ⟨RR, hRR⟩ : ∃ RR, RR = (x1 == 0) := ⟨_, rfl⟩
  go_upto_region 2 with fail
  rw [← hRR]
  have HLa := Lib.hid (LI.new r3 hb HB.out RR x2 x3)
  clear hRR r1 r2 r3 g1 g2 g3 HB hr0 HZ x10 x11 x20 x21 x30 x31
  generalize ((u3.alloc (.cells #[.int .i64 x2, .int .i64 x3] 3)).alloc (.cells #[.bool RR, .bool false, .int .i64 0, .int .i64 0, .slice (some ⟨u3.heap.size, 0, none⟩) 2 2] 46)) = ua at *
  generalize u3.heap.size + 1 = Z at *
  generalize u3.heap.size = G at *
  go_wp2_with fail
  refine (pick B _ b _ _ HLa.out.rd (by omega)).mono ?_
  rintro e ub ⟨x4, x40, x41, rfl, r4, g4⟩
  replace x41 := x41 (by omega)
  have HLb := Lib.hid (HLa.out.step r4 g4)
  clear HLa r4 g4
  by_cases h4 : x4 = 0
  · subst h4
    clear x40 x41
    obtain ⟨_, c0, c1, c2, c3, c4, f0, f1, f2, f3, f4⟩ := HLb.out.bx
    have c4' : ub.cell? ⟨Z, 4, none⟩ = some (.slice (some ⟨G, 0, none⟩) 2 2) := c4
    go_upto_region 4 with fail
    have R : RwI w.heap.size Z ub [x3] (some ⟨G, 1, none⟩) := by
      obtain ⟨g, o, e, h1, h2, h3, hc⟩ := HLb.out.row
      cases e
      refine ⟨G, 1, rfl, h1, h2, h3, fun i hi => ?_⟩
      obtain rfl : i = 0 := by simpa using hi
      exact hc 1 (by simp)
    have HL4 := Lib.hid (show LI B b _ Z w (ub.setCell ⟨Z, 4, none⟩ (.slice (some ⟨G, 1, none⟩) 1 1)) RR false 0 0 [x3] (some ⟨G, 1, none⟩) 1 from HLb.out.setP R (by simp))
    clear c0 c1 c2 c3 c4 c4' f0 f1 f2 f3 f4 HLb R
    generalize (ub.setCell ⟨Z, 4, none⟩ (.slice (some ⟨G, 1, none⟩) 1 1)) = u4 at *
    generalize ([x3] : List Int) = P at *
    generalize (some (⟨G, 1, none⟩ : Addr)) = aP at *
    obtain ⟨cP, HL4⟩ : ∃ cP, Hid (LI B b (N + 10) Z w u4 RR false 0 0 P aP cP) := ⟨1, Lib.hid (HL4.out.mono (by omega))⟩
    go_wp2_with fail
    refine (pick B _ b _ _ HL4.out.rd (by omega)).mono ?_
    rintro e u5 ⟨x5, x50, x51, rfl, r5, g5⟩
    replace x51 := x51 (by omega)
    have HL5 := Lib.hid (HL4.out.step r5 g5)
    clear HL4 r5 g5
    by_cases h5 : x5 = 0
    · subst h5
      clear x50 x51
      obtain ⟨_, c0, c1, c2, c3, c4, f0, f1, f2, f3, f4⟩ := HL5.out.bx
      go_upto_region 6 with fail
      clear c0 c1 c2 c3 c4 f0 f1 f2 f3 f4
      have HL6 := Lib.hid (HL5.out.setL true)
      clear HL5
      generalize (u5.setCell ⟨Z, 1, none⟩ (.bool true)) = u6 at *
      go_wp2_with fail
      refine (pick B _ b _ _ HL6.out.rd (by omega)).mono ?_
      rintro e u10 ⟨x10, x100, x101, rfl, r10, g10⟩
      replace x101 := x101 (by omega)
      have HL10 := Lib.hid (HL6.out.step r10 g10)
      clear HL6 r10 g10
      go_wp2_with fail
      refine (pick B _ b _ _ HL10.out.rd (by omega)).mono ?_
      rintro e u11 ⟨x11, x110, x111, rfl, r11, g11⟩
      replace x111 := x111 (by omega)
      have HL11 := Lib.hid (HL10.out.step r11 g11)
      clear HL10 r11 g11
      go_wp2_with fail
      refine (pick B _ b _ _ HL11.out.rd (by omega)).mono ?_
      rintro e u12 ⟨x12, x120, x121, rfl, r12, g12⟩
      replace x121 := x121 (by omega)
      have HL12 := Lib.hid (HL11.out.step r12 g12)
      clear HL11 r12 g12
      go_wp2_with fail
      have HL12a := Lib.hid (HL12.out.fr (Fr.alloc u12 (.cells #[.int .i64 x10, .int .i64 (128 + x11), .int .i64 x12] 3)))
      refine (pick B _ b _ _ HL12a.out.rd (by omega)).mono ?_
      rintro e u13 ⟨x13, x130, x131, rfl, r13, g13⟩
      replace x131 := x131 (by omega)
      have HL13 := Lib.hid (HL12a.out.step r13 g13)
      obtain ⟨AA, hAA⟩ := row3_in HL12.out.rd.lt g13 x13 x130 x131
      obtain ⟨_, c0, c1, c2, c3, c4, f0, f1, f2, f3, f4⟩ := HL13.out.bx
      clear HL12 HL12a r13 g13
      go_upto_region 7 with fail
      clear c0 c1 c2 c3 c4 f0 f1 f2 f3 f4 hAA x130 x131 x100 x101 x110 x111 x120 x121
      have HL14 := Lib.hid (HL13.out.setA AA)
      clear HL13
      generalize (u13.setCell ⟨Z, 2, none⟩ (.int .i64 AA)) = u14 at *
      go_wp2_with fail
      refine (l20Word0 B _ b _ HL14.out.rd (by omega)).mono ?_
      rintro e u15 ⟨x15, _, _, rfl, r15, g15⟩
      have HL15 := Lib.hid (HL14.out.step r15 g15)
      clear HL14 r15 g15
      go_wp2_with fail
      refine (l20Inst0 B _ b _ HL15.out.rd (by omega)).mono ?_
      rintro e u16 ⟨ik, id, ia, ib, if', im, _, rfl, r16, g16⟩
      have HL16 := Lib.hid (HL15.out.step r16 g16)
      clear HL15 r16 g16
      go_wp2_with fail
      refine (spec_CodWord ik id ia ib if' im _).mono ?_
      rintro e u17 ⟨rfl, f17⟩
      have HL17 := Lib.hid (HL16.out.fr f17)
      generalize worD ik id ia ib if' im = x17
      clear HL16 f17
      go_wp2_with fail
      refine (pick B _ b _ _ HL17.out.rd (by omega)).mono ?_
      rintro e u18 ⟨x18, x180, x181, rfl, r18, g18⟩
      replace x181 := x181 (by omega)
      have HL18 := Lib.hid (HL17.out.step r18 g18)
      clear HL17 r18 g18
      go_wp2_with fail
      have HL18a := Lib.hid (HL18.out.fr (Fr.alloc u18 (.cells #[.int .i64 x15, .int .i64 x17, .int .i64 (48 + x18)] 3)))
      refine (pick B _ b _ _ HL18a.out.rd (by omega)).mono ?_
      rintro e u19 ⟨x19, x190, x191, rfl, r19, g19⟩
      replace x191 := x191 (by omega)
      have HL19 := Lib.hid (HL18a.out.step r19 g19)
      obtain ⟨NN, hNN⟩ := row3_in HL18.out.rd.lt g19 x19 x190 x191
      obtain ⟨_, c0, c1, c2, c3, c4, f0, f1, f2, f3, f4⟩ := HL19.out.bx
      clear HL18 HL18a r19 g19
      go_upto_region 8 with fail
      clear c0 c1 c2 c3 c4 f0 f1 f2 f3 f4 hNN x190 x191 x180 x181
      have HL8 := Lib.hid (HL19.out.setN NN)
      clear HL19
      generalize (u19.setCell ⟨Z, 3, none⟩ (.int .i64 NN)) = u8 at *
      obtain ⟨LL, hLL⟩ : ∃ LL, LL = true := ⟨_, rfl⟩
      rw [← hLL] at HL8
      clear hLL
      go_wp2_with fail
      refine (odd7 B _ b n _ HL8.out.rd (by omega) n0 (by omega)).mono ?_
      rintro e u9 ⟨v9, _, rfl, r9, g9⟩
      have HL9 := Lib.hid (HL8.out.step r9 g9)
      clear HL8 r9 g9
      cases v9
      · skip
        obtain ⟨_, c0, c1, c2, c3, c4, f0, f1, f2, f3, f4⟩ := HL9.out.bx
        obtain ⟨_, z0, z1, z2, z3, z4, o0, o1, o2, o3, o4⟩ := HL9.out.z0
        have nzs : ¬ Z = w.heap.size := by have := HL9.out.zb; omega
        have nzs2 : ¬ w.heap.size = Z := fun e => nzs e.symm
        have HD := Lib.hid (HL9.out.done (N' := N + 200) (by omega))
        clear HL9
        go_wp2_with fail
        refine bodyPost_ret (v := inv9 RR LL AA NN aP P.length cP) ?_ rfl HD.out
        simp [results, Try.results83, go_sem, World.cell?_setCell_other, World.cell?_setCell_same, z0, z1, z2, z3, z4]
      · skip
        go_wp2_with fail
        refine (pick B _ b _ _ HL9.out.rd (by omega)).mono ?_
        rintro e u20 ⟨x20, x200, x201, rfl, r20, g20⟩
        replace x201 := x201 (by omega)
        have HL20 := Lib.hid (HL9.out.step r20 g20)
        clear HL9 r20 g20
        have hx20 : x20 = 0 ∨ x20 = 1 ∨ x20 = 2 ∨ x20 = 3 := by omega
        clear x200 x201
        rcases hx20 with rfl | rfl | rfl | rfl
        · skip
          obtain ⟨_, c0, c1, c2, c3, c4, f0, f1, f2, f3, f4⟩ := HL20.out.bx
          have HL21 := Lib.hid (show LI B b _ Z w ((u20.setCell ⟨Z, 4, none⟩ (.slice (some ⟨u20.heap.size, 0, none⟩) 3 3)).alloc (.cells #[.int .i64 1, .int .i64 2, .int .i64 3] 3)) RR LL AA NN [1, 2, 3] (some ⟨u20.heap.size, 0, none⟩) 3 from HL20.out.newP [1, 2, 3] 3 (by decide))
          go_upto_region 17 with fail
          clear c0 c1 c2 c3 c4 f0 f1 f2 f3 f4 HL20
          obtain ⟨P, hP⟩ : ∃ P, P = ([1, 2, 3] : List Int) := ⟨_, rfl⟩
          rw [← hP] at HL21
          generalize ((u20.setCell ⟨Z, 4, none⟩ (.slice (some ⟨u20.heap.size, 0, none⟩) 3 3)).alloc (.cells #[.int .i64 1, .int .i64 2, .int .i64 3] 3)) = u22 at *
          generalize (some (⟨u20.heap.size, 0, none⟩ : Addr)) = aP at *
          obtain ⟨cP, HL22⟩ : ∃ cP, Hid (LI B b (N + 150) Z w u22 RR LL AA NN P aP cP) := ⟨3, Lib.hid (HL21.out.mono (by omega))⟩
          clear HL21 hP
          obtain ⟨_, c0, c1, c2, c3, c4, f0, f1, f2, f3, f4⟩ := HL22.out.bx
          obtain ⟨_, z0, z1, z2, z3, z4, o0, o1, o2, o3, o4⟩ := HL22.out.z0
          have nzs : ¬ Z = w.heap.size := by have := HL22.out.zb; omega
          have nzs2 : ¬ w.heap.size = Z := fun e => nzs e.symm
          have HD := Lib.hid (HL22.out.done (N' := N + 200) (by omega))
          clear HL22
          go_wp2_with fail
          refine bodyPost_ret (v := inv9 RR LL AA NN aP P.length cP) ?_ rfl HD.out
          simp [results, Try.results83, go_sem, World.cell?_setCell_other, World.cell?_setCell_same, z0, z1, z2, z3, z4]
        · skip
          obtain ⟨_, c0, c1, c2, c3, c4, f0, f1, f2, f3, f4⟩ := HL20.out.bx
          have HL21 := Lib.hid (show LI B b _ Z w ((u20.setCell ⟨Z, 4, none⟩ (.slice (some ⟨u20.heap.size, 0, none⟩) 1 1)).alloc (.cells #[.int .i64 (-1)] 3)) RR LL AA NN [-1] (some ⟨u20.heap.size, 0, none⟩) 1 from HL20.out.newP [-1] 1 (by decide))
          go_upto_region 17 with fail
          clear c0 c1 c2 c3 c4 f0 f1 f2 f3 f4 HL20
          obtain ⟨P, hP⟩ : ∃ P, P = ([-1] : List Int) := ⟨_, rfl⟩
          rw [← hP] at HL21
          generalize ((u20.setCell ⟨Z, 4, none⟩ (.slice (some ⟨u20.heap.size, 0, none⟩) 1 1)).alloc (.cells #[.int .i64 (-1)] 3)) = u22 at *
          generalize (some (⟨u20.heap.size, 0, none⟩ : Addr)) = aP at *
          obtain ⟨cP, HL22⟩ : ∃ cP, Hid (LI B b (N + 150) Z w u22 RR LL AA NN P aP cP) := ⟨1, Lib.hid (HL21.out.mono (by omega))⟩
          clear HL21 hP
          obtain ⟨_, c0, c1, c2, c3, c4, f0, f1, f2, f3, f4⟩ := HL22.out.bx
          obtain ⟨_, z0, z1, z2, z3, z4, o0, o1, o2, o3, o4⟩ := HL22.out.z0
          have nzs : ¬ Z = w.heap.size := by have := HL22.out.zb; omega
          have nzs2 : ¬ w.heap.size = Z := fun e => nzs e.symm
          have HD := Lib.hid (HL22.out.done (N' := N + 200) (by omega))
          clear HL22
          go_wp2_with fail
          refine bodyPost_ret (v := inv9 RR LL AA NN aP P.length cP) ?_ rfl HD.out
          simp [results, Try.results83, go_sem, World.cell?_setCell_other, World.cell?_setCell_same, z0, z1, z2, z3, z4]
        · skip
          go_wp2_with fail
          have HL20a := Lib.hid (HL20.out.fr (Fr.alloc u20 (.cells #[.int .i64 (-1), .int .i64 256, .int .i64 1] 3)))
          refine (pick B _ b _ _ HL20a.out.rd (by omega)).mono ?_
          rintro e u21 ⟨x21, x210, x211, rfl, r21, g21⟩
          replace x211 := x211 (by omega)
          have HL21 := Lib.hid (HL20a.out.step r21 g21)
          obtain ⟨y21, hy21⟩ := row3_in HL20.out.rd.lt g21 x21 x210 x211
          obtain ⟨_, c0, c1, c2, c3, c4, f0, f1, f2, f3, f4⟩ := HL21.out.bx
          clear HL20 HL20a r21 g21
          go_upto_region 17 with fail
          clear c0 c1 c2 c3 c4 f0 f1 f2 f3 f4 hy21 x210 x211
          have HL22 := Lib.hid (HL21.out.setA y21)
          clear HL21
          generalize (u21.setCell ⟨Z, 2, none⟩ (.int .i64 y21)) = u22 at *
          obtain ⟨_, c0, c1, c2, c3, c4, f0, f1, f2, f3, f4⟩ := HL22.out.bx
          obtain ⟨_, z0, z1, z2, z3, z4, o0, o1, o2, o3, o4⟩ := HL22.out.z0
          have nzs : ¬ Z = w.heap.size := by have := HL22.out.zb; omega
          have nzs2 : ¬ w.heap.size = Z := fun e => nzs e.symm
          have HD := Lib.hid (HL22.out.done (N' := N + 200) (by omega))
          clear HL22
          go_wp2_with fail
          refine bodyPost_ret (v := inv9 RR LL y21 NN aP P.length cP) ?_ rfl HD.out
          simp [results, Try.results83, go_sem, World.cell?_setCell_other, World.cell?_setCell_same, z0, z1, z2, z3, z4]
        · skip
          go_wp2_with fail
          have HL20a := Lib.hid (HL20.out.fr (Fr.alloc u20 (.cells #[.int .i64 (-1), .int .i64 65536] 3)))
          refine (pick B _ b _ _ HL20a.out.rd (by omega)).mono ?_
          rintro e u21 ⟨x21, x210, x211, rfl, r21, g21⟩
          replace x211 := x211 (by omega)
          have HL21 := Lib.hid (HL20a.out.step r21 g21)
          obtain ⟨y21, hy21⟩ := row2_in HL20.out.rd.lt g21 x21 x210 x211
          obtain ⟨_, c0, c1, c2, c3, c4, f0, f1, f2, f3, f4⟩ := HL21.out.bx
          clear HL20 HL20a r21 g21
          go_upto_region 17 with fail
          clear c0 c1 c2 c3 c4 f0 f1 f2 f3 f4 hy21 x210 x211
          have HL22 := Lib.hid (HL21.out.setN y21)
          clear HL21
          generalize (u21.setCell ⟨Z, 3, none⟩ (.int .i64 y21)) = u22 at *
          obtain ⟨_, c0, c1, c2, c3, c4, f0, f1, f2, f3, f4⟩ := HL22.out.bx
          obtain ⟨_, z0, z1, z2, z3, z4, o0, o1, o2, o3, o4⟩ := HL22.out.z0
          have nzs : ¬ Z = w.heap.size := by have := HL22.out.zb; omega
          have nzs2 : ¬ w.heap.size = Z := fun e => nzs e.symm
          have HD := Lib.hid (HL22.out.done (N' := N + 200) (by omega))
          clear HL22
          go_wp2_with fail
          refine bodyPost_ret (v := inv9 RR LL AA y21 aP P.length cP) ?_ rfl HD.out
          simp [results, Try.results83, go_sem, World.cell?_setCell_other, World.cell?_setCell_same, z0, z1, z2, z3, z4]
    · skip
      obtain ⟨LL, hLL⟩ : ∃ LL, LL = false := ⟨_, rfl⟩
      obtain ⟨AA, hAA⟩ : ∃ AA : Int, AA = 0 := ⟨_, rfl⟩
      obtain ⟨NN, hNN⟩ : ∃ NN : Int, NN = 0 := ⟨_, rfl⟩
      go_upto_region 8 with fail
      have HL8 := Lib.hid (show LI B b _ Z w u5 RR LL AA NN P aP cP by rw [hLL, hAA, hNN]; exact HL5.out)
      generalize u5 = u8 at *
      clear HL5 hLL hAA hNN h5 x50 x51
      go_wp2_with fail
      refine (odd7 B _ b n _ HL8.out.rd (by omega) n0 (by omega)).mono ?_
      rintro e u9 ⟨v9, _, rfl, r9, g9⟩
      have HL9 := Lib.hid (HL8.out.step r9 g9)
      clear HL8 r9 g9
      cases v9
      · skip
        obtain ⟨_, c0, c1, c2, c3, c4, f0, f1, f2, f3, f4⟩ := HL9.out.bx
        obtain ⟨_, z0, z1, z2, z3, z4, o0, o1, o2, o3, o4⟩ := HL9.out.z0
        have nzs : ¬ Z = w.heap.size := by have := HL9.out.zb; omega
        have nzs2 : ¬ w.heap.size = Z := fun e => nzs e.symm
        have HD := Lib.hid (HL9.out.done (N' := N + 200) (by omega))
        clear HL9
        go_wp2_with fail
        refine bodyPost_ret (v := inv9 RR LL AA NN aP P.length cP) ?_ rfl HD.out
        simp [results, Try.results83, go_sem, World.cell?_setCell_other, World.cell?_setCell_same, z0, z1, z2, z3, z4]
      · skip
        go_wp2_with fail
        refine (pick B _ b _ _ HL9.out.rd (by omega)).mono ?_
        rintro e u20 ⟨x20, x200, x201, rfl, r20, g20⟩
        replace x201 := x201 (by omega)
        have HL20 := Lib.hid (HL9.out.step r20 g20)
        clear HL9 r20 g20
        have hx20 : x20 = 0 ∨ x20 = 1 ∨ x20 = 2 ∨ x20 = 3 := by omega
        clear x200 x201
        rcases hx20 with rfl | rfl | rfl | rfl
        · skip
          obtain ⟨_, c0, c1, c2, c3, c4, f0, f1, f2, f3, f4⟩ := HL20.out.bx
          have HL21 := Lib.hid (show LI B b _ Z w ((u20.setCell ⟨Z, 4, none⟩ (.slice (some ⟨u20.heap.size, 0, none⟩) 3 3)).alloc (.cells #[.int .i64 1, .int .i64 2, .int .i64 3] 3)) RR LL AA NN [1, 2, 3] (some ⟨u20.heap.size, 0, none⟩) 3 from HL20.out.newP [1, 2, 3] 3 (by decide))
          go_upto_region 17 with fail
          clear c0 c1 c2 c3 c4 f0 f1 f2 f3 f4 HL20
          obtain ⟨P, hP⟩ : ∃ P, P = ([1, 2, 3] : List Int) := ⟨_, rfl⟩
          rw [← hP] at HL21
          generalize ((u20.setCell ⟨Z, 4, none⟩ (.slice (some ⟨u20.heap.size, 0, none⟩) 3 3)).alloc (.cells #[.int .i64 1, .int .i64 2, .int .i64 3] 3)) = u22 at *
          generalize (some (⟨u20.heap.size, 0, none⟩ : Addr)) = aP at *
          obtain ⟨cP, HL22⟩ : ∃ cP, Hid (LI B b (N + 150) Z w u22 RR LL AA NN P aP cP) := ⟨3, Lib.hid (HL21.out.mono (by omega))⟩
          clear HL21 hP
          obtain ⟨_, c0, c1, c2, c3, c4, f0, f1, f2, f3, f4⟩ := HL22.out.bx
          obtain ⟨_, z0, z1, z2, z3, z4, o0, o1, o2, o3, o4⟩ := HL22.out.z0
          have nzs : ¬ Z = w.heap.size := by have := HL22.out.zb; omega
          have nzs2 : ¬ w.heap.size = Z := fun e => nzs e.symm
          have HD := Lib.hid (HL22.out.done (N' := N + 200) (by omega))
          clear HL22
          go_wp2_with fail
          refine bodyPost_ret (v := inv9 RR LL AA NN aP P.length cP) ?_ rfl HD.out
          simp [results, Try.results83, go_sem, World.cell?_setCell_other, World.cell?_setCell_same, z0, z1, z2, z3, z4]
        · skip
          obtain ⟨_, c0, c1, c2, c3, c4, f0, f1, f2, f3, f4⟩ := HL20.out.bx
          have HL21 := Lib.hid (show LI B b _ Z w ((u20.setCell ⟨Z, 4, none⟩ (.slice (some ⟨u20.heap.size, 0, none⟩) 1 1)).alloc (.cells #[.int .i64 (-1)] 3)) RR LL AA NN [-1] (some ⟨u20.heap.size, 0, none⟩) 1 from HL20.out.newP [-1] 1 (by decide))
          go_upto_region 17 with fail
          clear c0 c1 c2 c3 c4 f0 f1 f2 f3 f4 HL20
          obtain ⟨P, hP⟩ : ∃ P, P = ([-1] : List Int) := ⟨_, rfl⟩
          rw [← hP] at HL21
          generalize ((u20.setCell ⟨Z, 4, none⟩ (.slice (some ⟨u20.heap.size, 0, none⟩) 1 1)).alloc (.cells #[.int .i64 (-1)] 3)) = u22 at *
          generalize (some (⟨u20.heap.size, 0, none⟩ : Addr)) = aP at *
          obtain ⟨cP, HL22⟩ : ∃ cP, Hid (LI B b (N + 150) Z w u22 RR LL AA NN P aP cP) := ⟨1, Lib.hid (HL21.out.mono (by omega))⟩
          clear HL21 hP
          obtain ⟨_, c0, c1, c2, c3, c4, f0, f1, f2, f3, f4⟩ := HL22.out.bx
          obtain ⟨_, z0, z1, z2, z3, z4, o0, o1, o2, o3, o4⟩ := HL22.out.z0
          have nzs : ¬ Z = w.heap.size := by have := HL22.out.zb; omega
          have nzs2 : ¬ w.heap.size = Z := fun e => nzs e.symm
          have HD := Lib.hid (HL22.out.done (N' := N + 200) (by omega))
          clear HL22
          go_wp2_with fail
          refine bodyPost_ret (v := inv9 RR LL AA NN aP P.length cP) ?_ rfl HD.out
          simp [results, Try.results83, go_sem, World.cell?_setCell_other, World.cell?_setCell_same, z0, z1, z2, z3, z4]
        · skip
          go_wp2_with fail
          have HL20a := Lib.hid (HL20.out.fr (Fr.alloc u20 (.cells #[.int .i64 (-1), .int .i64 256, .int .i64 1] 3)))
          refine (pick B _ b _ _ HL20a.out.rd (by omega)).mono ?_
          rintro e u21 ⟨x21, x210, x211, rfl, r21, g21⟩
          replace x211 := x211 (by omega)
          have HL21 := Lib.hid (HL20a.out.step r21 g21)
          obtain ⟨y21, hy21⟩ := row3_in HL20.out.rd.lt g21 x21 x210 x211
          obtain ⟨_, c0, c1, c2, c3, c4, f0, f1, f2, f3, f4⟩ := HL21.out.bx
          clear HL20 HL20a r21 g21
          go_upto_region 17 with fail
          clear c0 c1 c2 c3 c4 f0 f1 f2 f3 f4 hy21 x210 x211
          have HL22 := Lib.hid (HL21.out.setA y21)
          clear HL21
          generalize (u21.setCell ⟨Z, 2, none⟩ (.int .i64 y21)) = u22 at *
          obtain ⟨_, c0, c1, c2, c3, c4, f0, f1, f2, f3, f4⟩ := HL22.out.bx
          obtain ⟨_, z0, z1, z2, z3, z4, o0, o1, o2, o3, o4⟩ := HL22.out.z0
          have nzs : ¬ Z = w.heap.size := by have := HL22.out.zb; omega
          have nzs2 : ¬ w.heap.size = Z := fun e => nzs e.symm
          have HD := Lib.hid (HL22.out.done (N' := N + 200) (by omega))
          clear HL22
          go_wp2_with fail
          refine bodyPost_ret (v := inv9 RR LL y21 NN aP P.length cP) ?_ rfl HD.out
          simp [results, Try.results83, go_sem, World.cell?_setCell_other, World.cell?_setCell_same, z0, z1, z2, z3, z4]
        · skip
          go_wp2_with fail
          have HL20a := Lib.hid (HL20.out.fr (Fr.alloc u20 (.cells #[.int .i64 (-1), .int .i64 65536] 3)))
          refine (pick B _ b _ _ HL20a.out.rd (by omega)).mono ?_
          rintro e u21 ⟨x21, x210, x211, rfl, r21, g21⟩
          replace x211 := x211 (by omega)
          have HL21 := Lib.hid (HL20a.out.step r21 g21)
          obtain ⟨y21, hy21⟩ := row2_in HL20.out.rd.lt g21 x21 x210 x211
          obtain ⟨_, c0, c1, c2, c3, c4, f0, f1, f2, f3, f4⟩ := HL21.out.bx
          clear HL20 HL20a r21 g21
          go_upto_region 17 with fail
          clear c0 c1 c2 c3 c4 f0 f1 f2 f3 f4 hy21 x210 x211
          have HL22 := Lib.hid (HL21.out.setN y21)
          clear HL21
          generalize (u21.setCell ⟨Z, 3, none⟩ (.int .i64 y21)) = u22 at *
          obtain ⟨_, c0, c1, c2, c3, c4, f0, f1, f2, f3, f4⟩ := HL22.out.bx
          obtain ⟨_, z0, z1, z2, z3, z4, o0, o1, o2, o3, o4⟩ := HL22.out.z0
          have nzs : ¬ Z = w.heap.size := by have := HL22.out.zb; omega
          have nzs2 : ¬ w.heap.size = Z := fun e => nzs e.symm
          have HD := Lib.hid (HL22.out.done (N' := N + 200) (by omega))
          clear HL22
          go_wp2_with fail
          refine bodyPost_ret (v := inv9 RR LL AA y21 aP P.length cP) ?_ rfl HD.out
          simp [results, Try.results83, go_sem, World.cell?_setCell_other, World.cell?_setCell_same, z0, z1, z2, z3, z4]
  · go_upto_region 4 with fail
    have HL4 := HLb
    clear HLb x40 x41
    generalize ub = u4 at *
    generalize ([x2, x3] : List Int) = P at *
    generalize (some (⟨G, 0, none⟩ : Addr)) = aP at *
    obtain ⟨cP, HL4⟩ : ∃ cP, Hid (LI B b (N + 10) Z w u4 RR false 0 0 P aP cP) := ⟨2, Lib.hid (HL4.out.mono (by omega))⟩
    go_wp2_with fail
    refine (pick B _ b _ _ HL4.out.rd (by omega)).mono ?_
    rintro e u5 ⟨x5, x50, x51, rfl, r5, g5⟩
    replace x51 := x51 (by omega)
    have HL5 := Lib.hid (HL4.out.step r5 g5)
    clear HL4 r5 g5
    by_cases h5 : x5 = 0
    · subst h5
      clear x50 x51
      obtain ⟨_, c0, c1, c2, c3, c4, f0, f1, f2, f3, f4⟩ := HL5.out.bx
      go_upto_region 6 with fail
      clear c0 c1 c2 c3 c4 f0 f1 f2 f3 f4
      have HL6 := Lib.hid (HL5.out.setL true)
      clear HL5
      generalize (u5.setCell ⟨Z, 1, none⟩ (.bool true)) = u6 at *
      go_wp2_with fail
      refine (pick B _ b _ _ HL6.out.rd (by omega)).mono ?_
      rintro e u10 ⟨x10, x100, x101, rfl, r10, g10⟩
      replace x101 := x101 (by omega)
      have HL10 := Lib.hid (HL6.out.step r10 g10)
      clear HL6 r10 g10
      go_wp2_with fail
      refine (pick B _ b _ _ HL10.out.rd (by omega)).mono ?_
      rintro e u11 ⟨x11, x110, x111, rfl, r11, g11⟩
      replace x111 := x111 (by omega)
      have HL11 := Lib.hid (HL10.out.step r11 g11)
      clear HL10 r11 g11
      go_wp2_with fail
      refine (pick B _ b _ _ HL11.out.rd (by omega)).mono ?_
      rintro e u12 ⟨x12, x120, x121, rfl, r12, g12⟩
      replace x121 := x121 (by omega)
      have HL12 := Lib.hid (HL11.out.step r12 g12)
      clear HL11 r12 g12
      go_wp2_with fail
      have HL12a := Lib.hid (HL12.out.fr (Fr.alloc u12 (.cells #[.int .i64 x10, .int .i64 (128 + x11), .int .i64 x12] 3)))
      refine (pick B _ b _ _ HL12a.out.rd (by omega)).mono ?_
      rintro e u13 ⟨x13, x130, x131, rfl, r13, g13⟩
      replace x131 := x131 (by omega)
      have HL13 := Lib.hid (HL12a.out.step r13 g13)
      obtain ⟨AA, hAA⟩ := row3_in HL12.out.rd.lt g13 x13 x130 x131
      obtain ⟨_, c0, c1, c2, c3, c4, f0, f1, f2, f3, f4⟩ := HL13.out.bx
      clear HL12 HL12a r13 g13
      go_upto_region 7 with fail
      clear c0 c1 c2 c3 c4 f0 f1 f2 f3 f4 hAA x130 x131 x100 x101 x110 x111 x120 x121
      have HL14 := Lib.hid (HL13.out.setA AA)
      clear HL13
      generalize (u13.setCell ⟨Z, 2, none⟩ (.int .i64 AA)) = u14 at *
      go_wp2_with fail
      refine (l20Word0 B _ b _ HL14.out.rd (by omega)).mono ?_
      rintro e u15 ⟨x15, _, _, rfl, r15, g15⟩
      have HL15 := Lib.hid (HL14.out.step r15 g15)
      clear HL14 r15 g15
      go_wp2_with fail
      refine (l20Inst0 B _ b _ HL15.out.rd (by omega)).mono ?_
      rintro e u16 ⟨ik, id, ia, ib, if', im, _, rfl, r16, g16⟩
      have HL16 := Lib.hid (HL15.out.step r16 g16)
      clear HL15 r16 g16
      go_wp2_with fail
      refine (spec_CodWord ik id ia ib if' im _).mono ?_
      rintro e u17 ⟨rfl, f17⟩
      have HL17 := Lib.hid (HL16.out.fr f17)
      generalize worD ik id ia ib if' im = x17
      clear HL16 f17
      go_wp2_with fail
      refine (pick B _ b _ _ HL17.out.rd (by omega)).mono ?_
      rintro e u18 ⟨x18, x180, x181, rfl, r18, g18⟩
      replace x181 := x181 (by omega)
      have HL18 := Lib.hid (HL17.out.step r18 g18)
      clear HL17 r18 g18
      go_wp2_with fail
      have HL18a := Lib.hid (HL18.out.fr (Fr.alloc u18 (.cells #[.int .i64 x15, .int .i64 x17, .int .i64 (48 + x18)] 3)))
      refine (pick B _ b _ _ HL18a.out.rd (by omega)).mono ?_
      rintro e u19 ⟨x19, x190, x191, rfl, r19, g19⟩
      replace x191 := x191 (by omega)
      have HL19 := Lib.hid (HL18a.out.step r19 g19)
      obtain ⟨NN, hNN⟩ := row3_in HL18.out.rd.lt g19 x19 x190 x191
      obtain ⟨_, c0, c1, c2, c3, c4, f0, f1, f2, f3, f4⟩ := HL19.out.bx
      clear HL18 HL18a r19 g19
      go_upto_region 8 with fail
      clear c0 c1 c2 c3 c4 f0 f1 f2 f3 f4 hNN x190 x191 x180 x181
      have HL8 := Lib.hid (HL19.out.setN NN)
      clear HL19
      generalize (u19.setCell ⟨Z, 3, none⟩ (.int .i64 NN)) = u8 at *
      obtain ⟨LL, hLL⟩ : ∃ LL, LL = true := ⟨_, rfl⟩
      rw [← hLL] at HL8
      clear hLL
      go_wp2_with fail
      refine (odd7 B _ b n _ HL8.out.rd (by omega) n0 (by omega)).mono ?_
      rintro e u9 ⟨v9, _, rfl, r9, g9⟩
      have HL9 := Lib.hid (HL8.out.step r9 g9)
      clear HL8 r9 g9
      cases v9
      · skip
        obtain ⟨_, c0, c1, c2, c3, c4, f0, f1, f2, f3, f4⟩ := HL9.out.bx
        obtain ⟨_, z0, z1, z2, z3, z4, o0, o1, o2, o3, o4⟩ := HL9.out.z0
        have nzs : ¬ Z = w.heap.size := by have := HL9.out.zb; omega
        have nzs2 : ¬ w.heap.size = Z := fun e => nzs e.symm
        have HD := Lib.hid (HL9.out.done (N' := N + 200) (by omega))
        clear HL9
        go_wp2_with fail
        refine bodyPost_ret (v := inv9 RR LL AA NN aP P.length cP) ?_ rfl HD.out
        simp [results, Try.results83, go_sem, World.cell?_setCell_other, World.cell?_setCell_same, z0, z1, z2, z3, z4]
      · skip
        go_wp2_with fail
        refine (pick B _ b _ _ HL9.out.rd (by omega)).mono ?_
        rintro e u20 ⟨x20, x200, x201, rfl, r20, g20⟩
        replace x201 := x201 (by omega)
        have HL20 := Lib.hid (HL9.out.step r20 g20)
        clear HL9 r20 g20
        have hx20 : x20 = 0 ∨ x20 = 1 ∨ x20 = 2 ∨ x20 = 3 := by omega
        clear x200 x201
        rcases hx20 with rfl | rfl | rfl | rfl
        · skip
          obtain ⟨_, c0, c1, c2, c3, c4, f0, f1, f2, f3, f4⟩ := HL20.out.bx
          have HL21 := Lib.hid (show LI B b _ Z w ((u20.setCell ⟨Z, 4, none⟩ (.slice (some ⟨u20.heap.size, 0, none⟩) 3 3)).alloc (.cells #[.int .i64 1, .int .i64 2, .int .i64 3] 3)) RR LL AA NN [1, 2, 3] (some ⟨u20.heap.size, 0, none⟩) 3 from HL20.out.newP [1, 2, 3] 3 (by decide))
          go_upto_region 17 with fail
          clear c0 c1 c2 c3 c4 f0 f1 f2 f3 f4 HL20
          obtain ⟨P, hP⟩ : ∃ P, P = ([1, 2, 3] : List Int) := ⟨_, rfl⟩
          rw [← hP] at HL21
          generalize ((u20.setCell ⟨Z, 4, none⟩ (.slice (some ⟨u20.heap.size, 0, none⟩) 3 3)).alloc (.cells #[.int .i64 1, .int .i64 2, .int .i64 3] 3)) = u22 at *
          generalize (some (⟨u20.heap.size, 0, none⟩ : Addr)) = aP at *
          obtain ⟨cP, HL22⟩ : ∃ cP, Hid (LI B b (N + 150) Z w u22 RR LL AA NN P aP cP) := ⟨3, Lib.hid (HL21.out.mono (by omega))⟩
          clear HL21 hP
          obtain ⟨_, c0, c1, c2, c3, c4, f0, f1, f2, f3, f4⟩ := HL22.out.bx
          obtain ⟨_, z0, z1, z2, z3, z4, o0, o1, o2, o3, o4⟩ := HL22.out.z0
          have nzs : ¬ Z = w.heap.size := by have := HL22.out.zb; omega
          have nzs2 : ¬ w.heap.size = Z := fun e => nzs e.symm
          have HD := Lib.hid (HL22.out.done (N' := N + 200) (by omega))
          clear HL22
          go_wp2_with fail
          refine bodyPost_ret (v := inv9 RR LL AA NN aP P.length cP) ?_ rfl HD.out
          simp [results, Try.results83, go_sem, World.cell?_setCell_other, World.cell?_setCell_same, z0, z1, z2, z3, z4]
        · skip
          obtain ⟨_, c0, c1, c2, c3, c4, f0, f1, f2, f3, f4⟩ := HL20.out.bx
          have HL21 := Lib.hid (show LI B b _ Z w ((u20.setCell ⟨Z, 4, none⟩ (.slice (some ⟨u20.heap.size, 0, none⟩) 1 1)).alloc (.cells #[.int .i64 (-1)] 3)) RR LL AA NN [-1] (some ⟨u20.heap.size, 0, none⟩) 1 from HL20.out.newP [-1] 1 (by decide))
          go_upto_region 17 with fail
          clear c0 c1 c2 c3 c4 f0 f1 f2 f3 f4 HL20
          obtain ⟨P, hP⟩ : ∃ P, P = ([-1] : List Int) := ⟨_, rfl⟩
          rw [← hP] at HL21
          generalize ((u20.setCell ⟨Z, 4, none⟩ (.slice (some ⟨u20.heap.size, 0, none⟩) 1 1)).alloc (.cells #[.int .i64 (-1)] 3)) = u22 at *
          generalize (some (⟨u20.heap.size, 0, none⟩ : Addr)) = aP at *
          obtain ⟨cP, HL22⟩ : ∃ cP, Hid (LI B b (N + 150) Z w u22 RR LL AA NN P aP cP) := ⟨1, Lib.hid (HL21.out.mono (by omega))⟩
          clear HL21 hP
          obtain ⟨_, c0, c1, c2, c3, c4, f0, f1, f2, f3, f4⟩ := HL22.out.bx
          obtain ⟨_, z0, z1, z2, z3, z4, o0, o1, o2, o3, o4⟩ := HL22.out.z0
          have nzs : ¬ Z = w.heap.size := by have := HL22.out.zb; omega
          have nzs2 : ¬ w.heap.size = Z := fun e => nzs e.symm
          have HD := Lib.hid (HL22.out.done (N' := N + 200) (by omega))
          clear HL22
          go_wp2_with fail
          refine bodyPost_ret (v := inv9 RR LL AA NN aP P.length cP) ?_ rfl HD.out
          simp [results, Try.results83, go_sem, World.cell?_setCell_other, World.cell?_setCell_same, z0, z1, z2, z3, z4]
        · skip
          go_wp2_with fail
          have HL20a := Lib.hid (HL20.out.fr (Fr.alloc u20 (.cells #[.int .i64 (-1), .int .i64 256, .int .i64 1] 3)))
          refine (pick B _ b _ _ HL20a.out.rd (by omega)).mono ?_
          rintro e u21 ⟨x21, x210, x211, rfl, r21, g21⟩
          replace x211 := x211 (by omega)
          have HL21 := Lib.hid (HL20a.out.step r21 g21)
          obtain ⟨y21, hy21⟩ := row3_in HL20.out.rd.lt g21 x21 x210 x211
          obtain ⟨_, c0, c1, c2, c3, c4, f0, f1, f2, f3, f4⟩ := HL21.out.bx
          clear HL20 HL20a r21 g21
          go_upto_region 17 with fail
          clear c0 c1 c2 c3 c4 f0 f1 f2 f3 f4 hy21 x210 x211
          have HL22 := Lib.hid (HL21.out.setA y21)
          clear HL21
          generalize (u21.setCell ⟨Z, 2, none⟩ (.int .i64 y21)) = u22 at *
          obtain ⟨_, c0, c1, c2, c3, c4, f0, f1, f2, f3, f4⟩ := HL22.out.bx
          obtain ⟨_, z0, z1, z2, z3, z4, o0, o1, o2, o3, o4⟩ := HL22.out.z0
          have nzs : ¬ Z = w.heap.size := by have := HL22.out.zb; omega
          have nzs2 : ¬ w.heap.size = Z := fun e => nzs e.symm
          have HD := Lib.hid (HL22.out.done (N' := N + 200) (by omega))
          clear HL22
          go_wp2_with fail
          refine bodyPost_ret (v := inv9 RR LL y21 NN aP P.length cP) ?_ rfl HD.out
          simp [results, Try.results83, go_sem, World.cell?_setCell_other, World.cell?_setCell_same, z0, z1, z2, z3, z4]
        · skip
          go_wp2_with fail
          have HL20a := Lib.hid (HL20.out.fr (Fr.alloc u20 (.cells #[.int .i64 (-1), .int .i64 65536] 3)))
          refine (pick B _ b _ _ HL20a.out.rd (by omega)).mono ?_
          rintro e u21 ⟨x21, x210, x211, rfl, r21, g21⟩
          replace x211 := x211 (by omega)
          have HL21 := Lib.hid (HL20a.out.step r21 g21)
          obtain ⟨y21, hy21⟩ := row2_in HL20.out.rd.lt g21 x21 x210 x211
          obtain ⟨_, c0, c1, c2, c3, c4, f0, f1, f2, f3, f4⟩ := HL21.out.bx
          clear HL20 HL20a r21 g21
          go_upto_region 17 with fail
          clear c0 c1 c2 c3 c4 f0 f1 f2 f3 f4 hy21 x210 x211
          have HL22 := Lib.hid (HL21.out.setN y21)
          clear HL21
          generalize (u21.setCell ⟨Z, 3, none⟩ (.int .i64 y21)) = u22 at *
          obtain ⟨_, c0, c1, c2, c3, c4, f0, f1, f2, f3, f4⟩ := HL22.out.bx
          obtain ⟨_, z0, z1, z2, z3, z4, o0, o1, o2, o3, o4⟩ := HL22.out.z0
          have nzs : ¬ Z = w.heap.size := by have := HL22.out.zb; omega
          have nzs2 : ¬ w.heap.size = Z := fun e => nzs e.symm
          have HD := Lib.hid (HL22.out.done (N' := N + 200) (by omega))
          clear HL22
          go_wp2_with fail
          refine bodyPost_ret (v := inv9 RR LL AA y21 aP P.length cP) ?_ rfl HD.out
          simp [results, Try.results83, go_sem, World.cell?_setCell_other, World.cell?_setCell_same, z0, z1, z2, z3, z4]
    · skip
      obtain ⟨LL, hLL⟩ : ∃ LL, LL = false := ⟨_, rfl⟩
      obtain ⟨AA, hAA⟩ : ∃ AA : Int, AA = 0 := ⟨_, rfl⟩
      obtain ⟨NN, hNN⟩ : ∃ NN : Int, NN = 0 := ⟨_, rfl⟩
      go_upto_region 8 with fail
      have HL8 := Lib.hid (show LI B b _ Z w u5 RR LL AA NN P aP cP by rw [hLL, hAA, hNN]; exact HL5.out)
      generalize u5 = u8 at *
      clear HL5 hLL hAA hNN h5 x50 x51
      go_wp2_with fail
      refine (odd7 B _ b n _ HL8.out.rd (by omega) n0 (by omega)).mono ?_
      rintro e u9 ⟨v9, _, rfl, r9, g9⟩
      have HL9 := Lib.hid (HL8.out.step r9 g9)
      clear HL8 r9 g9
      cases v9
      · skip
        obtain ⟨_, c0, c1, c2, c3, c4, f0, f1, f2, f3, f4⟩ := HL9.out.bx
        obtain ⟨_, z0, z1, z2, z3, z4, o0, o1, o2, o3, o4⟩ := HL9.out.z0
        have nzs : ¬ Z = w.heap.size := by have := HL9.out.zb; omega
        have nzs2 : ¬ w.heap.size = Z := fun e => nzs e.symm
        have HD := Lib.hid (HL9.out.done (N' := N + 200) (by omega))
        clear HL9
        go_wp2_with fail
        refine bodyPost_ret (v := inv9 RR LL AA NN aP P.length cP) ?_ rfl HD.out
        simp [results, Try.results83, go_sem, World.cell?_setCell_other, World.cell?_setCell_same, z0, z1, z2, z3, z4]
      · skip
        go_wp2_with fail
        refine (pick B _ b _ _ HL9.out.rd (by omega)).mono ?_
        rintro e u20 ⟨x20, x200, x201, rfl, r20, g20⟩
        replace x201 := x201 (by omega)
        have HL20 := Lib.hid (HL9.out.step r20 g20)
        clear HL9 r20 g20
        have hx20 : x20 = 0 ∨ x20 = 1 ∨ x20 = 2 ∨ x20 = 3 := by omega
        clear x200 x201
        rcases hx20 with rfl | rfl | rfl | rfl
        · skip
          obtain ⟨_, c0, c1, c2, c3, c4, f0, f1, f2, f3, f4⟩ := HL20.out.bx
          have HL21 := Lib.hid (show LI B b _ Z w ((u20.setCell ⟨Z, 4, none⟩ (.slice (some ⟨u20.heap.size, 0, none⟩) 3 3)).alloc (.cells #[.int .i64 1, .int .i64 2, .int .i64 3] 3)) RR LL AA NN [1, 2, 3] (some ⟨u20.heap.size, 0, none⟩) 3 from HL20.out.newP [1, 2, 3] 3 (by decide))
          go_upto_region 17 with fail
          clear c0 c1 c2 c3 c4 f0 f1 f2 f3 f4 HL20
          obtain ⟨P, hP⟩ : ∃ P, P = ([1, 2, 3] : List Int) := ⟨_, rfl⟩
          rw [← hP] at HL21
          generalize ((u20.setCell ⟨Z, 4, none⟩ (.slice (some ⟨u20.heap.size, 0, none⟩) 3 3)).alloc (.cells #[.int .i64 1, .int .i64 2, .int .i64 3] 3)) = u22 at *
          generalize (some (⟨u20.heap.size, 0, none⟩ : Addr)) = aP at *
          obtain ⟨cP, HL22⟩ : ∃ cP, Hid (LI B b (N + 150) Z w u22 RR LL AA NN P aP cP) := ⟨3, Lib.hid (HL21.out.mono (by omega))⟩
          clear HL21 hP
          obtain ⟨_, c0, c1, c2, c3, c4, f0, f1, f2, f3, f4⟩ := HL22.out.bx
          obtain ⟨_, z0, z1, z2, z3, z4, o0, o1, o2, o3, o4⟩ := HL22.out.z0
          have nzs : ¬ Z = w.heap.size := by have := HL22.out.zb; omega
          have nzs2 : ¬ w.heap.size = Z := fun e => nzs e.symm
          have HD := Lib.hid (HL22.out.done (N' := N + 200) (by omega))
          clear HL22
          go_wp2_with fail
          refine bodyPost_ret (v := inv9 RR LL AA NN aP P.length cP) ?_ rfl HD.out
          simp [results, Try.results83, go_sem, World.cell?_setCell_other, World.cell?_setCell_same, z0, z1, z2, z3, z4]
        · skip
          obtain ⟨_, c0, c1, c2, c3, c4, f0, f1, f2, f3, f4⟩ := HL20.out.bx
          have HL21 := Lib.hid (show LI B b _ Z w ((u20.setCell ⟨Z, 4, none⟩ (.slice (some ⟨u20.heap.size, 0, none⟩) 1 1)).alloc (.cells #[.int .i64 (-1)] 3)) RR LL AA NN [-1] (some ⟨u20.heap.size, 0, none⟩) 1 from HL20.out.newP [-1] 1 (by decide))
          go_upto_region 17 with fail
          clear c0 c1 c2 c3 c4 f0 f1 f2 f3 f4 HL20
          obtain ⟨P, hP⟩ : ∃ P, P = ([-1] : List Int) := ⟨_, rfl⟩
          rw [← hP] at HL21
          generalize ((u20.setCell ⟨Z, 4, none⟩ (.slice (some ⟨u20.heap.size, 0, none⟩) 1 1)).alloc (.cells #[.int .i64 (-1)] 3)) = u22 at *
          generalize (some (⟨u20.heap.size, 0, none⟩ : Addr)) = aP at *
          obtain ⟨cP, HL22⟩ : ∃ cP, Hid (LI B b (N + 150) Z w u22 RR LL AA NN P aP cP) := ⟨1, Lib.hid (HL21.out.mono (by omega))⟩
          clear HL21 hP
          obtain ⟨_, c0, c1, c2, c3, c4, f0, f1, f2, f3, f4⟩ := HL22.out.bx
          obtain ⟨_, z0, z1, z2, z3, z4, o0, o1, o2, o3, o4⟩ := HL22.out.z0
          have nzs : ¬ Z = w.heap.size := by have := HL22.out.zb; omega
          have nzs2 : ¬ w.heap.size = Z := fun e => nzs e.symm
          have HD := Lib.hid (HL22.out.done (N' := N + 200) (by omega))
          clear HL22
          go_wp2_with fail
          refine bodyPost_ret (v := inv9 RR LL AA NN aP P.length cP) ?_ rfl HD.out
          simp [results, Try.results83, go_sem, World.cell?_setCell_other, World.cell?_setCell_same, z0, z1, z2, z3, z4]
        · skip
          go_wp2_with fail
          have HL20a := Lib.hid (HL20.out.fr (Fr.alloc u20 (.cells #[.int .i64 (-1), .int .i64 256, .int .i64 1] 3)))
          refine (pick B _ b _ _ HL20a.out.rd (by omega)).mono ?_
          rintro e u21 ⟨x21, x210, x211, rfl, r21, g21⟩
          replace x211 := x211 (by omega)
          have HL21 := Lib.hid (HL20a.out.step r21 g21)
          obtain ⟨y21, hy21⟩ := row3_in HL20.out.rd.lt g21 x21 x210 x211
          obtain ⟨_, c0, c1, c2, c3, c4, f0, f1, f2, f3, f4⟩ := HL21.out.bx
          clear HL20 HL20a r21 g21
          go_upto_region 17 with fail
          clear c0 c1 c2 c3 c4 f0 f1 f2 f3 f4 hy21 x210 x211
          have HL22 := Lib.hid (HL21.out.setA y21)
          clear HL21
          generalize (u21.setCell ⟨Z, 2, none⟩ (.int .i64 y21)) = u22 at *
          obtain ⟨_, c0, c1, c2, c3, c4, f0, f1, f2, f3, f4⟩ := HL22.out.bx
          obtain ⟨_, z0, z1, z2, z3, z4, o0, o1, o2, o3, o4⟩ := HL22.out.z0
          have nzs : ¬ Z = w.heap.size := by have := HL22.out.zb; omega
          have nzs2 : ¬ w.heap.size = Z := fun e => nzs e.symm
          have HD := Lib.hid (HL22.out.done (N' := N + 200) (by omega))
          clear HL22
          go_wp2_with fail
          refine bodyPost_ret (v := inv9 RR LL y21 NN aP P.length cP) ?_ rfl HD.out
          simp [results, Try.results83, go_sem, World.cell?_setCell_other, World.cell?_setCell_same, z0, z1, z2, z3, z4]
        · skip
          go_wp2_with fail
          have HL20a := Lib.hid (HL20.out.fr (Fr.alloc u20 (.cells #[.int .i64 (-1), .int .i64 65536] 3)))
          refine (pick B _ b _ _ HL20a.out.rd (by omega)).mono ?_
          rintro e u21 ⟨x21, x210, x211, rfl, r21, g21⟩
          replace x211 := x211 (by omega)
          have HL21 := Lib.hid (HL20a.out.step r21 g21)
          obtain ⟨y21, hy21⟩ := row2_in HL20.out.rd.lt g21 x21 x210 x211
          obtain ⟨_, c0, c1, c2, c3, c4, f0, f1, f2, f3, f4⟩ := HL21.out.bx
          clear HL20 HL20a r21 g21
          go_upto_region 17 with fail
          clear c0 c1 c2 c3 c4 f0 f1 f2 f3 f4 hy21 x210 x211
          have HL22 := Lib.hid (HL21.out.setN y21)
          clear HL21
          generalize (u21.setCell ⟨Z, 3, none⟩ (.int .i64 y21)) = u22 at *
          obtain ⟨_, c0, c1, c2, c3, c4, f0, f1, f2, f3, f4⟩ := HL22.out.bx
          obtain ⟨_, z0, z1, z2, z3, z4, o0, o1, o2, o3, o4⟩ := HL22.out.z0
          have nzs : ¬ Z = w.heap.size := by have := HL22.out.zb; omega
          have nzs2 : ¬ w.heap.size = Z := fun e => nzs e.symm
          have HD := Lib.hid (HL22.out.done (N' := N + 200) (by omega))
          clear HL22
          go_wp2_with fail
          refine bodyPost_ret (v := inv9 RR LL AA y21 aP P.length cP) ?_ rfl HD.out
          simp [results, Try.results83, go_sem, World.cell?_setCell_other, World.cell?_setCell_same, z0, z1, z2, z3, z4]
/-- What comes from outside, drawn, and nothing that was there has turned. -/
def OneIn (w : World) (e : Ending) (w' : World) : Prop := ∃ r l a n P aP cP, List.length P ≤ 3 ∧ e = .returned (inv9 r l a n aP P.length cP) ∧ Src w' P.length (ivl P) aP ∧ Fr w w'
set_option maxRecDepth 8000 in
set_option maxHeartbeats 2000000 in
theorem DrawInOk (s : Option Addr) (len cap : Nat) (w : World) (h : Code1 w.heap.size w s len cap) : Calls Try.prog 45 #[.slice s len cap] w (OneIn w) := by
  have HZ := Lib.hid (Box5.new w (.bool false) (.bool false) (.int .i64 0) (.int .i64 0) (.slice none 0 0) 46 _ rfl)
  have HF := Lib.hid (Fr.alloc w (.cells #[.bool false, .bool false, .int .i64 0, .int .i64 0, .slice none 0 0] 46))
  have hs0 : (w.alloc (.cells #[.bool false, .bool false, .int .i64 0, .int .i64 0, .slice none 0 0] 46)).heap.size = w.heap.size + 1 := by simp
  have HC := Lib.hid (h.below HF.out)
  clear h
  go_enter Try.func45, Try.ntmps45
  go_wp2_with fail
  generalize (w.alloc (.cells #[.bool false, .bool false, .int .i64 0, .int .i64 0, .slice none 0 0] 46)) = w0 at *
  refine (opens _ s len cap w0 HC.out).mono ?_
  rintro e w1 ⟨rfl, r1, b1⟩
  have hs1 := b1.size
  rw [hs0] at r1
  have lb := r1.lt
  go_wp2_with fail
  refine (l20In _ _ _ 2 w1 r1 (by omega) (by omega) (by omega)).mono ?_
  rintro e w2 ⟨r, l, a, n, P, aP, cP, hf, rfl, r2, g2, hS⟩
  have HZ2 := Lib.hid ((HZ.out.fr b1).but (but_row g2) (by simp))
  have HB2 := Lib.hid (HF.out.trans (grown_below7 hs0 b1 g2))
  have HS2 := Lib.hid hS
  clear hS r2 g2 r1 HZ HF HC
  obtain ⟨_, z0, z1, z2, z3, z4, o0, o1, o2, o3, o4⟩ := HZ2.out
  dsimp only [inv9]
  go_wp2_with fail
  refine bodyPost_ret (v := inv9 r l a n aP P.length cP) (by simp [results, Try.results45, go_sem, World.cell?_setCell_other, World.cell?_setCell_same, z0, z1, z2, z3, z4]) rfl ⟨r, l, a, n, P, aP, cP, hf, rfl, ?_, ?_⟩
  · exact HS2.out [w.heap.size] _ ((But.refl [w.heap.size] w2).set5 w.heap.size _ _ _ _ _ (.inl (by simp))) (fun k m => by have := List.mem_singleton.1 m; omega)
  · exact fr_but HB2.out ((But.refl [w.heap.size] w2).set5 w.heap.size _ _ _ _ _ (.inl (by simp))) (fun k m => by have := List.mem_singleton.1 m; omega)

end Go.Proofs.Ytoacgjjpipdkjaa
