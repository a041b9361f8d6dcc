/- Chapter 3: the model reads an instruction's words. Chapter 3: the model reads an instruction. -/
import Derived.Test.YtoacgjjpipdkjaaTx
import Derived.Test.YtoacgjjpipdkjaaRegion
namespace Go.Proofs.Ytoacgjjpipdkjaa
open Go.RowKit
set_option linter.unusedVariables false

theorem Wds.next {u : World} {x : List UInt8} {t : List (List UInt8)} {g off cap : Nat} (hcap : t.length + 1 ≤ cap) (hmx : cap ≤ maxLen) (hg : g < u.heap.size) (hw : ∀ i, i < t.length + 1 → u.cell? ⟨g, off + i, none⟩ = some (.string (bs ((x :: t).getD i [])))) (ao : Option Addr) (hao : 0 < t.length → ao = some ⟨g, off + 1, none⟩) : Wds u (.slice ao t.length (cap - 1)) t := by
  refine ⟨ao, cap - 1, rfl, by omega, by omega, fun h0 => ⟨g, off + 1, hao h0, hg, fun i hi => ?_⟩⟩
  rw [show off + 1 + i = off + (i + 1) by omega, hw (i + 1) (by omega)]
  simp
theorem below6s {B : Nat} {w u : World} (h : Below B w u) {Z : Nat} (hZ : B ≤ Z) (v0 v1 v2 v3 v4 v5 : Value) : Below B w ((((((u.setCell ⟨Z, 0, none⟩ v0).setCell ⟨Z, 1, none⟩ v1).setCell ⟨Z, 2, none⟩ v2).setCell ⟨Z, 3, none⟩ v3).setCell ⟨Z, 4, none⟩ v4).setCell ⟨Z, 5, none⟩ v5) :=
  Below.setCell (Below.setCell (Below.setCell (Below.setCell (Below.setCell (Below.setCell h (show B ≤ Z from hZ) _) (show B ≤ Z from hZ) _) (show B ≤ Z from hZ) _) (show B ≤ Z from hZ) _) (show B ≤ Z from hZ) _) (show B ≤ Z from hZ) _
/-- The blocks of a call of l3Inst. -/
structure JW (Z Cb Lb Hb : Nat) (kk ff : Int) (fs : List Int) (u : World) : Prop where
  zc : ∀ j, j < 6 → u.cell? ⟨Z, j, none⟩ = some (.int .i64 0)
  zz : ∀ j, j < 6 → u.frozen? ⟨Z, j, none⟩ = false
  cb : Box u Cb kk 0 0 0 ff 0
  cz : ∀ j, j < 6 → u.frozen? ⟨Cb, j, none⟩ = false
  lb : ∀ j, j < 3 → u.cell? ⟨Lb, j, none⟩ = some (.int .i64 (fs.getD j 0))
  lz : ∀ j, j < 3 → u.frozen? ⟨Lb, j, none⟩ = false
  hb : ∀ j, j < 3 → u.cell? ⟨Hb, j, none⟩ = some (.bool ([hD kk, hA kk, hB kk].getD j false))
  o1 : Z < Cb
  o2 : Cb < Lb
  o3 : Lb < Hb
  o4 : Hb < u.heap.size
theorem JW.fr {Z Cb Lb Hb : Nat} {kk ff : Int} {fs : List Int} {u u' : World} (h : JW Z Cb Lb Hb kk ff fs u) (f : Fr u u') : JW Z Cb Lb Hb kk ff fs u' := by
  obtain ⟨h1, h2, h3, h4, h5, h6, h7, o1, o2, o3, o4⟩ := h
  have hs := f.size
  exact ⟨fun j hj => by rw [f.cell (show Z < u.heap.size by omega)]; exact h1 j hj, fun j hj => by rw [f.frozen (show Z < u.heap.size by omega)]; exact h2 j hj, h3.fr f, fun j hj => by rw [f.frozen (show Cb < u.heap.size by omega)]; exact h4 j hj, fun j hj => by rw [f.cell (show Lb < u.heap.size by omega)]; exact h5 j hj, fun j hj => by rw [f.frozen (show Lb < u.heap.size by omega)]; exact h6 j hj, fun j hj => by rw [f.cell (show Hb < u.heap.size by omega)]; exact h7 j hj, o1, o2, o3, by omega⟩
theorem JW.set {Z Cb Lb Hb : Nat} {kk ff v : Int} {fs : List Int} {u : World} {q : Nat} (h : JW Z Cb Lb Hb kk ff fs u) (hq : q < 3) (hl : fs.length = 5) : JW Z Cb Lb Hb kk ff (fs.set q v) (u.setCell ⟨Lb, q, none⟩ (.int .i64 v)) := by
  obtain ⟨h1, h2, h3, h4, h5, h6, h7, o1, o2, o3, o4⟩ := h
  have oth : ∀ g j, g ≠ Lb → (u.setCell ⟨Lb, q, none⟩ (.int .i64 v)).cell? ⟨g, j, none⟩ = u.cell? ⟨g, j, none⟩ := fun g j hg => World.cell?_setCell_other _ _ _ _ (by first | (simp; done) | (simp; omega))
  refine ⟨fun j hj => by rw [oth Z j (by omega)]; exact h1 j hj, fun j hj => by rw [World.frozen?_setCell]; exact h2 j hj, ?_, fun j hj => by rw [World.frozen?_setCell]; exact h4 j hj, fun j hj => ?_, fun j hj => by rw [World.frozen?_setCell]; exact h6 j hj, fun j hj => by rw [oth Hb j (by omega)]; exact h7 j hj, o1, o2, o3, by simp [World.setCell]; omega⟩
  · obtain ⟨x0, x1, x2, x3, x4, x5⟩ := h3
    exact ⟨(oth Cb 0 (by omega)).trans x0, (oth Cb 1 (by omega)).trans x1, (oth Cb 2 (by omega)).trans x2, (oth Cb 3 (by omega)).trans x3, (oth Cb 4 (by omega)).trans x4, (oth Cb 5 (by omega)).trans x5⟩
  · by_cases e : j = q
    · subst e
      rw [World.cell?_setCell_same _ _ _ (h5 j hj)]
      simp [List.getD_eq_getElem?_getD, hl, show j < 5 by omega]
    · rw [World.cell?_setCell_other _ _ _ _ (by first | (simp; done) | (simp; omega)), h5 j hj, List.getD_eq_getElem?_getD, List.getD_eq_getElem?_getD, List.getElem?_set_ne (by omega)]
/-- The end of l3Inst: the instruction lies in block Cb; whether the result is stored. -/
structure FinW (w : World) (Z Cb : Nat) (k d a b f n : Int) (st : Bool) (u : World) : Prop where
  fw : Fr w u
  bx : Box u Cb k d a b f n
  zc : ∀ j, j < 6 → u.cell? ⟨Z, j, none⟩ = some (.int .i64 (if st = true then [k, d, a, b, f, n].getD j 0 else 0))
  zz : ∀ j, j < 6 → u.frozen? ⟨Z, j, none⟩ = false
  lo : w.heap.size ≤ Z
  ne : Z < Cb
theorem FinW.drew {w : World} {Z Cb : Nat} {k d a b f n : Int} {st : Bool} {u : World} (h : FinW w Z Cb k d a b f n st u) : FinW w Z Cb k d a b f n st u.drew := ⟨Below.drew h.fw, ⟨h.bx.c0, h.bx.c1, h.bx.c2, h.bx.c3, h.bx.c4, h.bx.c5⟩, h.zc, h.zz, h.lo, h.ne⟩
theorem FinW.fr {w : World} {Z Cb : Nat} {k d a b f n : Int} {st : Bool} {u u' : World} (h : FinW w Z Cb k d a b f n st u) (g : Fr u u') : FinW w Z Cb k d a b f n st u' := by
  have hl := h.bx.lt
  have hn := h.ne
  exact ⟨h.fw.trans g, h.bx.fr g, fun j hj => by rw [g.cell (show Z < u.heap.size by omega)]; exact h.zc j hj, fun j hj => by rw [g.frozen (show Z < u.heap.size by omega)]; exact h.zz j hj, h.lo, h.ne⟩
theorem get_oth {u : World} {g Z j j' : Nat} {v : Value} (h : g ≠ Z ∨ j ≠ j') : (u.setCell ⟨Z, j', none⟩ v).cell? ⟨g, j, none⟩ = u.cell? ⟨g, j, none⟩ := World.cell?_setCell_other _ _ _ _ (fun e => by
  injection e with e1 e2
  rcases h with h | h
  · exact h e1.symm
  · exact h e2.symm)
theorem set_z {u : World} {Z : Nat} {x0 x1 x2 x3 x4 x5 : Value} (h : ∀ j, j < 6 → ∃ v, u.cell? ⟨Z, j, none⟩ = some v) : ∀ j, j < 6 → ((((((u.setCell ⟨Z, 0, none⟩ x0).setCell ⟨Z, 1, none⟩ x1).setCell ⟨Z, 2, none⟩ x2).setCell ⟨Z, 3, none⟩ x3).setCell ⟨Z, 4, none⟩ x4).setCell ⟨Z, 5, none⟩ x5).cell? ⟨Z, j, none⟩ = some ([x0, x1, x2, x3, x4, x5].getD j undef) := by
  obtain ⟨v0, h0⟩ := h 0 (by omega)
  obtain ⟨v1, h1⟩ := h 1 (by omega)
  obtain ⟨v2, h2⟩ := h 2 (by omega)
  obtain ⟨v3, h3⟩ := h 3 (by omega)
  obtain ⟨v4, h4⟩ := h 4 (by omega)
  obtain ⟨v5, h5⟩ := h 5 (by omega)
  intro j hj
  have e : j = 0 ∨ j = 1 ∨ j = 2 ∨ j = 3 ∨ j = 4 ∨ j = 5 := by omega
  rcases e with rfl | rfl | rfl | rfl | rfl | rfl
  · rw [get_oth (.inr (by decide)), get_oth (.inr (by decide)), get_oth (.inr (by decide)), get_oth (.inr (by decide)), get_oth (.inr (by decide)), World.cell?_setCell_same _ _ _ (h0)]; rfl
  · rw [get_oth (.inr (by decide)), get_oth (.inr (by decide)), get_oth (.inr (by decide)), get_oth (.inr (by decide)), World.cell?_setCell_same _ _ _ (by rw [get_oth (.inr (by decide))]; exact h1)]; rfl
  · rw [get_oth (.inr (by decide)), get_oth (.inr (by decide)), get_oth (.inr (by decide)), World.cell?_setCell_same _ _ _ (by rw [get_oth (.inr (by decide)), get_oth (.inr (by decide))]; exact h2)]; rfl
  · rw [get_oth (.inr (by decide)), get_oth (.inr (by decide)), World.cell?_setCell_same _ _ _ (by rw [get_oth (.inr (by decide)), get_oth (.inr (by decide)), get_oth (.inr (by decide))]; exact h3)]; rfl
  · rw [get_oth (.inr (by decide)), World.cell?_setCell_same _ _ _ (by rw [get_oth (.inr (by decide)), get_oth (.inr (by decide)), get_oth (.inr (by decide)), get_oth (.inr (by decide))]; exact h4)]; rfl
  · rw [World.cell?_setCell_same _ _ _ (by rw [get_oth (.inr (by decide)), get_oth (.inr (by decide)), get_oth (.inr (by decide)), get_oth (.inr (by decide)), get_oth (.inr (by decide))]; exact h5)]; rfl
theorem FinW.store {w : World} {Z Cb : Nat} {k d a b f n : Int} {u : World} (h : FinW w Z Cb k d a b f n false u) : FinW w Z Cb k d a b f n true ((((((u.setCell ⟨Z, 0, none⟩ (.int .i64 k)).setCell ⟨Z, 1, none⟩ (.int .i64 d)).setCell ⟨Z, 2, none⟩ (.int .i64 a)).setCell ⟨Z, 3, none⟩ (.int .i64 b)).setCell ⟨Z, 4, none⟩ (.int .i64 f)).setCell ⟨Z, 5, none⟩ (.int .i64 n)) := by
  have hn := h.ne
  refine ⟨below6s h.fw h.lo _ _ _ _ _ _, ?_, fun j hj => ?_, fun j hj => by simp only [World.frozen?_setCell]; exact h.zz j hj, h.lo, h.ne⟩
  · have b6 : Below (Z + 1) u u := Below.refl _ _
    obtain ⟨x0, x1, x2, x3, x4, x5⟩ := h.bx
    have oth : ∀ (uu : World) (j' j : Nat) (v : Value), (uu.setCell ⟨Z, j', none⟩ v).cell? ⟨Cb, j, none⟩ = uu.cell? ⟨Cb, j, none⟩ := fun uu j' j v => get_oth (.inl (by omega))
    exact ⟨by simp only [oth]; exact x0, by simp only [oth]; exact x1, by simp only [oth]; exact x2, by simp only [oth]; exact x3, by simp only [oth]; exact x4, by simp only [oth]; exact x5⟩
  · rw [set_z (fun j hj => ⟨_, h.zc j hj⟩) j hj]
    have e : j = 0 ∨ j = 1 ∨ j = 2 ∨ j = 3 ∨ j = 4 ∨ j = 5 := by omega
    rcases e with rfl | rfl | rfl | rfl | rfl | rfl <;> rfl
theorem FinW.setN {w : World} {Z Cb : Nat} {k d a b f n v : Int} {u : World} (h : FinW w Z Cb k d a b f n false u) : FinW w Z Cb k d a b f v false (u.setCell ⟨Cb, 5, none⟩ (.int .i64 v)) := by
  have o1 := h.ne
  have hl := h.lo
  obtain ⟨x0, x1, x2, x3, x4, x5⟩ := h.bx
  have oth : ∀ (uu : World) (j' j : Nat) (v : Value), (uu.setCell ⟨Cb, j', none⟩ v).cell? ⟨Z, j, none⟩ = uu.cell? ⟨Z, j, none⟩ := fun uu j' j v => get_oth (.inl (by omega))
  refine ⟨Below.setCell h.fw (show w.heap.size ≤ Cb by omega) _, ⟨?_, ?_, ?_, ?_, ?_, ?_⟩, fun j hj => by simp only [oth]; exact h.zc j hj, fun j hj => by simp only [World.frozen?_setCell]; exact h.zz j hj, hl, o1⟩
  · rw [get_oth (.inr (by decide))]; exact x0
  · rw [get_oth (.inr (by decide))]; exact x1
  · rw [get_oth (.inr (by decide))]; exact x2
  · rw [get_oth (.inr (by decide))]; exact x3
  · rw [get_oth (.inr (by decide))]; exact x4
  · rw [World.cell?_setCell_same _ _ _ (x5)]
end Go.Proofs.Ytoacgjjpipdkjaa
