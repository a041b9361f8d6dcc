/- CodRead of the model. Numbers: what the laws of chapter 2 ask. -/
import Derived.BigRegion
import Derived.Deep.DeepCutAuto
import Derived.Test.YtoacgjjpipdkjaaCodOk
import Derived.Test.YtoacgjjpipdkjaaCodRd
namespace Go.Proofs.Ytoacgjjpipdkjaa
open Go.RowKit
set_option linter.unusedVariables false
structure SdW (Z : Nat) (w : World) (k x : Int) (p : Nat) (u : World) : Prop where
  bel : Below Z w u
  siz : Z + 4 ≤ u.heap.size
  zs : ∀ j, j < 6 → u.cell? ⟨Z, j, none⟩ = some (.int .i64 0)
  zsf : ∀ j, j < 6 → u.frozen? ⟨Z, j, none⟩ = false
  c0 : u.cell? ⟨Z + 1, 0, none⟩ = some (.int .i64 k)
  cs : ∀ j, j < 5 → u.cell? ⟨Z + 1, j + 1, none⟩ = some (.int .i64 0)
  csf : ∀ j, j < 6 → u.frozen? ⟨Z + 1, j, none⟩ = false
  ls : ∀ j, j < 4 → u.cell? ⟨Z + 2, j, none⟩ = some (.int .i64 (if j < p then slv k x j else 0))
  lsf : ∀ j, j < 4 → u.frozen? ⟨Z + 2, j, none⟩ = false
  hs : ∀ j, j < 4 → u.cell? ⟨Z + 3, j, none⟩ = some (.bool ((hasL k).getD j false))
theorem SdW.skip {Z : Nat} {w u : World} {k x : Int} {p : Nat} (h : SdW Z w k x p u) (hp : (hasL k).getD p false = false) : SdW Z w k x (p + 1) u := by
  refine ⟨h.bel, h.siz, h.zs, h.zsf, h.c0, h.cs, h.csf, fun j hj => ?_, h.lsf, h.hs⟩
  rw [h.ls j hj]
  by_cases e : j = p
  · subst e
    have : slv k x j = 0 := if_neg (by rw [hp]; decide)
    simp [this]
  · have e1 : j < p ↔ j < p + 1 := by omega
    simp only [e1]
theorem SdW.store {Z : Nat} {w u : World} {k x : Int} {p : Nat} (h : SdW Z w k x p u) (hp4 : p < 4) (hp : (hasL k).getD p false = true) (v : Int) (hv : v = x / 2 ^ (sl k (p + 1)).toNat % 8) : SdW Z w k x (p + 1) (u.setCell ⟨Z + 2, p, none⟩ (.int .i64 v)) := by
  have hs := h.siz
  have hb : Below (Z + 2) u (u.setCell ⟨Z + 2, p, none⟩ (.int .i64 v)) := Below.setCell (Below.refl _ _) (show Z + 2 ≤ Z + 2 from Nat.le_refl _) _
  refine ⟨h.bel.trans (hb.mono (by omega)), by simpa [World.setCell] using hs, fun j hj => ?_, fun j hj => ?_, ?_, fun j hj => ?_, fun j hj => ?_, fun j hj => ?_, fun j hj => ?_, fun j hj => ?_⟩
  · rw [hb.cell (show Z < Z + 2 by omega)]; exact h.zs j hj
  · rw [hb.frozen (show Z < Z + 2 by omega)]; exact h.zsf j hj
  · rw [hb.cell (show Z + 1 < Z + 2 by omega)]; exact h.c0
  · rw [hb.cell (show Z + 1 < Z + 2 by omega)]; exact h.cs j hj
  · rw [hb.frozen (show Z + 1 < Z + 2 by omega)]; exact h.csf j hj
  · by_cases e : j = p
    · subst e
      rw [World.cell?_setCell_same _ _ _ (h.ls j hj)]
      have : slv k x j = v := by rw [hv]; exact if_pos hp
      simp [this]
    · rw [World.cell?_setCell_other _ _ _ _ (by simp; try omega), h.ls j hj]
      have e1 : j < p ↔ j < p + 1 := by omega
      simp only [e1]
  · rw [World.frozen?_setCell]; exact h.lsf j hj
  · rw [World.cell?_setCell_other _ _ _ _ (by simp)]; exact h.hs j hj
/-- Behind the fields and the number: block Z + 1 holds the instruction. -/
structure SdC (Z : Nat) (w : World) (k d a b f n : Int) (u : World) : Prop where
  bel : Below Z w u
  zs : ∀ j, j < 6 → u.cell? ⟨Z, j, none⟩ = some (.int .i64 0)
  zsf : ∀ j, j < 6 → u.frozen? ⟨Z, j, none⟩ = false
  box : Box u (Z + 1) k d a b f n
theorem SdC.fr {Z : Nat} {w u u' : World} {k d a b f n : Int} (h : SdC Z w k d a b f n u) (g : Fr u u') : SdC Z w k d a b f n u' := by
  have hs := h.box.lt
  exact ⟨h.bel.trans (g.mono (by omega)), fun j hj => by rw [g.cell (show Z < u.heap.size by omega)]; exact h.zs j hj, fun j hj => by rw [g.frozen (show Z < u.heap.size by omega)]; exact h.zsf j hj, h.box.fr g⟩
theorem Box.set5 {u : World} {g : Nat} {k d a b f n : Int} (h : Box u g k d a b f n) (v : Int) : Box (u.setCell ⟨g, 5, none⟩ (.int .i64 v)) g k d a b f v := by
  refine ⟨?_, ?_, ?_, ?_, ?_, World.cell?_setCell_same _ _ _ h.c5⟩
  · rw [World.cell?_setCell_other _ _ _ _ (by simp)]; exact h.c0
  · rw [World.cell?_setCell_other _ _ _ _ (by simp)]; exact h.c1
  · rw [World.cell?_setCell_other _ _ _ _ (by simp)]; exact h.c2
  · rw [World.cell?_setCell_other _ _ _ _ (by simp)]; exact h.c3
  · rw [World.cell?_setCell_other _ _ _ _ (by simp)]; exact h.c4
theorem Box.drew {u : World} {g : Nat} {k d a b f n : Int} (h : Box u g k d a b f n) : Box u.drew g k d a b f n :=
  ⟨by rw [World.cell?_drew]; exact h.c0, by rw [World.cell?_drew]; exact h.c1, by rw [World.cell?_drew]; exact h.c2, by rw [World.cell?_drew]; exact h.c3, by rw [World.cell?_drew]; exact h.c4, by rw [World.cell?_drew]; exact h.c5⟩
theorem alloc_at (w : World) (c : Array Value) (t : TypeId) (n : Nat) (hn : w.heap.size = n) (j : Nat) : (w.alloc (.cells c t)).cell? ⟨n, j, none⟩ = c[j]? ∧ (w.alloc (.cells c t)).frozen? ⟨n, j, none⟩ = false := by
  subst hn; simp
end Go.Proofs.Ytoacgjjpipdkjaa
