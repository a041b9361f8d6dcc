/- CodRead of the model. Numbers: what the laws of chapter 2 ask. -/
import Derived.BigRegion
import Derived.Deep.DeepCutAuto
import Derived.Test.YtbjapncfgancoaaDoorCodOk
import Derived.Test.YtbjapncfgancoaaDoorCodRd
namespace Go.Proofs.YtbjapncfgancoaaDoor
open Go.RowKit
set_option linter.unusedVariables false
structure SdW (Z : Nat) (w : World) (k x : Int) (p : Nat) (u : World) : Prop where
  bel : Below Z w u
  siz : Z + 4 ≤ u.heap.size
  zs : ∀ j, j < 6 → u.cell? ⟨Z, j, none⟩ = some (.int .i64 0)
  zsf : ∀ j, j < 6 → u.frozen? ⟨Z, j, none⟩ = false
  c0 : u.cell? ⟨Z + 1, 0, none⟩ = some (.int .i64 k)
  cs : ∀ j, j < 5 → u.cell? ⟨Z + 1, j + 1, none⟩ = some (.int .i64 0)
  csf : ∀ j, j < 6 → u.frozen? ⟨Z + 1, j, none⟩ = false
  ls : ∀ j, j < 4 → u.cell? ⟨Z + 2, j, none⟩ = some (.int .i64 (if j < p then slv k x j else 0))
  lsf : ∀ j, j < 4 → u.frozen? ⟨Z + 2, j, none⟩ = false
  hs : ∀ j, j < 4 → u.cell? ⟨Z + 3, j, none⟩ = some (.bool ((hasL k).getD j false))
theorem SdW.skip {Z : Nat} {w u : World} {k x : Int} {p : Nat} (h : SdW Z w k x p u) (hp : (hasL k).getD p false = false) : SdW Z w k x (p + 1) u := by
  refine ⟨h.bel, h.siz, h.zs, h.zsf, h.c0, h.cs, h.csf, fun j hj => ?_, h.lsf, h.hs⟩
  rw [h.ls j hj]
  by_cases e : j = p
  · subst e
    have : slv k x j = 0 := if_neg (by rw [hp]; decide)
    simp [this]
  · have e1 : j < p ↔ j < p + 1 := by omega
    simp only [e1]
theorem SdW.store {Z : Nat} {w u : World} {k x : Int} {p : Nat} (h : SdW Z w k x p u) (hp4 : p < 4) (hp : (hasL k).getD p false = true) (v : Int) (hv : v = x / 2 ^ (sl k (p + 1)).toNat % 8) : SdW Z w k x (p + 1) (u.setCell ⟨Z + 2, p, none⟩ (.int .i64 v)) := by
  have hs := h.siz
  have hb : Below (Z + 2) u (u.setCell ⟨Z + 2, p, none⟩ (.int .i64 v)) := Below.setCell (Below.refl _ _) (show Z + 2 ≤ Z + 2 from Nat.le_refl _) _
  refine ⟨h.bel.trans (hb.mono (by omega)), by simpa [World.setCell] using hs, fun j hj => ?_, fun j hj => ?_, ?_, fun j hj => ?_, fun j hj => ?_, fun j hj => ?_, fun j hj => ?_, fun j hj => ?_⟩
  · rw [hb.cell (show Z < Z + 2 by omega)]; exact h.zs j hj
  · rw [hb.frozen (show Z < Z + 2 by omega)]; exact h.zsf j hj
  · rw [hb.cell (show Z + 1 < Z + 2 by omega)]; exact h.c0
  · rw [hb.cell (show Z + 1 < Z + 2 by omega)]; exact h.cs j hj
  · rw [hb.frozen (show Z + 1 < Z + 2 by omega)]; exact h.csf j hj
  · by_cases e : j = p
    · subst e
      rw [World.cell?_setCell_same _ _ _ (h.ls j hj)]
      have : slv k x j = v := by rw [hv]; exact if_pos hp
      simp [this]
    · rw [World.cell?_setCell_other _ _ _ _ (by simp; try omega), h.ls j hj]
      have e1 : j < p ↔ j < p + 1 := by omega
      simp only [e1]
  · rw [World.frozen?_setCell]; exact h.lsf j hj
  · rw [World.cell?_setCell_other _ _ _ _ (by simp)]; exact h.hs j hj
/-- Behind the fields and the number: block Z + 1 holds the instruction. -/
structure SdC (Z : Nat) (w : World) (k d a b f n : Int) (u : World) : Prop where
  bel : Below Z w u
  zs : ∀ j, j < 6 → u.cell? ⟨Z, j, none⟩ = some (.int .i64 0)
  zsf : ∀ j, j < 6 → u.frozen? ⟨Z, j, none⟩ = false
  box : Box u (Z + 1) k d a b f n
theorem SdC.fr {Z : Nat} {w u u' : World} {k d a b f n : Int} (h : SdC Z w k d a b f n u) (g : Fr u u') : SdC Z w k d a b f n u' := by
  have hs := h.box.lt
  exact ⟨h.bel.trans (g.mono (by omega)), fun j hj => by rw [g.cell (show Z < u.heap.size by omega)]; exact h.zs j hj, fun j hj => by rw [g.frozen (show Z < u.heap.size by omega)]; exact h.zsf j hj, h.box.fr g⟩
theorem Box.set5 {u : World} {g : Nat} {k d a b f n : Int} (h : Box u g k d a b f n) (v : Int) : Box (u.setCell ⟨g, 5, none⟩ (.int .i64 v)) g k d a b f v := by
  refine ⟨?_, ?_, ?_, ?_, ?_, World.cell?_setCell_same _ _ _ h.c5⟩
  · rw [World.cell?_setCell_other _ _ _ _ (by simp)]; exact h.c0
  · rw [World.cell?_setCell_other _ _ _ _ (by simp)]; exact h.c1
  · rw [World.cell?_setCell_other _ _ _ _ (by simp)]; exact h.c2
  · rw [World.cell?_setCell_other _ _ _ _ (by simp)]; exact h.c3
  · rw [World.cell?_setCell_other _ _ _ _ (by simp)]; exact h.c4
theorem Box.drew {u : World} {g : Nat} {k d a b f n : Int} (h : Box u g k d a b f n) : Box u.drew g k d a b f n :=
  ⟨by rw [World.cell?_drew]; exact h.c0, by rw [World.cell?_drew]; exact h.c1, by rw [World.cell?_drew]; exact h.c2, by rw [World.cell?_drew]; exact h.c3, by rw [World.cell?_drew]; exact h.c4, by rw [World.cell?_drew]; exact h.c5⟩
theorem Box.drewN {u : World} {g : Nat} {k d a b f n : Int} (h : Box u g k d a b f n) (m : Nat) : Box (u.drewN m) g k d a b f n :=
  ⟨by rw [World.cell?_drewN]; exact h.c0, by rw [World.cell?_drewN]; exact h.c1, by rw [World.cell?_drewN]; exact h.c2, by rw [World.cell?_drewN]; exact h.c3, by rw [World.cell?_drewN]; exact h.c4, by rw [World.cell?_drewN]; exact h.c5⟩
theorem alloc_at (w : World) (c : Array Value) (t : TypeId) (n : Nat) (hn : w.heap.size = n) (j : Nat) : (w.alloc (.cells c t)).cell? ⟨n, j, none⟩ = c[j]? ∧ (w.alloc (.cells c t)).frozen? ⟨n, j, none⟩ = false := by
  subst hn; simp
/-- Reading the word of an instruction gives it back. -/
theorem worD_bd {k d a b f n : Int} (h : iok k d a b f n = true) : 0 ≤ worD k d a b f n ∧ worD k d a b f n < 65536 := by
  rw [worD_t h]
  obtain ⟨h0, h1, _⟩ := wrd_inv k (fldL d a b f n) (iok_k h) 5 (by omega)
  have : (0 : Int) < 2 ^ (lft k 5).toNat := Int.pow_pos (by decide)
  exact ⟨h0, by omega⟩
set_option maxHeartbeats 8000000 in
theorem read_word {k d a b f n : Int} (h : iok k d a b f n = true) : worD k d a b f n / 4096 = k ∧ slv k (worD k d a b f n) 0 = d ∧ slv k (worD k d a b f n) 1 = a ∧ slv k (worD k d a b f n) 2 = b ∧ slv k (worD k d a b f n) 3 = f ∧ sn k (worD k d a b f n) = n := by
  rw [worD_t h]
  have hk := iok_k h
  rcases kinds hk with rfl | rfl | rfl | rfl | rfl | rfl | rfl | rfl | rfl | rfl | rfl | rfl | rfl | rfl | rfl | rfl <;>
    (simp [iok, okAt, layN, layL, eL, eG, encL] at h
     simp [wrd, lft, fldL, layN, layL, eB, encL, slv, sn, sne, snr, hN, hasL, sl, hD, hA, hB, hF]
     try (refine ⟨?_, ?_, ?_, ?_, ?_, ?_⟩)
     all_goals (repeat' split) <;> omega)
theorem gd_word {k d a b f n : Int} (h : iok k d a b f n = true) : gd (worD k d a b f n) = true ∧ worD k d a b f n / 4096 = k ∧ rdv (worD k d a b f n) 0 = d ∧ rdv (worD k d a b f n) 1 = a ∧ rdv (worD k d a b f n) 2 = b ∧ rdv (worD k d a b f n) 3 = f ∧ rdv (worD k d a b f n) 4 = n := by
  obtain ⟨w0, w1⟩ := worD_bd h
  obtain ⟨e0, e1, e2, e3, e4⟩ := rd_eq _ w0 w1
  obtain ⟨hk, h0, h1, h2, h3, h4⟩ := read_word h
  have hg := gd_worD _ w0 w1
  rw [hk] at e0 e1 e2 e3 e4 hg
  rw [h0, h1, h2, h3, h4] at hg
  rw [h0] at e0; rw [h1] at e1; rw [h2] at e2; rw [h3] at e3; rw [h4] at e4
  refine ⟨?_, hk, e0, e1, e2, e3, e4⟩
  rw [hg h]
  simp
/-- What a word is read as is an instruction, of that word. -/
theorem read_ok {x : Int} (h : gd x = true) : iok (x / 4096) (rdv x 0) (rdv x 1) (rdv x 2) (rdv x 3) (rdv x 4) = true ∧ worD (x / 4096) (rdv x 0) (rdv x 1) (rdv x 2) (rdv x 3) (rdv x 4) = x := by
  have h' := h
  simp only [gd, Bool.and_eq_true] at h
  obtain ⟨ho, _, hi⟩ := h
  obtain ⟨x0, x1⟩ := okB_true ho
  refine ⟨hi, ?_⟩
  obtain ⟨e0, e1, e2, e3, e4⟩ := rd_eq x x0 x1
  rw [e0, e1, e2, e3, e4] at hi ⊢
  have := gd_worD x x0 x1 hi
  rw [h'] at this
  exact beq_iff_eq.1 this.symm

end Go.Proofs.YtbjapncfgancoaaDoor
