/- CodRead of the model. Numbers: what the laws of chapter 2 ask. -/
import Derived.BigRegion
import Derived.Deep.DeepCutAuto
import Derived.Test.YtbjapncfgancoaaDoorCodOk
import Derived.Test.YtbjapncfgancoaaDoorCodRd
namespace Go.Proofs.YtbjapncfgancoaaDoor
open Go.RowKit
set_option linter.unusedVariables false
structure SdW (Z : Nat) (w : World) (k x : Int) (p : Nat) (u : World) : Prop where
  bel : Below Z w u
  siz : Z + 4 ≤ u.heap.size
  zs : ∀ j, j < 6 → u.cell? ⟨Z, j, none⟩ = some (.int .i64 0)
  zsf : ∀ j, j < 6 → u.frozen? ⟨Z, j, none⟩ = false
  c0 : u.cell? ⟨Z + 1, 0, none⟩ = some (.int .i64 k)
  cs : ∀ j, j < 5 → u.cell? ⟨Z + 1, j + 1, none⟩ = some (.int .i64 0)
  csf : ∀ j, j < 6 → u.frozen? ⟨Z + 1, j, none⟩ = false
  ls : ∀ j, j < 4 → u.cell? ⟨Z + 2, j, none⟩ = some (.int .i64 (if j < p then slv k x j else 0))
  lsf : ∀ j, j < 4 → u.frozen? ⟨Z + 2, j, none⟩ = false
  hs : ∀ j, j < 4 → u.cell? ⟨Z + 3, j, none⟩ = some (.bool ((hasL k).getD j false))
theorem SdW.skip {Z : Nat} {w u : World} {k x : Int} {p : Nat} (h : SdW Z w k x p u) (hp : (hasL k).getD p false = false) : SdW Z w k x (p + 1) u := by
  refine ⟨h.bel, h.siz, h.zs, h.zsf, h.c0, h.cs, h.csf, fun j hj => ?_, h.lsf, h.hs⟩
  rw [h.ls j hj]
  by_cases e : j = p
  · subst e
    have : slv k x j = 0 := if_neg (by rw [hp]; decide)
    simp [this]
  · have e1 : j < p ↔ j < p + 1 := by omega
    simp only [e1]
theorem SdW.store {Z : Nat} {w u : World} {k x : Int} {p : Nat} (h : SdW Z w k x p u) (hp4 : p < 4) (hp : (hasL k).getD p false = true) (v : Int) (hv : v = x / 2 ^ (sl k (p + 1)).toNat % 8) : SdW Z w k x (p + 1) (u.setCell ⟨Z + 2, p, none⟩ (.int .i64 v)) := by
  have hs := h.siz
  have hb : Below (Z + 2) u (u.setCell ⟨Z + 2, p, none⟩ (.int .i64 v)) := Below.setCell (Below.refl _ _) (show Z + 2 ≤ Z + 2 from Nat.le_refl _) _
  refine ⟨h.bel.trans (hb.mono (by omega)), by simpa [World.setCell] using hs, fun j hj => ?_, fun j hj => ?_, ?_, fun j hj => ?_, fun j hj => ?_, fun j hj => ?_, fun j hj => ?_, fun j hj => ?_⟩
  · rw [hb.cell (show Z < Z + 2 by omega)]; exact h.zs j hj
  · rw [hb.frozen (show Z < Z + 2 by omega)]; exact h.zsf j hj
  · rw [hb.cell (show Z + 1 < Z + 2 by omega)]; exact h.c0
  · rw [hb.cell (show Z + 1 < Z + 2 by omega)]; exact h.cs j hj
  · rw [hb.frozen (show Z + 1 < Z + 2 by omega)]; exact h.csf j hj
  · by_cases e : j = p
    · subst e
      rw [World.cell?_setCell_same _ _ _ (h.ls j hj)]
      have : slv k x j = v := by rw [hv]; exact if_pos hp
      simp [this]
    · rw [World.cell?_setCell_other _ _ _ _ (by simp; try omega), h.ls j hj]
      have e1 : j < p ↔ j < p + 1 := by omega
      simp only [e1]
  · rw [World.frozen?_setCell]; exact h.lsf j hj
  · rw [World.cell?_setCell_other _ _ _ _ (by simp)]; exact h.hs j hj
/-- Behind the fields and the number: block Z + 1 holds the instruction. -/
structure SdC (Z : Nat) (w : World) (k d a b f n : Int) (u : World) : Prop where
  bel : Below Z w u
  zs : ∀ j, j < 6 → u.cell? ⟨Z, j, none⟩ = some (.int .i64 0)
  zsf : ∀ j, j < 6 → u.frozen? ⟨Z, j, none⟩ = false
  box : Box u (Z + 1) k d a b f n
theorem SdC.fr {Z : Nat} {w u u' : World} {k d a b f n : Int} (h : SdC Z w k d a b f n u) (g : Fr u u') : SdC Z w k d a b f n u' := by
  have hs := h.box.lt
  exact ⟨h.bel.trans (g.mono (by omega)), fun j hj => by rw [g.cell (show Z < u.heap.size by omega)]; exact h.zs j hj, fun j hj => by rw [g.frozen (show Z < u.heap.size by omega)]; exact h.zsf j hj, h.box.fr g⟩
/-- Stores into block Z + 1, draws: what the world holds beside it stays. -/
theorem SdW.upTo {Z : Nat} {w u u' : World} {k x : Int} {p : Nat} (h : SdW Z w k x p u) (b : Below (Z + 1) u u') {k' d a b' f n : Int} (hb : Box u' (Z + 1) k' d a b' f n) : SdC Z w k' d a b' f n u' :=
  ⟨h.bel.trans (b.mono (by omega)), fun j hj => by rw [b.cell (show Z < Z + 1 by omega)]; exact h.zs j hj, fun j hj => by rw [b.frozen (show Z < Z + 1 by omega)]; exact h.zsf j hj, hb⟩
theorem hN6 {k : Int} (h : hN k = 6) : (k == 12) = false ∧ (k == 2) = false := by
  refine ⟨?_, ?_⟩ <;> (simp; rintro rfl; simp [hN] at h)
theorem sn_neg6 {k x : Int} (h : hN k = 6) (h12 : (k == 12) = false) (h2 : (k == 2) = false) (hs : 32 ≤ x / 2 ^ (sl k 4 - 6).toNat % 64) : sn k x = x / 2 ^ (sl k 4 - 6).toNat % 64 - 64 := by
  have e : snr k x = x / 2 ^ (sl k 4 - 6).toNat % 64 := by simp [snr, h]
  have e2 : sne k x = true := by simp [sne, h12, h2, h, e, hs]
  rw [sn, h, if_neg (by decide), if_pos e2, e]; rfl
theorem sn_pos6 {k x : Int} (h : hN k = 6) (h12 : (k == 12) = false) (h2 : (k == 2) = false) (hs : ¬ 32 ≤ x / 2 ^ (sl k 4 - 6).toNat % 64) : sn k x = x / 2 ^ (sl k 4 - 6).toNat % 64 := by
  have e : snr k x = x / 2 ^ (sl k 4 - 6).toNat % 64 := by simp [snr, h]
  have e2 : sne k x = false := by simp [sne, h12, h2, h, e]; omega
  rw [sn, h, if_neg (by decide), if_neg (by simp [e2]), e]
theorem sn_neg9 {k x : Int} (h : hN k = 9) (h12 : (k == 12) = false) (h2 : (k == 2) = false) (hs : 256 ≤ x / 2 ^ (sl k 4 - 9).toNat % 512) : sn k x = x / 2 ^ (sl k 4 - 9).toNat % 512 - 512 := by
  have e : snr k x = x / 2 ^ (sl k 4 - 9).toNat % 512 := by simp [snr, h]
  have e2 : sne k x = true := by simp [sne, h12, h2, h, e, hs]
  rw [sn, h, if_neg (by decide), if_pos e2, e]; rfl
theorem sn_pos9 {k x : Int} (h : hN k = 9) (hs : (k == 12) = true ∨ (k == 2) = true ∨ ¬ 256 ≤ x / 2 ^ (sl k 4 - 9).toNat % 512) : sn k x = x / 2 ^ (sl k 4 - 9).toNat % 512 := by
  have e : snr k x = x / 2 ^ (sl k 4 - 9).toNat % 512 := by simp [snr, h]
  have e2 : sne k x = false := by
    rcases hs with hs | hs | hs
    · simp [sne, hs]
    · simp [sne, hs]
    · simp [sne, h, e]; omega
  rw [sn, h, if_neg (by decide), if_neg (by simp [e2]), e]
theorem Box.set5 {u : World} {g : Nat} {k d a b f n : Int} (h : Box u g k d a b f n) (v : Int) : Box (u.setCell ⟨g, 5, none⟩ (.int .i64 v)) g k d a b f v := by
  refine ⟨?_, ?_, ?_, ?_, ?_, World.cell?_setCell_same _ _ _ h.c5⟩
  · rw [World.cell?_setCell_other _ _ _ _ (by simp)]; exact h.c0
  · rw [World.cell?_setCell_other _ _ _ _ (by simp)]; exact h.c1
  · rw [World.cell?_setCell_other _ _ _ _ (by simp)]; exact h.c2
  · rw [World.cell?_setCell_other _ _ _ _ (by simp)]; exact h.c3
  · rw [World.cell?_setCell_other _ _ _ _ (by simp)]; exact h.c4
theorem Box.drew {u : World} {g : Nat} {k d a b f n : Int} (h : Box u g k d a b f n) : Box u.drew g k d a b f n :=
  ⟨by rw [World.cell?_drew]; exact h.c0, by rw [World.cell?_drew]; exact h.c1, by rw [World.cell?_drew]; exact h.c2, by rw [World.cell?_drew]; exact h.c3, by rw [World.cell?_drew]; exact h.c4, by rw [World.cell?_drew]; exact h.c5⟩
theorem Box.drewN {u : World} {g : Nat} {k d a b f n : Int} (h : Box u g k d a b f n) (m : Nat) : Box (u.drewN m) g k d a b f n :=
  ⟨by rw [World.cell?_drewN]; exact h.c0, by rw [World.cell?_drewN]; exact h.c1, by rw [World.cell?_drewN]; exact h.c2, by rw [World.cell?_drewN]; exact h.c3, by rw [World.cell?_drewN]; exact h.c4, by rw [World.cell?_drewN]; exact h.c5⟩
theorem box4 {u : World} {g : Nat} {k : Int} (h : Box u g k 0 0 0 0 0) (d a b f : Int) : Box ((((u.setCell ⟨g, 1, none⟩ (.int .i64 d)).setCell ⟨g, 2, none⟩ (.int .i64 a)).setCell ⟨g, 3, none⟩ (.int .i64 b)).setCell ⟨g, 4, none⟩ (.int .i64 f)) g k d a b f 0 := by
  have h1 : Box (u.setCell ⟨g, 1, none⟩ (.int .i64 d)) g k d 0 0 0 0 := ⟨by rw [World.cell?_setCell_other _ _ _ _ (by simp)]; exact h.c0, World.cell?_setCell_same _ _ _ h.c1, by rw [World.cell?_setCell_other _ _ _ _ (by simp)]; exact h.c2, by rw [World.cell?_setCell_other _ _ _ _ (by simp)]; exact h.c3, by rw [World.cell?_setCell_other _ _ _ _ (by simp)]; exact h.c4, by rw [World.cell?_setCell_other _ _ _ _ (by simp)]; exact h.c5⟩
  generalize u.setCell ⟨g, 1, none⟩ (.int .i64 d) = u1 at *
  have h2 : Box (u1.setCell ⟨g, 2, none⟩ (.int .i64 a)) g k d a 0 0 0 := ⟨by rw [World.cell?_setCell_other _ _ _ _ (by simp)]; exact h1.c0, by rw [World.cell?_setCell_other _ _ _ _ (by simp)]; exact h1.c1, World.cell?_setCell_same _ _ _ h1.c2, by rw [World.cell?_setCell_other _ _ _ _ (by simp)]; exact h1.c3, by rw [World.cell?_setCell_other _ _ _ _ (by simp)]; exact h1.c4, by rw [World.cell?_setCell_other _ _ _ _ (by simp)]; exact h1.c5⟩
  generalize u1.setCell ⟨g, 2, none⟩ (.int .i64 a) = u2 at *
  have h3 : Box (u2.setCell ⟨g, 3, none⟩ (.int .i64 b)) g k d a b 0 0 := ⟨by rw [World.cell?_setCell_other _ _ _ _ (by simp)]; exact h2.c0, by rw [World.cell?_setCell_other _ _ _ _ (by simp)]; exact h2.c1, by rw [World.cell?_setCell_other _ _ _ _ (by simp)]; exact h2.c2, World.cell?_setCell_same _ _ _ h2.c3, by rw [World.cell?_setCell_other _ _ _ _ (by simp)]; exact h2.c4, by rw [World.cell?_setCell_other _ _ _ _ (by simp)]; exact h2.c5⟩
  generalize u2.setCell ⟨g, 3, none⟩ (.int .i64 b) = u3 at *
  exact ⟨by rw [World.cell?_setCell_other _ _ _ _ (by simp)]; exact h3.c0, by rw [World.cell?_setCell_other _ _ _ _ (by simp)]; exact h3.c1, by rw [World.cell?_setCell_other _ _ _ _ (by simp)]; exact h3.c2, by rw [World.cell?_setCell_other _ _ _ _ (by simp)]; exact h3.c3, World.cell?_setCell_same _ _ _ h3.c4, by rw [World.cell?_setCell_other _ _ _ _ (by simp)]; exact h3.c5⟩
theorem low_set {B : Nat} {a u : World} (h : Below B a u) (o : Nat) (v : Value) : Below B a (u.setCell ⟨B, o, none⟩ v) := Below.setCell h (show B ≤ B from Nat.le_refl _) _
theorem low4 {B : Nat} {u : World} (v1 v2 v3 v4 : Value) : Below B u ((((u.setCell ⟨B, 1, none⟩ v1).setCell ⟨B, 2, none⟩ v2).setCell ⟨B, 3, none⟩ v3).setCell ⟨B, 4, none⟩ v4) := low_set (low_set (low_set (low_set (Below.refl _ _) _ _) _ _) _ _) _ _
theorem alloc_at (w : World) (c : Array Value) (t : TypeId) (n : Nat) (hn : w.heap.size = n) (j : Nat) : (w.alloc (.cells c t)).cell? ⟨n, j, none⟩ = c[j]? ∧ (w.alloc (.cells c t)).frozen? ⟨n, j, none⟩ = false := by
  subst hn; simp
theorem sdw_start (w : World) (k x : Int) (t1 t2 t3 t4 : TypeId) : SdW w.heap.size w k x 0 ((((w.alloc (.cells #[.int .i64 0, .int .i64 0, .int .i64 0, .int .i64 0, .int .i64 0, .int .i64 0] t1)).alloc (.cells #[.int .i64 k, .int .i64 0, .int .i64 0, .int .i64 0, .int .i64 0, .int .i64 0] t2)).alloc (.cells #[.int .i64 0, .int .i64 0, .int .i64 0, .int .i64 0] t3)).alloc (.cells #[.bool (hD k), .bool (hA k), .bool (hB k), .bool (hF k)] t4)) := by
  have ha := Fr.alloc w (.cells #[.int .i64 0, .int .i64 0, .int .i64 0, .int .i64 0, .int .i64 0, .int .i64 0] t1)
  have ea := alloc_at w #[.int .i64 0, .int .i64 0, .int .i64 0, .int .i64 0, .int .i64 0, .int .i64 0] t1 _ rfl
  have sa : (w.alloc (.cells #[.int .i64 0, .int .i64 0, .int .i64 0, .int .i64 0, .int .i64 0, .int .i64 0] t1)).heap.size = w.heap.size + 1 := by simp
  generalize (w.alloc (.cells #[.int .i64 0, .int .i64 0, .int .i64 0, .int .i64 0, .int .i64 0, .int .i64 0] t1)) = wa at *
  have hb := Fr.alloc wa (.cells #[.int .i64 k, .int .i64 0, .int .i64 0, .int .i64 0, .int .i64 0, .int .i64 0] t2)
  have eb := alloc_at wa #[.int .i64 k, .int .i64 0, .int .i64 0, .int .i64 0, .int .i64 0, .int .i64 0] t2 _ sa
  have sb : (wa.alloc (.cells #[.int .i64 k, .int .i64 0, .int .i64 0, .int .i64 0, .int .i64 0, .int .i64 0] t2)).heap.size = w.heap.size + 2 := by simp [sa]
  generalize (wa.alloc (.cells #[.int .i64 k, .int .i64 0, .int .i64 0, .int .i64 0, .int .i64 0, .int .i64 0] t2)) = wb at *
  have hc := Fr.alloc wb (.cells #[.int .i64 0, .int .i64 0, .int .i64 0, .int .i64 0] t3)
  have ec := alloc_at wb #[.int .i64 0, .int .i64 0, .int .i64 0, .int .i64 0] t3 _ sb
  have sc : (wb.alloc (.cells #[.int .i64 0, .int .i64 0, .int .i64 0, .int .i64 0] t3)).heap.size = w.heap.size + 3 := by simp [sb]
  generalize (wb.alloc (.cells #[.int .i64 0, .int .i64 0, .int .i64 0, .int .i64 0] t3)) = wc at *
  have hd := Fr.alloc wc (.cells #[.bool (hD k), .bool (hA k), .bool (hB k), .bool (hF k)] t4)
  have ed := alloc_at wc #[.bool (hD k), .bool (hA k), .bool (hB k), .bool (hF k)] t4 _ sc
  have sd : (wc.alloc (.cells #[.bool (hD k), .bool (hA k), .bool (hB k), .bool (hF k)] t4)).heap.size = w.heap.size + 4 := by simp [sc]
  generalize (wc.alloc (.cells #[.bool (hD k), .bool (hA k), .bool (hB k), .bool (hF k)] t4)) = wd at *
  have F1 : Below (w.heap.size + 1) wa wd := (hb.mono (by omega)).trans ((hc.mono (by omega)).trans (hd.mono (by omega)))
  have F2 : Below (w.heap.size + 2) wb wd := (hc.mono (by omega)).trans (hd.mono (by omega))
  refine ⟨ha.trans (F1.mono (by omega)), by omega, fun j hj => ?_, fun j hj => ?_, ?_, fun j hj => ?_, fun j hj => ?_, fun j hj => ?_, fun j hj => ?_, fun j hj => ?_⟩
  · rw [F1.cell (show w.heap.size < w.heap.size + 1 by omega), (ea j).1]
    have h : j = 0 ∨ j = 1 ∨ j = 2 ∨ j = 3 ∨ j = 4 ∨ j = 5 := by omega
    rcases h with rfl | rfl | rfl | rfl | rfl | rfl <;> rfl
  · rw [F1.frozen (show w.heap.size < w.heap.size + 1 by omega), (ea j).2]
  · rw [F2.cell (show w.heap.size + 1 < w.heap.size + 2 by omega), (eb 0).1]; rfl
  · rw [F2.cell (show w.heap.size + 1 < w.heap.size + 2 by omega), (eb (j + 1)).1]
    have h : j = 0 ∨ j = 1 ∨ j = 2 ∨ j = 3 ∨ j = 4 := by omega
    rcases h with rfl | rfl | rfl | rfl | rfl <;> rfl
  · rw [F2.frozen (show w.heap.size + 1 < w.heap.size + 2 by omega), (eb j).2]
  · rw [hd.cell (show w.heap.size + 2 < wc.heap.size by omega), (ec j).1]
    have h : j = 0 ∨ j = 1 ∨ j = 2 ∨ j = 3 := by omega
    rcases h with rfl | rfl | rfl | rfl <;> rfl
  · rw [hd.frozen (show w.heap.size + 2 < wc.heap.size by omega), (ec j).2]
  · rw [(ed j).1]
    have h : j = 0 ∨ j = 1 ∨ j = 2 ∨ j = 3 := by omega
    rcases h with rfl | rfl | rfl | rfl <;> rfl
theorem shr_nonneg (x : Int) (n : Nat) (x0 : 0 ≤ x) : 0 ≤ x / 2 ^ n := Int.ediv_nonneg x0 (Int.le_of_lt (Int.pow_pos (by decide)))
set_option maxRecDepth 100000 in
set_option maxHeartbeats 8000000 in
theorem spec_CodRead_any (x : Int) (x0 : 0 ≤ x) (x1 : x < 65536) (w : World) : Calls Tryd.prog 70 #[.int .i64 x] w fun e w' => e = .returned (rV x) ∧ Fr w w' := by
  have ho := okB_mk x0 x1
  have hk : 0 ≤ x / 4096 ∧ x / 4096 < 16 := by omega
  have HK := Lib.hid hk
  clear hk
  have k0 : 0 ≤ x / 4096 := HK.out.1
  have k1 : x / 4096 < 16 := HK.out.2
  go_enter Tryd.func70, Tryd.ntmps70
  go_wp2_with (first | (go_at_call 66; refine (spec_WrdOk _ _).mono ?_; rintro e w' ⟨rfl, rfl⟩) | (go_at_call 83; refine (spec_l2Has _ HK.out _).mono ?_; rintro e w' ⟨rfl, rfl⟩))
  go_loopw [10, 13] (fun t i wr => ∃ p : Nat, p ≤ 4 ∧ i = .int .i64 p ∧ t = .int .i64 (sl (x / 4096) p) ∧ SdW w.heap.size w (x / 4096) x p wr) (fun _ i _ => 4 - (intOf i).toNat)
  case atStart => exact ⟨0, by omega, rfl, rfl, sdw_start w _ x _ _ _ _⟩
  case round =>
    obtain ⟨p, hp, rfl, rfl, hR⟩ := hrel
    rcases (show p = 0 ∨ p = 1 ∨ p = 2 ∨ p = 3 ∨ p = 4 by omega) with rfl | rfl | rfl | rfl | rfl
    · have gs := hR.hs 0 (by omega)
      have gl := hR.ls 0 (by omega)
      have gf := hR.lsf 0 (by omega)
      simp [hasL] at gs gl
      obtain ⟨b0, b1⟩ := sl_bd (x / 4096) 0 (by omega)
      simp at b0
      have HR := Lib.hid hR
      clear hR
      have Q := shr_nonneg x (sl (x / 4096) 0 - 3).toNat x0
      cases hh : hD (x / 4096)
      · have S := Lib.hid (sw_f (k := x / 4096) (v := []) (p := 0) hh)
        go_wp2
        go_roundw
        case rel => exact ⟨0 + 1, by omega, by go_num, by rw [S.out.2], HR.out.skip hh⟩
        case measure => simp [intOf]
      · have S := Lib.hid (sw_t (k := x / 4096) (v := []) (p := 0) hh)
        go_wp2
        go_roundw
        case rel => exact ⟨0 + 1, by omega, by go_num, by rw [S.out.2], HR.out.store (by omega) hh _ (by rw [S.out.2])⟩
        case measure => simp [intOf]
    · have gs := hR.hs 1 (by omega)
      have gl := hR.ls 1 (by omega)
      have gf := hR.lsf 1 (by omega)
      simp [hasL] at gs gl
      obtain ⟨b0, b1⟩ := sl_bd (x / 4096) 1 (by omega)
      simp at b0
      have HR := Lib.hid hR
      clear hR
      have Q := shr_nonneg x (sl (x / 4096) 1 - 3).toNat x0
      cases hh : hA (x / 4096)
      · have S := Lib.hid (sw_f (k := x / 4096) (v := []) (p := 1) hh)
        go_wp2
        go_roundw
        case rel => exact ⟨1 + 1, by omega, by go_num, by rw [S.out.2], HR.out.skip hh⟩
        case measure => simp [intOf]
      · have S := Lib.hid (sw_t (k := x / 4096) (v := []) (p := 1) hh)
        go_wp2
        go_roundw
        case rel => exact ⟨1 + 1, by omega, by go_num, by rw [S.out.2], HR.out.store (by omega) hh _ (by rw [S.out.2])⟩
        case measure => simp [intOf]
    · have gs := hR.hs 2 (by omega)
      have gl := hR.ls 2 (by omega)
      have gf := hR.lsf 2 (by omega)
      simp [hasL] at gs gl
      obtain ⟨b0, b1⟩ := sl_bd (x / 4096) 2 (by omega)
      simp at b0
      have HR := Lib.hid hR
      clear hR
      have Q := shr_nonneg x (sl (x / 4096) 2 - 3).toNat x0
      cases hh : hB (x / 4096)
      · have S := Lib.hid (sw_f (k := x / 4096) (v := []) (p := 2) hh)
        go_wp2
        go_roundw
        case rel => exact ⟨2 + 1, by omega, by go_num, by rw [S.out.2], HR.out.skip hh⟩
        case measure => simp [intOf]
      · have S := Lib.hid (sw_t (k := x / 4096) (v := []) (p := 2) hh)
        go_wp2
        go_roundw
        case rel => exact ⟨2 + 1, by omega, by go_num, by rw [S.out.2], HR.out.store (by omega) hh _ (by rw [S.out.2])⟩
        case measure => simp [intOf]
    · have gs := hR.hs 3 (by omega)
      have gl := hR.ls 3 (by omega)
      have gf := hR.lsf 3 (by omega)
      simp [hasL] at gs gl
      obtain ⟨b0, b1⟩ := sl_bd (x / 4096) 3 (by omega)
      simp at b0
      have HR := Lib.hid hR
      clear hR
      have Q := shr_nonneg x (sl (x / 4096) 3 - 3).toNat x0
      cases hh : hF (x / 4096)
      · have S := Lib.hid (sw_f (k := x / 4096) (v := []) (p := 3) hh)
        go_wp2
        go_roundw
        case rel => exact ⟨3 + 1, by omega, by go_num, by rw [S.out.2], HR.out.skip hh⟩
        case measure => simp [intOf]
      · have S := Lib.hid (sw_t (k := x / 4096) (v := []) (p := 3) hh)
        go_wp2
        go_roundw
        case rel => exact ⟨3 + 1, by omega, by go_num, by rw [S.out.2], HR.out.store (by omega) hh _ (by rw [S.out.2])⟩
        case measure => simp [intOf]
    · have l0 := hR.ls 0 (by omega)
      have l1 := hR.ls 1 (by omega)
      have l2 := hR.ls 2 (by omega)
      have l3 := hR.ls 3 (by omega)
      simp at l0 l1 l2 l3
      have c0 := hR.c0
      have c1 : wr.cell? ⟨w.heap.size + 1, 1, none⟩ = some (.int .i64 0) := hR.cs 0 (by omega)
      have c2 : wr.cell? ⟨w.heap.size + 1, 2, none⟩ = some (.int .i64 0) := hR.cs 1 (by omega)
      have c3 : wr.cell? ⟨w.heap.size + 1, 3, none⟩ = some (.int .i64 0) := hR.cs 2 (by omega)
      have c4 : wr.cell? ⟨w.heap.size + 1, 4, none⟩ = some (.int .i64 0) := hR.cs 3 (by omega)
      have c5 : wr.cell? ⟨w.heap.size + 1, 5, none⟩ = some (.int .i64 0) := hR.cs 4 (by omega)
      have g1 := hR.csf 1 (by omega)
      have g2 := hR.csf 2 (by omega)
      have g3 := hR.csf 3 (by omega)
      have g4 := hR.csf 4 (by omega)
      have g5 := hR.csf 5 (by omega)
      have HR := Lib.hid hR
      have BX := Lib.hid (Box.mk c0 c1 c2 c3 c4 c5)
      clear hR
      obtain ⟨b0, b1⟩ := sl_bd (x / 4096) 4 (by omega)
      obtain ⟨b2, b3, b4⟩ := sl_fin HK.out
      go_upto_if 70 with fail
      go_cut [9, 10, 13] (fun s9 t s13 wx => SdC w.heap.size w (x / 4096) (slv (x / 4096) x 0) (slv (x / 4096) x 1) (slv (x / 4096) x 2) (slv (x / 4096) x 3) (sn (x / 4096) x) wx)
      case first =>
        rcases hN_vals (x / 4096) with hn | hn | hn
        · rw [hn] at b2 b3 b4
          have N0 := Lib.hid (show sn (x / 4096) x = 0 from if_pos hn)
          go_wp2_with fail
          go_meet
          rw [N0.out]
          exact HR.out.upTo (low4 _ _ _ _) (box4 BX.out _ _ _ _)
        · rw [hn] at b2 b3 b4
          have Q := shr_nonneg x (sl (x / 4096) 4 - 6).toNat x0
          obtain ⟨h12, h2⟩ := hN6 hn
          have m12 : (x / 4096 != 12) = true := by simp [bne, h12]
          have m2 : (x / 4096 != 2) = true := by simp [bne, h2]
          by_cases hs : 32 ≤ x / 2 ^ (sl (x / 4096) 4 - 6).toNat % 64
          · have N0 := Lib.hid (sn_neg6 hn h12 h2 hs)
            go_wp2_with fail
            go_region
            go_wp2_with fail
            go_quiet (fail)
            go_wp2_with fail
            go_region
            go_wp2_with fail
            go_meet
            rw [N0.out]
            exact HR.out.upTo (low_set (Below.drewN (low_set (low4 _ _ _ _) _ _) _) _ _) ((((box4 BX.out _ _ _ _).set5 _).drewN _).set5 _)
          · have N0 := Lib.hid (sn_pos6 hn h12 h2 hs)
            have hs' : decide (32 ≤ x / 2 ^ (sl (x / 4096) 4 - 6).toNat % 64) = false := decide_eq_false hs
            clear hs
            go_wp2_with fail
            go_region
            go_wp2_with fail
            go_quiet (fail)
            go_wp2_with fail
            go_meet
            rw [N0.out]
            exact HR.out.upTo (Below.drewN (Below.drew (low_set (low4 _ _ _ _) _ _)) _) ((((box4 BX.out _ _ _ _).set5 _).drew).drewN _)
        · rw [hn] at b2 b3 b4
          have Q := shr_nonneg x (sl (x / 4096) 4 - 9).toNat x0
          cases h12 : (x / 4096 == 12)
          · have m12 : (x / 4096 != 12) = true := by simp [bne, h12]
            cases h2 : (x / 4096 == 2)
            · have m2 : (x / 4096 != 2) = true := by simp [bne, h2]
              by_cases hs : 256 ≤ x / 2 ^ (sl (x / 4096) 4 - 9).toNat % 512
              · have N0 := Lib.hid (sn_neg9 hn h12 h2 hs)
                go_wp2_with fail
                go_region
                go_wp2_with fail
                go_quiet (fail)
                go_wp2_with fail
                go_region
                go_wp2_with fail
                go_meet
                rw [N0.out]
                exact HR.out.upTo (low_set (Below.drewN (low_set (low4 _ _ _ _) _ _) _) _ _) ((((box4 BX.out _ _ _ _).set5 _).drewN _).set5 _)
              · have N0 := Lib.hid (sn_pos9 hn (.inr (.inr hs)))
                have hs' : decide (256 ≤ x / 2 ^ (sl (x / 4096) 4 - 9).toNat % 512) = false := decide_eq_false hs
                clear hs
                go_wp2_with fail
                go_region
                go_wp2_with fail
                go_quiet (fail)
                go_wp2_with fail
                go_meet
                rw [N0.out]
                exact HR.out.upTo (Below.drewN (Below.drew (low_set (low4 _ _ _ _) _ _)) _) ((((box4 BX.out _ _ _ _).set5 _).drew).drewN _)
            · have m2 : (x / 4096 != 2) = false := by simp [bne, h2]
              have N0 := Lib.hid (sn_pos9 (x := x) hn (.inr (.inl h2)))
              go_wp2_with fail
              go_region
              go_wp2_with fail
              go_quiet (fail)
              go_wp2_with fail
              go_meet
              rw [N0.out]
              exact HR.out.upTo (Below.drewN (Below.drew (low_set (low4 _ _ _ _) _ _)) _) ((((box4 BX.out _ _ _ _).set5 _).drew).drewN _)
          · have m12 : (x / 4096 != 12) = false := by simp [bne, h12]
            have N0 := Lib.hid (sn_pos9 (x := x) hn (.inl h12))
            go_wp2_with fail
            go_region
            go_wp2_with fail
            go_quiet (fail)
            go_wp2_with fail
            go_meet
            rw [N0.out]
            exact HR.out.upTo (Below.drewN (Below.drew (low_set (low4 _ _ _ _) _ _)) _) ((((box4 BX.out _ _ _ _).set5 _).drew).drewN _)
      case rest =>
        clear l0 l1 l2 l3 c0 c1 c2 c3 c4 c5 g1 g2 g3 g4 g5 HR BX b0 b1 b2 b3 b4
        obtain ⟨c0, c1, c2, c3, c4, c5⟩ := hcut.box
        have HC := Lib.hid hcut
        clear hcut
        obtain ⟨e0, e1, e2, e3, e4⟩ := rd_eq x x0 x1
        have HE := Lib.hid (gd_slv x x0 x1)
        have HW := Lib.hid (gd_worD x x0 x1)
        have E := Lib.hid (And.intro e0 (And.intro e1 (And.intro e2 (And.intro e3 e4))))
        clear e0 e1 e2 e3 e4
        generalize hX0 : slv (x / 4096) x 0 = s0 at *
        generalize hX1 : slv (x / 4096) x 1 = s1 at *
        generalize hX2 : slv (x / 4096) x 2 = s2 at *
        generalize hX3 : slv (x / 4096) x 3 = s3 at *
        generalize hX4 : sn (x / 4096) x = s4 at *
        clear hX0 hX1 hX2 hX3 hX4
        have SE := Lib.hid (sok_eq (x / 4096) s0 s1 s2 s3 s4)
        go_wp2_with fail
        refine (spec_CodOk _ _ _ _ _ _ _).mono ?_
        rintro e u ⟨rfl, fu⟩
        rw [SE.out]
        have HC2 := HC.out.fr fu
        clear c0 c1 c2 c3 c4 c5
        obtain ⟨c0, c1, c2, c3, c4, c5⟩ := HC2.box
        cases hq : iok (x / 4096) s0 s1 s2 s3 s4
        · have G := Lib.hid (HE.out hq)
          have z0 := HC2.zs 0 (by omega)
          have z1 := HC2.zs 1 (by omega)
          have z2 := HC2.zs 2 (by omega)
          have z3 := HC2.zs 3 (by omega)
          have z4 := HC2.zs 4 (by omega)
          have z5 := HC2.zs 5 (by omega)
          have y0 := HC2.zsf 0 (by omega)
          have y1 := HC2.zsf 1 (by omega)
          have y2 := HC2.zsf 2 (by omega)
          have y3 := HC2.zsf 3 (by omega)
          have y4 := HC2.zsf 4 (by omega)
          have y5 := HC2.zsf 5 (by omega)
          have HF := Lib.hid HC2.bel
          clear HC2
          go_wp2
          refine bodyPost_ret (v := rV x) (by rw [rV_f G.out]; simp [results, Tryd.results70, go_sem, z0, z1, z2, z3, z4, z5]) rfl ⟨rfl, ?_⟩
          have := HF.out
          (repeat' first | (with_reducible exact Below.refl _ _) | (with_reducible assumption) | ((with_reducible refine Below.setCell ?_ ?hb _); (case hb => first | exact Nat.le_refl _ | (simp; done) | (simp; omega) | omega)) | ((with_reducible refine Below.alloc ?_ ?hb _); (case hb => first | exact Nat.le_refl _ | (simp; done) | (simp; omega) | omega)) | (with_reducible refine Below.drew ?_))
        · go_wp2_with fail
          refine (spec_CodWord _ _ _ _ _ _ _).mono ?_
          rintro e v ⟨rfl, fv⟩
          have HC3 := HC2.fr fv
          clear HC2 c0 c1 c2 c3 c4 c5
          obtain ⟨c0, c1, c2, c3, c4, c5⟩ := HC3.box
          have z0 := HC3.zs 0 (by omega)
          have z1 := HC3.zs 1 (by omega)
          have z2 := HC3.zs 2 (by omega)
          have z3 := HC3.zs 3 (by omega)
          have z4 := HC3.zs 4 (by omega)
          have z5 := HC3.zs 5 (by omega)
          have y0 := HC3.zsf 0 (by omega)
          have y1 := HC3.zsf 1 (by omega)
          have y2 := HC3.zsf 2 (by omega)
          have y3 := HC3.zsf 3 (by omega)
          have y4 := HC3.zsf 4 (by omega)
          have y5 := HC3.zsf 5 (by omega)
          have HF := Lib.hid HC3.bel
          clear HC3
          have W0 := Lib.hid (HW.out hq)
          cases hw : (worD (x / 4096) s0 s1 s2 s3 s4 == x)
          · have hw' : (worD (x / 4096) s0 s1 s2 s3 s4 != x) = true := by simp [bne, hw]
            have G : Hid (gd x = false) := by have := W0.out; rw [hw] at this; exact this
            go_wp2
            refine bodyPost_ret (v := rV x) (by rw [rV_f G.out]; simp [results, Tryd.results70, go_sem, z0, z1, z2, z3, z4, z5]) rfl ⟨rfl, ?_⟩
            have := HF.out
            (repeat' first | (with_reducible exact Below.refl _ _) | (with_reducible assumption) | ((with_reducible refine Below.setCell ?_ ?hb _); (case hb => first | exact Nat.le_refl _ | (simp; done) | (simp; omega) | omega)) | ((with_reducible refine Below.alloc ?_ ?hb _); (case hb => first | exact Nat.le_refl _ | (simp; done) | (simp; omega) | omega)) | (with_reducible refine Below.drew ?_))
          · have hw' : (worD (x / 4096) s0 s1 s2 s3 s4 != x) = false := by simp [bne, hw]
            have G : Hid (gd x = true) := by have := W0.out; rw [hw] at this; exact this
            go_wp2
            refine bodyPost_ret (v := rV x) (by rw [rV_t G.out, E.out.1, E.out.2.1, E.out.2.2.1, E.out.2.2.2.1, E.out.2.2.2.2]; simp [results, Tryd.results70, go_sem, z0, z1, z2, z3, z4, z5]) rfl ⟨rfl, ?_⟩
            have := HF.out
            (repeat' first | (with_reducible exact Below.refl _ _) | (with_reducible assumption) | ((with_reducible refine Below.setCell ?_ ?hb _); (case hb => first | exact Nat.le_refl _ | (simp; done) | (simp; omega) | omega)) | ((with_reducible refine Below.alloc ?_ ?hb _); (case hb => first | exact Nat.le_refl _ | (simp; done) | (simp; omega) | omega)) | (with_reducible refine Below.drew ?_))
theorem spec_CodRead (x : Int) (w : World) : Calls Tryd.prog 70 #[.int .i64 x] w fun e w' => e = .returned (rV x) ∧ Fr w w' := by
  cases ho : okB x
  · have G : Hid (gd x = false) := by simp [Hid, gd, ho]
    go_enter Tryd.func70, Tryd.ntmps70
    go_wp2_with (go_at_call 66; refine (spec_WrdOk _ _).mono ?_; rintro e w' ⟨rfl, rfl⟩)
    refine bodyPost_ret (v := rV x) (by rw [rV_f G.out]; simp [results, Tryd.results70, go_sem]) rfl ⟨rfl, ?_⟩
    (repeat' first | (with_reducible exact Below.refl _ _) | (with_reducible assumption) | ((with_reducible refine Below.setCell ?_ ?hb _); (case hb => first | exact Nat.le_refl _ | (simp; done) | (simp; omega) | omega)) | ((with_reducible refine Below.alloc ?_ ?hb _); (case hb => first | exact Nat.le_refl _ | (simp; done) | (simp; omega) | omega)) | (with_reducible refine Below.drew ?_))
  · obtain ⟨x0, x1⟩ := okB_true ho
    exact spec_CodRead_any x x0 x1 w

/-- What a word is read as is an instruction, of that word. -/
theorem read_ok {x : Int} (h : gd x = true) : iok (x / 4096) (rdv x 0) (rdv x 1) (rdv x 2) (rdv x 3) (rdv x 4) = true ∧ worD (x / 4096) (rdv x 0) (rdv x 1) (rdv x 2) (rdv x 3) (rdv x 4) = x := by
  have h' := h
  simp only [gd, Bool.and_eq_true] at h
  obtain ⟨ho, _, hi⟩ := h
  obtain ⟨x0, x1⟩ := okB_true ho
  refine ⟨hi, ?_⟩
  obtain ⟨e0, e1, e2, e3, e4⟩ := rd_eq x x0 x1
  rw [e0, e1, e2, e3, e4] at hi ⊢
  have := gd_worD x x0 x1 hi
  rw [h'] at this
  exact beq_iff_eq.1 this.symm

end Go.Proofs.YtbjapncfgancoaaDoor
