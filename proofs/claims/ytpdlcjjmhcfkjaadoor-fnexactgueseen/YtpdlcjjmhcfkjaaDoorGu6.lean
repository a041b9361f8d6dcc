/- What slots learn, of the model. -/
import Derived.Test.YtpdlcjjmhcfkjaaDoorGu5
namespace Go.Proofs.YtpdlcjjmhcfkjaaDoor
open Go.RowKit
set_option linter.unusedVariables false
set_option linter.unusedSimpArgs false
theorem Box4.s3 {u : World} {g : Nat} {a b c d : Value} (h : Box4 u g a b c d) (d' : Value) : Box4 (u.setCell ⟨g, 3, none⟩ d') g a b c d' := by
  refine ⟨by have := h.lt; simpa [World.setCell] using this, by rw [World.cell?_setCell_other _ _ _ _ (by simp)]; exact h.c0, by rw [World.cell?_setCell_other _ _ _ _ (by simp)]; exact h.c1, by rw [World.cell?_setCell_other _ _ _ _ (by simp)]; exact h.c2, World.cell?_setCell_same _ _ _ h.c3, ?_, ?_, ?_, ?_⟩
  all_goals rw [World.frozen?_setCell]
  · exact h.f0
  · exact h.f1
  · exact h.f2
  · exact h.f3
theorem Box4.s2 {u : World} {g : Nat} {a b c d : Value} (h : Box4 u g a b c d) (c' : Value) : Box4 (u.setCell ⟨g, 2, none⟩ c') g a b c' d := by
  refine ⟨by have := h.lt; simpa [World.setCell] using this, by rw [World.cell?_setCell_other _ _ _ _ (by simp)]; exact h.c0, by rw [World.cell?_setCell_other _ _ _ _ (by simp)]; exact h.c1, World.cell?_setCell_same _ _ _ h.c2, by rw [World.cell?_setCell_other _ _ _ _ (by simp)]; exact h.c3, ?_, ?_, ?_, ?_⟩
  all_goals rw [World.frozen?_setCell]
  · exact h.f0
  · exact h.f1
  · exact h.f2
  · exact h.f3
set_option maxRecDepth 8000 in
set_option maxHeartbeats 2000000 in
theorem l5Learn_A (S : List Sl) (gS cS n cC k : Nat) (aC : Option Addr) (u : Bool) (p t s pc tt : Int) (w : World) (hr : Ro4 w gS S) (hl : S.length = 8) (hk8 : k < 8) (hkm : Int.tmod pc 8 = (k : Int)) (hx : S.getD k sl0 = ⟨u, p, t, s⟩) (p0 : 0 ≤ pc) (p1 : pc < 65536) (s0 : 0 ≤ s) (s1 : s ≤ 3) (hst : (u && decide (p = pc)) = false) (hj : (tt != (pc + 1) % 65536) = true) :
    Calls Tryd.prog 70 #[.agg #[.slice (some ⟨gS, 0, none⟩) 8 cS, .slice aC n cC], .int .i64 pc, .int .i64 tt] w fun e w' => e = .returned (.agg #[.slice (some ⟨gS, 0, none⟩) 8 cS, .slice aC n cC]) ∧ Ro4 w' gS (S.set k ⟨true, pc, tt, 2⟩) ∧ But [gS] w w' := by
  have hgw := hr.lt
  have F2 : Fr w ((w.alloc (.cells #[.slice (some ⟨gS, 0, none⟩) 8 cS, .slice aC n cC] 30)).alloc (.cells #[.slice none 0 0, .slice none 0 0] 30)) := by
    (repeat' first | (with_reducible exact Below.refl _ _) | (with_reducible assumption) | ((with_reducible refine Below.setCell ?_ ?hb _); (case hb => first | exact Nat.le_refl _ | (simp; done) | (simp; omega) | omega)) | ((with_reducible refine Below.alloc ?_ ?hb _); (case hb => first | exact Nat.le_refl _ | (simp; done) | (simp; omega) | omega)) | (with_reducible refine Below.drew ?_))
  have HF := Lib.hid F2
  have HB := Lib.hid ((Box2.new w (.slice (some ⟨gS, 0, none⟩) 8 cS) (.slice aC n cC) 30 _ rfl).fr (Fr.alloc _ (.cells #[.slice none 0 0, .slice none 0 0] 30)))
  have HZ := Lib.hid (Box2.new (w.alloc (.cells #[.slice (some ⟨gS, 0, none⟩) 8 cS, .slice aC n cC] 30)) (.slice none 0 0) (.slice none 0 0) 30 (w.heap.size + 1) (by simp))
  have HR := Lib.hid (hr.fr F2)
  have HL := Lib.hid hl
  have hs2 : ((w.alloc (.cells #[.slice (some ⟨gS, 0, none⟩) 8 cS, .slice aC n cC] 30)).alloc (.cells #[.slice none 0 0, .slice none 0 0] 30)).heap.size = w.heap.size + 2 := by simp
  have hk8' : (k : Int) < 8 := by omega
  have hk0' : 0 ≤ (k : Int) := by omega
  have HX := Lib.hid hx
  clear hr hl F2 hx
  go_enter Tryd.func70, Tryd.ntmps70
  go_upto_region 2 with fail
  generalize ((w.alloc (.cells #[.slice (some ⟨gS, 0, none⟩) 8 cS, .slice aC n cC] 30)).alloc (.cells #[.slice none 0 0, .slice none 0 0] 30)) = u0 at *
  have hsl := HR.out.slot k (by rw [HL.out]; exact hk8)
  rw [HX.out] at hsl
  obtain ⟨d0, d1, d2, d3⟩ := hsl
  obtain ⟨_, a0, a1, _, _⟩ := HB.out
  simp only at d0 d1 d2 d3
  go_upto_region 3 with fail
  have F3 := Fr.alloc u0 (.cells #[.bool u, .int .i64 p, .int .i64 t, .int .i64 s] 51)
  have HF3 := Lib.hid (HF.out.trans F3)
  have HB3 := Lib.hid (HB.out.fr F3)
  have HZ3 := Lib.hid (HZ.out.fr F3)
  have HR3 := Lib.hid (HR.out.fr F3)
  have HX3 := Lib.hid (Box4.new u0 (.bool u) (.int .i64 p) (.int .i64 t) (.int .i64 s) 51 (w.heap.size + 2) hs2)
  clear F3 HF HB HZ HR a0 a1 d0 d1 d2 d3
  generalize (u0.alloc (.cells #[.bool u, .int .i64 p, .int .i64 t, .int .i64 s] 51)) = u1 at *
  obtain ⟨_, a0, a1, af0, af1⟩ := HB3.out
  obtain ⟨_, z0, z1, zf0, zf1⟩ := HZ3.out
  obtain ⟨_, x0, x1, x2, x3, xf0, xf1, xf2, xf3⟩ := HX3.out
  by_cases hu : u = true
  · subst hu
    have hn : (p != pc) = true := by simpa using hst
    have hn' : ¬ p = pc := by simpa using hst
    clear hst
    have hT := HR3.out.there4 k (by rw [HL.out]; exact hk8)
    have hR4 := HR3.out.setS k ⟨true, pc, tt, 2⟩ (by rw [HL.out]; exact hk8)
    have hb4 : But [gS] u1 (u1.setCells gS (k * 4) (slc ⟨true, pc, tt, 2⟩)) := But.setCells _ (.inl (by simp)) _ _ _ (But.refl _ _)
    have hB4 := HB3.out.but hb4 (by simp <;> omega)
    have hZ4 := HZ3.out.but hb4 (by simp <;> omega)
    have hW4 := (But.of HF3.out : But [gS] w u1).trans hb4
    obtain ⟨u2, hu2⟩ : ∃ u2, u1.setCells gS (k * 4) (slc ⟨true, pc, tt, 2⟩) = u2 := ⟨_, rfl⟩
    rw [hu2] at hR4 hB4 hZ4 hW4
    have HT := Lib.hid hT
    have HU2 := Lib.hid hu2
    have HR4 := Lib.hid hR4
    have HW4 := Lib.hid hW4
    obtain ⟨_, b0, b1, bf0, bf1⟩ := hB4
    obtain ⟨_, y0, y1, yf0, yf1⟩ := hZ4
    clear hT hu2 hR4 hW4 hb4
    go_wp2_with (first | (go_at_call 73; refine (spec_l1Wrap _ _).mono ?_; rintro e w' ⟨rfl, rfl⟩) | (refine wpList_store_slot rfl _ _ rfl gS (k * 4) ⟨true, pc, tt, 2⟩ rfl rfl HT.out u2 HU2.out ?_))
    all_goals first | (exfalso; omega) | skip
    refine bodyPost_ret (v := .agg #[.slice (some ⟨gS, 0, none⟩) 8 cS, .slice aC n cC]) (by simp [results, Tryd.results70, go_sem, World.cell?_setCell_other, World.cell?_setCell_same, b0, b1, y0, y1]) rfl ⟨rfl, ?_, ?_⟩
    · exact HR4.out.but (L := [w.heap.size + 1]) ((But.refl _ _).set2 (w.heap.size + 1) _ _ (.inl (by simp))) (by simp <;> omega)
    · exact (HW4.out).set2 (w.heap.size + 1) _ _ (.inr (by omega))
  · have hu' : u = false := by simpa using hu
    subst hu'
    clear hst hu
    have hT := HR3.out.there4 k (by rw [HL.out]; exact hk8)
    have hR4 := HR3.out.setS k ⟨true, pc, tt, 2⟩ (by rw [HL.out]; exact hk8)
    have hb4 : But [gS] u1 (u1.setCells gS (k * 4) (slc ⟨true, pc, tt, 2⟩)) := But.setCells _ (.inl (by simp)) _ _ _ (But.refl _ _)
    have hB4 := HB3.out.but hb4 (by simp <;> omega)
    have hZ4 := HZ3.out.but hb4 (by simp <;> omega)
    have hW4 := (But.of HF3.out : But [gS] w u1).trans hb4
    obtain ⟨u2, hu2⟩ : ∃ u2, u1.setCells gS (k * 4) (slc ⟨true, pc, tt, 2⟩) = u2 := ⟨_, rfl⟩
    rw [hu2] at hR4 hB4 hZ4 hW4
    have HT := Lib.hid hT
    have HU2 := Lib.hid hu2
    have HR4 := Lib.hid hR4
    have HW4 := Lib.hid hW4
    obtain ⟨_, b0, b1, bf0, bf1⟩ := hB4
    obtain ⟨_, y0, y1, yf0, yf1⟩ := hZ4
    clear hT hu2 hR4 hW4 hb4
    go_wp2_with (first | (go_at_call 73; refine (spec_l1Wrap _ _).mono ?_; rintro e w' ⟨rfl, rfl⟩) | (refine wpList_store_slot rfl _ _ rfl gS (k * 4) ⟨true, pc, tt, 2⟩ rfl rfl HT.out u2 HU2.out ?_))
    all_goals first | (exfalso; omega) | skip
    refine bodyPost_ret (v := .agg #[.slice (some ⟨gS, 0, none⟩) 8 cS, .slice aC n cC]) (by simp [results, Tryd.results70, go_sem, World.cell?_setCell_other, World.cell?_setCell_same, b0, b1, y0, y1]) rfl ⟨rfl, ?_, ?_⟩
    · exact HR4.out.but (L := [w.heap.size + 1]) ((But.refl _ _).set2 (w.heap.size + 1) _ _ (.inl (by simp))) (by simp <;> omega)
    · exact (HW4.out).set2 (w.heap.size + 1) _ _ (.inr (by omega))
set_option maxRecDepth 8000 in
set_option maxHeartbeats 2000000 in
theorem l5Learn_B (S : List Sl) (gS cS n cC k : Nat) (aC : Option Addr) (u : Bool) (p t s pc tt : Int) (w : World) (hr : Ro4 w gS S) (hl : S.length = 8) (hk8 : k < 8) (hkm : Int.tmod pc 8 = (k : Int)) (hx : S.getD k sl0 = ⟨u, p, t, s⟩) (p0 : 0 ≤ pc) (p1 : pc < 65536) (s0 : 0 ≤ s) (s1 : s ≤ 3) (hst : (u && decide (p = pc)) = false) (hj : tt = (pc + 1) % 65536) :
    Calls Tryd.prog 70 #[.agg #[.slice (some ⟨gS, 0, none⟩) 8 cS, .slice aC n cC], .int .i64 pc, .int .i64 tt] w fun e w' => e = .returned (.agg #[.slice (some ⟨gS, 0, none⟩) 8 cS, .slice aC n cC]) ∧ Ro4 w' gS S ∧ But [gS] w w' := by
  have hgw := hr.lt
  have F2 : Fr w ((w.alloc (.cells #[.slice (some ⟨gS, 0, none⟩) 8 cS, .slice aC n cC] 30)).alloc (.cells #[.slice none 0 0, .slice none 0 0] 30)) := by
    (repeat' first | (with_reducible exact Below.refl _ _) | (with_reducible assumption) | ((with_reducible refine Below.setCell ?_ ?hb _); (case hb => first | exact Nat.le_refl _ | (simp; done) | (simp; omega) | omega)) | ((with_reducible refine Below.alloc ?_ ?hb _); (case hb => first | exact Nat.le_refl _ | (simp; done) | (simp; omega) | omega)) | (with_reducible refine Below.drew ?_))
  have HF := Lib.hid F2
  have HB := Lib.hid ((Box2.new w (.slice (some ⟨gS, 0, none⟩) 8 cS) (.slice aC n cC) 30 _ rfl).fr (Fr.alloc _ (.cells #[.slice none 0 0, .slice none 0 0] 30)))
  have HZ := Lib.hid (Box2.new (w.alloc (.cells #[.slice (some ⟨gS, 0, none⟩) 8 cS, .slice aC n cC] 30)) (.slice none 0 0) (.slice none 0 0) 30 (w.heap.size + 1) (by simp))
  have HR := Lib.hid (hr.fr F2)
  have HL := Lib.hid hl
  have hs2 : ((w.alloc (.cells #[.slice (some ⟨gS, 0, none⟩) 8 cS, .slice aC n cC] 30)).alloc (.cells #[.slice none 0 0, .slice none 0 0] 30)).heap.size = w.heap.size + 2 := by simp
  have hk8' : (k : Int) < 8 := by omega
  have hk0' : 0 ≤ (k : Int) := by omega
  have HX := Lib.hid hx
  clear hr hl F2 hx
  go_enter Tryd.func70, Tryd.ntmps70
  go_upto_region 2 with fail
  generalize ((w.alloc (.cells #[.slice (some ⟨gS, 0, none⟩) 8 cS, .slice aC n cC] 30)).alloc (.cells #[.slice none 0 0, .slice none 0 0] 30)) = u0 at *
  have hsl := HR.out.slot k (by rw [HL.out]; exact hk8)
  rw [HX.out] at hsl
  obtain ⟨d0, d1, d2, d3⟩ := hsl
  obtain ⟨_, a0, a1, _, _⟩ := HB.out
  simp only at d0 d1 d2 d3
  go_upto_region 3 with fail
  have F3 := Fr.alloc u0 (.cells #[.bool u, .int .i64 p, .int .i64 t, .int .i64 s] 51)
  have HF3 := Lib.hid (HF.out.trans F3)
  have HB3 := Lib.hid (HB.out.fr F3)
  have HZ3 := Lib.hid (HZ.out.fr F3)
  have HR3 := Lib.hid (HR.out.fr F3)
  have HX3 := Lib.hid (Box4.new u0 (.bool u) (.int .i64 p) (.int .i64 t) (.int .i64 s) 51 (w.heap.size + 2) hs2)
  clear F3 HF HB HZ HR a0 a1 d0 d1 d2 d3
  generalize (u0.alloc (.cells #[.bool u, .int .i64 p, .int .i64 t, .int .i64 s] 51)) = u1 at *
  obtain ⟨_, a0, a1, af0, af1⟩ := HB3.out
  obtain ⟨_, z0, z1, zf0, zf1⟩ := HZ3.out
  obtain ⟨_, x0, x1, x2, x3, xf0, xf1, xf2, xf3⟩ := HX3.out
  by_cases hu : u = true
  · subst hu
    have hn : (p != pc) = true := by simpa using hst
    have hn' : ¬ p = pc := by simpa using hst
    clear hst
    go_wp2_with (go_at_call 73; refine (spec_l1Wrap _ _).mono ?_; rintro e w' ⟨rfl, rfl⟩)
    all_goals first | (exfalso; omega) | skip
    refine bodyPost_ret (v := .agg #[.slice (some ⟨gS, 0, none⟩) 8 cS, .slice aC n cC]) (by simp [results, Tryd.results70, go_sem, World.cell?_setCell_other, World.cell?_setCell_same, a0, a1, z0, z1]) rfl ⟨rfl, ?_, ?_⟩
    · exact HR3.out.but (L := [w.heap.size + 1]) ((But.refl _ _).set2 (w.heap.size + 1) _ _ (.inl (by simp))) (by simp <;> omega)
    · exact (But.of HF3.out).set2 (w.heap.size + 1) _ _ (.inr (by omega))
  · have hu' : u = false := by simpa using hu
    subst hu'
    clear hst hu
    go_wp2_with (go_at_call 73; refine (spec_l1Wrap _ _).mono ?_; rintro e w' ⟨rfl, rfl⟩)
    refine bodyPost_ret (v := .agg #[.slice (some ⟨gS, 0, none⟩) 8 cS, .slice aC n cC]) (by simp [results, Tryd.results70, go_sem, World.cell?_setCell_other, World.cell?_setCell_same, a0, a1, z0, z1]) rfl ⟨rfl, ?_, ?_⟩
    · exact HR3.out.but (L := [w.heap.size + 1]) ((But.refl _ _).set2 (w.heap.size + 1) _ _ (.inl (by simp))) (by simp <;> omega)
    · exact (But.of HF3.out).set2 (w.heap.size + 1) _ _ (.inr (by omega))
set_option maxRecDepth 8000 in
set_option maxHeartbeats 2000000 in
theorem l5Learn_C (S : List Sl) (gS cS n cC k : Nat) (aC : Option Addr) (u : Bool) (p t s pc tt : Int) (w : World) (hr : Ro4 w gS S) (hl : S.length = 8) (hk8 : k < 8) (hkm : Int.tmod pc 8 = (k : Int)) (hx : S.getD k sl0 = ⟨u, p, t, s⟩) (p0 : 0 ≤ pc) (p1 : pc < 65536) (s0 : 0 ≤ s) (s1 : s ≤ 3) (hst : (u && decide (p = pc)) = true) (ht : t = tt) (hm : s + 1 < 3) :
    Calls Tryd.prog 70 #[.agg #[.slice (some ⟨gS, 0, none⟩) 8 cS, .slice aC n cC], .int .i64 pc, .int .i64 tt] w fun e w' => e = .returned (.agg #[.slice (some ⟨gS, 0, none⟩) 8 cS, .slice aC n cC]) ∧ Ro4 w' gS (S.set k ⟨u, p, t, s + 1⟩) ∧ But [gS] w w' := by
  subst ht
  obtain ⟨rfl, rfl⟩ : u = true ∧ p = pc := by simpa using hst
  clear hst
  have hgw := hr.lt
  have F2 : Fr w ((w.alloc (.cells #[.slice (some ⟨gS, 0, none⟩) 8 cS, .slice aC n cC] 30)).alloc (.cells #[.slice none 0 0, .slice none 0 0] 30)) := by
    (repeat' first | (with_reducible exact Below.refl _ _) | (with_reducible assumption) | ((with_reducible refine Below.setCell ?_ ?hb _); (case hb => first | exact Nat.le_refl _ | (simp; done) | (simp; omega) | omega)) | ((with_reducible refine Below.alloc ?_ ?hb _); (case hb => first | exact Nat.le_refl _ | (simp; done) | (simp; omega) | omega)) | (with_reducible refine Below.drew ?_))
  have HF := Lib.hid F2
  have HB := Lib.hid ((Box2.new w (.slice (some ⟨gS, 0, none⟩) 8 cS) (.slice aC n cC) 30 _ rfl).fr (Fr.alloc _ (.cells #[.slice none 0 0, .slice none 0 0] 30)))
  have HZ := Lib.hid (Box2.new (w.alloc (.cells #[.slice (some ⟨gS, 0, none⟩) 8 cS, .slice aC n cC] 30)) (.slice none 0 0) (.slice none 0 0) 30 (w.heap.size + 1) (by simp))
  have HR := Lib.hid (hr.fr F2)
  have HL := Lib.hid hl
  have hs2 : ((w.alloc (.cells #[.slice (some ⟨gS, 0, none⟩) 8 cS, .slice aC n cC] 30)).alloc (.cells #[.slice none 0 0, .slice none 0 0] 30)).heap.size = w.heap.size + 2 := by simp
  have hk8' : (k : Int) < 8 := by omega
  have hk0' : 0 ≤ (k : Int) := by omega
  have HX := Lib.hid hx
  clear hr hl F2 hx
  go_enter Tryd.func70, Tryd.ntmps70
  go_upto_region 2 with fail
  generalize ((w.alloc (.cells #[.slice (some ⟨gS, 0, none⟩) 8 cS, .slice aC n cC] 30)).alloc (.cells #[.slice none 0 0, .slice none 0 0] 30)) = u0 at *
  have hsl := HR.out.slot k (by rw [HL.out]; exact hk8)
  rw [HX.out] at hsl
  obtain ⟨d0, d1, d2, d3⟩ := hsl
  obtain ⟨_, a0, a1, _, _⟩ := HB.out
  simp only at d0 d1 d2 d3
  go_upto_region 3 with fail
  have F3 := Fr.alloc u0 (.cells #[.bool true, .int .i64 p, .int .i64 t, .int .i64 s] 51)
  have HF3 := Lib.hid (HF.out.trans F3)
  have HB3 := Lib.hid (HB.out.fr F3)
  have HZ3 := Lib.hid (HZ.out.fr F3)
  have HR3 := Lib.hid (HR.out.fr F3)
  have HX3 := Lib.hid (Box4.new u0 (.bool true) (.int .i64 p) (.int .i64 t) (.int .i64 s) 51 (w.heap.size + 2) hs2)
  clear F3 HF HB HZ HR a0 a1 d0 d1 d2 d3
  generalize (u0.alloc (.cells #[.bool true, .int .i64 p, .int .i64 t, .int .i64 s] 51)) = u1 at *
  obtain ⟨_, a0, a1, af0, af1⟩ := HB3.out
  obtain ⟨_, z0, z1, zf0, zf1⟩ := HZ3.out
  obtain ⟨_, x0, x1, x2, x3, xf0, xf1, xf2, xf3⟩ := HX3.out
  have hm1 : ¬ s + 1 < 0 := by omega
  go_upto_region 15 with (go_at_call 73; refine (spec_l1Wrap _ _).mono ?_; rintro e w' ⟨rfl, rfl⟩)
  all_goals first | (exfalso; omega) | skip
  have hb5 : But [w.heap.size + 2] u1 (u1.setCell ⟨w.heap.size + 2, 3, none⟩ (.int .i64 (s + 1))) := ((But.refl _ _).set (w.heap.size + 2) 3 _ (.inl (by simp)))
  have HB5 := Lib.hid (HB3.out.but hb5 (by simp <;> omega))
  have HZ5 := Lib.hid (HZ3.out.but hb5 (by simp <;> omega))
  have HR5 := Lib.hid (HR3.out.but hb5 (by simp <;> omega))
  have HF5 := Lib.hid (fr_but HF3.out hb5 (fun k hk => by have := List.mem_singleton.1 hk; omega))
  obtain ⟨_, e0, e1, e2, e3, _, _, _, _⟩ := (HX3.out.s3 (.int .i64 (s + 1)))
  clear hb5 HB3 HZ3 HR3 HF3 HX3 a0 a1 z0 z1 x0 x1 x2 x3 af0 af1 zf0 zf1 xf0 xf1 xf2 xf3
  generalize (u1.setCell ⟨w.heap.size + 2, 3, none⟩ (.int .i64 (s + 1))) = u2 at *
  have hT := HR5.out.there4 k (by rw [HL.out]; exact hk8)
  have hR4 := HR5.out.setS k ⟨true, p, t, s + 1⟩ (by rw [HL.out]; exact hk8)
  have hb4 : But [gS] u2 (u2.setCells gS (k * 4) (slc ⟨true, p, t, s + 1⟩)) := But.setCells _ (.inl (by simp)) _ _ _ (But.refl _ _)
  have hB4 := HB5.out.but hb4 (by simp <;> omega)
  have hZ4 := HZ5.out.but hb4 (by simp <;> omega)
  have hW4 := (But.of HF5.out : But [gS] w u2).trans hb4
  obtain ⟨u3, hu3⟩ : ∃ u3, u2.setCells gS (k * 4) (slc ⟨true, p, t, s + 1⟩) = u3 := ⟨_, rfl⟩
  rw [hu3] at hR4 hB4 hZ4 hW4
  have HT := Lib.hid hT
  have HU3 := Lib.hid hu3
  have HR4 := Lib.hid hR4
  have HW4 := Lib.hid hW4
  obtain ⟨_, a0, a1, _, _⟩ := HB5.out
  obtain ⟨_, b0, b1, bf0, bf1⟩ := hB4
  obtain ⟨_, y0, y1, yf0, yf1⟩ := hZ4
  clear hT hu3 hR4 hW4 hb4
  go_wp2_with (refine wpList_store_slot rfl _ _ rfl gS (k * 4) ⟨true, p, t, s + 1⟩ rfl rfl HT.out u3 HU3.out ?_)
  refine bodyPost_ret (v := .agg #[.slice (some ⟨gS, 0, none⟩) 8 cS, .slice aC n cC]) (by simp [results, Tryd.results70, go_sem, World.cell?_setCell_other, World.cell?_setCell_same, b0, b1, y0, y1]) rfl ⟨rfl, ?_, ?_⟩
  · exact HR4.out.but (L := [w.heap.size + 1]) ((But.refl _ _).set2 (w.heap.size + 1) _ _ (.inl (by simp))) (by simp <;> omega)
  · exact (HW4.out).set2 (w.heap.size + 1) _ _ (.inr (by omega))
set_option maxRecDepth 8000 in
set_option maxHeartbeats 2000000 in
theorem l5Learn_G (S : List Sl) (gS cS n cC k : Nat) (aC : Option Addr) (u : Bool) (p t s pc tt : Int) (w : World) (hr : Ro4 w gS S) (hl : S.length = 8) (hk8 : k < 8) (hkm : Int.tmod pc 8 = (k : Int)) (hx : S.getD k sl0 = ⟨u, p, t, s⟩) (p0 : 0 ≤ pc) (p1 : pc < 65536) (s0 : 0 ≤ s) (s1 : s ≤ 3) (hst : (u && decide (p = pc)) = true) (ht : t = tt) (hm : ¬ s + 1 < 3) :
    Calls Tryd.prog 70 #[.agg #[.slice (some ⟨gS, 0, none⟩) 8 cS, .slice aC n cC], .int .i64 pc, .int .i64 tt] w fun e w' => e = .returned (.agg #[.slice (some ⟨gS, 0, none⟩) 8 cS, .slice aC n cC]) ∧ Ro4 w' gS (S.set k ⟨u, p, t, 3⟩) ∧ But [gS] w w' := by
  subst ht
  obtain ⟨rfl, rfl⟩ : u = true ∧ p = pc := by simpa using hst
  clear hst
  have hgw := hr.lt
  have F2 : Fr w ((w.alloc (.cells #[.slice (some ⟨gS, 0, none⟩) 8 cS, .slice aC n cC] 30)).alloc (.cells #[.slice none 0 0, .slice none 0 0] 30)) := by
    (repeat' first | (with_reducible exact Below.refl _ _) | (with_reducible assumption) | ((with_reducible refine Below.setCell ?_ ?hb _); (case hb => first | exact Nat.le_refl _ | (simp; done) | (simp; omega) | omega)) | ((with_reducible refine Below.alloc ?_ ?hb _); (case hb => first | exact Nat.le_refl _ | (simp; done) | (simp; omega) | omega)) | (with_reducible refine Below.drew ?_))
  have HF := Lib.hid F2
  have HB := Lib.hid ((Box2.new w (.slice (some ⟨gS, 0, none⟩) 8 cS) (.slice aC n cC) 30 _ rfl).fr (Fr.alloc _ (.cells #[.slice none 0 0, .slice none 0 0] 30)))
  have HZ := Lib.hid (Box2.new (w.alloc (.cells #[.slice (some ⟨gS, 0, none⟩) 8 cS, .slice aC n cC] 30)) (.slice none 0 0) (.slice none 0 0) 30 (w.heap.size + 1) (by simp))
  have HR := Lib.hid (hr.fr F2)
  have HL := Lib.hid hl
  have hs2 : ((w.alloc (.cells #[.slice (some ⟨gS, 0, none⟩) 8 cS, .slice aC n cC] 30)).alloc (.cells #[.slice none 0 0, .slice none 0 0] 30)).heap.size = w.heap.size + 2 := by simp
  have hk8' : (k : Int) < 8 := by omega
  have hk0' : 0 ≤ (k : Int) := by omega
  have HX := Lib.hid hx
  clear hr hl F2 hx
  go_enter Tryd.func70, Tryd.ntmps70
  go_upto_region 2 with fail
  generalize ((w.alloc (.cells #[.slice (some ⟨gS, 0, none⟩) 8 cS, .slice aC n cC] 30)).alloc (.cells #[.slice none 0 0, .slice none 0 0] 30)) = u0 at *
  have hsl := HR.out.slot k (by rw [HL.out]; exact hk8)
  rw [HX.out] at hsl
  obtain ⟨d0, d1, d2, d3⟩ := hsl
  obtain ⟨_, a0, a1, _, _⟩ := HB.out
  simp only at d0 d1 d2 d3
  go_upto_region 3 with fail
  have F3 := Fr.alloc u0 (.cells #[.bool true, .int .i64 p, .int .i64 t, .int .i64 s] 51)
  have HF3 := Lib.hid (HF.out.trans F3)
  have HB3 := Lib.hid (HB.out.fr F3)
  have HZ3 := Lib.hid (HZ.out.fr F3)
  have HR3 := Lib.hid (HR.out.fr F3)
  have HX3 := Lib.hid (Box4.new u0 (.bool true) (.int .i64 p) (.int .i64 t) (.int .i64 s) 51 (w.heap.size + 2) hs2)
  clear F3 HF HB HZ HR a0 a1 d0 d1 d2 d3
  generalize (u0.alloc (.cells #[.bool true, .int .i64 p, .int .i64 t, .int .i64 s] 51)) = u1 at *
  obtain ⟨_, a0, a1, af0, af1⟩ := HB3.out
  obtain ⟨_, z0, z1, zf0, zf1⟩ := HZ3.out
  obtain ⟨_, x0, x1, x2, x3, xf0, xf1, xf2, xf3⟩ := HX3.out
  have hm1 : ¬ s + 1 < 0 := by omega
  have hm3 : ¬ (3 : Int) < 0 := by omega
  go_upto_region 15 with (go_at_call 73; refine (spec_l1Wrap _ _).mono ?_; rintro e w' ⟨rfl, rfl⟩)
  all_goals first | (exfalso; omega) | skip
  have hb5 : But [w.heap.size + 2] u1 (u1.setCell ⟨w.heap.size + 2, 3, none⟩ (.int .i64 3)) := ((But.refl _ _).set (w.heap.size + 2) 3 _ (.inl (by simp)))
  have HB5 := Lib.hid (HB3.out.but hb5 (by simp <;> omega))
  have HZ5 := Lib.hid (HZ3.out.but hb5 (by simp <;> omega))
  have HR5 := Lib.hid (HR3.out.but hb5 (by simp <;> omega))
  have HF5 := Lib.hid (fr_but HF3.out hb5 (fun k hk => by have := List.mem_singleton.1 hk; omega))
  obtain ⟨_, e0, e1, e2, e3, _, _, _, _⟩ := (HX3.out.s3 (.int .i64 3))
  clear hb5 HB3 HZ3 HR3 HF3 HX3 a0 a1 z0 z1 x0 x1 x2 x3 af0 af1 zf0 zf1 xf0 xf1 xf2 xf3
  generalize (u1.setCell ⟨w.heap.size + 2, 3, none⟩ (.int .i64 3)) = u2 at *
  have hT := HR5.out.there4 k (by rw [HL.out]; exact hk8)
  have hR4 := HR5.out.setS k ⟨true, p, t, 3⟩ (by rw [HL.out]; exact hk8)
  have hb4 : But [gS] u2 (u2.setCells gS (k * 4) (slc ⟨true, p, t, 3⟩)) := But.setCells _ (.inl (by simp)) _ _ _ (But.refl _ _)
  have hB4 := HB5.out.but hb4 (by simp <;> omega)
  have hZ4 := HZ5.out.but hb4 (by simp <;> omega)
  have hW4 := (But.of HF5.out : But [gS] w u2).trans hb4
  obtain ⟨u3, hu3⟩ : ∃ u3, u2.setCells gS (k * 4) (slc ⟨true, p, t, 3⟩) = u3 := ⟨_, rfl⟩
  rw [hu3] at hR4 hB4 hZ4 hW4
  have HT := Lib.hid hT
  have HU3 := Lib.hid hu3
  have HR4 := Lib.hid hR4
  have HW4 := Lib.hid hW4
  obtain ⟨_, a0, a1, _, _⟩ := HB5.out
  obtain ⟨_, b0, b1, bf0, bf1⟩ := hB4
  obtain ⟨_, y0, y1, yf0, yf1⟩ := hZ4
  clear hT hu3 hR4 hW4 hb4
  go_wp2_with (refine wpList_store_slot rfl _ _ rfl gS (k * 4) ⟨true, p, t, 3⟩ rfl rfl HT.out u3 HU3.out ?_)
  refine bodyPost_ret (v := .agg #[.slice (some ⟨gS, 0, none⟩) 8 cS, .slice aC n cC]) (by simp [results, Tryd.results70, go_sem, World.cell?_setCell_other, World.cell?_setCell_same, b0, b1, y0, y1]) rfl ⟨rfl, ?_, ?_⟩
  · exact HR4.out.but (L := [w.heap.size + 1]) ((But.refl _ _).set2 (w.heap.size + 1) _ _ (.inl (by simp))) (by simp <;> omega)
  · exact (HW4.out).set2 (w.heap.size + 1) _ _ (.inr (by omega))
set_option maxRecDepth 8000 in
set_option maxHeartbeats 2000000 in
theorem l5Learn_D (S : List Sl) (gS cS n cC k : Nat) (aC : Option Addr) (u : Bool) (p t s pc tt : Int) (w : World) (hr : Ro4 w gS S) (hl : S.length = 8) (hk8 : k < 8) (hkm : Int.tmod pc 8 = (k : Int)) (hx : S.getD k sl0 = ⟨u, p, t, s⟩) (p0 : 0 ≤ pc) (p1 : pc < 65536) (s0 : 0 ≤ s) (s1 : s ≤ 3) (hst : (u && decide (p = pc)) = true) (ht : (t == tt) = false) (hs : 0 < s) :
    Calls Tryd.prog 70 #[.agg #[.slice (some ⟨gS, 0, none⟩) 8 cS, .slice aC n cC], .int .i64 pc, .int .i64 tt] w fun e w' => e = .returned (.agg #[.slice (some ⟨gS, 0, none⟩) 8 cS, .slice aC n cC]) ∧ Ro4 w' gS (S.set k ⟨u, p, t, s - 1⟩) ∧ But [gS] w w' := by
  obtain ⟨rfl, rfl⟩ : u = true ∧ p = pc := by simpa using hst
  clear hst
  have hgw := hr.lt
  have F2 : Fr w ((w.alloc (.cells #[.slice (some ⟨gS, 0, none⟩) 8 cS, .slice aC n cC] 30)).alloc (.cells #[.slice none 0 0, .slice none 0 0] 30)) := by
    (repeat' first | (with_reducible exact Below.refl _ _) | (with_reducible assumption) | ((with_reducible refine Below.setCell ?_ ?hb _); (case hb => first | exact Nat.le_refl _ | (simp; done) | (simp; omega) | omega)) | ((with_reducible refine Below.alloc ?_ ?hb _); (case hb => first | exact Nat.le_refl _ | (simp; done) | (simp; omega) | omega)) | (with_reducible refine Below.drew ?_))
  have HF := Lib.hid F2
  have HB := Lib.hid ((Box2.new w (.slice (some ⟨gS, 0, none⟩) 8 cS) (.slice aC n cC) 30 _ rfl).fr (Fr.alloc _ (.cells #[.slice none 0 0, .slice none 0 0] 30)))
  have HZ := Lib.hid (Box2.new (w.alloc (.cells #[.slice (some ⟨gS, 0, none⟩) 8 cS, .slice aC n cC] 30)) (.slice none 0 0) (.slice none 0 0) 30 (w.heap.size + 1) (by simp))
  have HR := Lib.hid (hr.fr F2)
  have HL := Lib.hid hl
  have hs2 : ((w.alloc (.cells #[.slice (some ⟨gS, 0, none⟩) 8 cS, .slice aC n cC] 30)).alloc (.cells #[.slice none 0 0, .slice none 0 0] 30)).heap.size = w.heap.size + 2 := by simp
  have hk8' : (k : Int) < 8 := by omega
  have hk0' : 0 ≤ (k : Int) := by omega
  have HX := Lib.hid hx
  clear hr hl F2 hx
  go_enter Tryd.func70, Tryd.ntmps70
  go_upto_region 2 with fail
  generalize ((w.alloc (.cells #[.slice (some ⟨gS, 0, none⟩) 8 cS, .slice aC n cC] 30)).alloc (.cells #[.slice none 0 0, .slice none 0 0] 30)) = u0 at *
  have hsl := HR.out.slot k (by rw [HL.out]; exact hk8)
  rw [HX.out] at hsl
  obtain ⟨d0, d1, d2, d3⟩ := hsl
  obtain ⟨_, a0, a1, _, _⟩ := HB.out
  simp only at d0 d1 d2 d3
  go_upto_region 3 with fail
  have F3 := Fr.alloc u0 (.cells #[.bool true, .int .i64 p, .int .i64 t, .int .i64 s] 51)
  have HF3 := Lib.hid (HF.out.trans F3)
  have HB3 := Lib.hid (HB.out.fr F3)
  have HZ3 := Lib.hid (HZ.out.fr F3)
  have HR3 := Lib.hid (HR.out.fr F3)
  have HX3 := Lib.hid (Box4.new u0 (.bool true) (.int .i64 p) (.int .i64 t) (.int .i64 s) 51 (w.heap.size + 2) hs2)
  clear F3 HF HB HZ HR a0 a1 d0 d1 d2 d3
  generalize (u0.alloc (.cells #[.bool true, .int .i64 p, .int .i64 t, .int .i64 s] 51)) = u1 at *
  obtain ⟨_, a0, a1, af0, af1⟩ := HB3.out
  obtain ⟨_, z0, z1, zf0, zf1⟩ := HZ3.out
  obtain ⟨_, x0, x1, x2, x3, xf0, xf1, xf2, xf3⟩ := HX3.out
  have hm2 : ¬ s - 1 < 0 := by omega
  go_upto_region 15 with (go_at_call 73; refine (spec_l1Wrap _ _).mono ?_; rintro e w' ⟨rfl, rfl⟩)
  all_goals first | (exfalso; omega) | skip
  have hb5 : But [w.heap.size + 2] u1 (u1.setCell ⟨w.heap.size + 2, 3, none⟩ (.int .i64 (s - 1))) := ((But.refl _ _).set (w.heap.size + 2) 3 _ (.inl (by simp)))
  have HB5 := Lib.hid (HB3.out.but hb5 (by simp <;> omega))
  have HZ5 := Lib.hid (HZ3.out.but hb5 (by simp <;> omega))
  have HR5 := Lib.hid (HR3.out.but hb5 (by simp <;> omega))
  have HF5 := Lib.hid (fr_but HF3.out hb5 (fun k hk => by have := List.mem_singleton.1 hk; omega))
  obtain ⟨_, e0, e1, e2, e3, _, _, _, _⟩ := (HX3.out.s3 (.int .i64 (s - 1)))
  clear hb5 HB3 HZ3 HR3 HF3 HX3 a0 a1 z0 z1 x0 x1 x2 x3 af0 af1 zf0 zf1 xf0 xf1 xf2 xf3
  generalize (u1.setCell ⟨w.heap.size + 2, 3, none⟩ (.int .i64 (s - 1))) = u2 at *
  have hT := HR5.out.there4 k (by rw [HL.out]; exact hk8)
  have hR4 := HR5.out.setS k ⟨true, p, t, s - 1⟩ (by rw [HL.out]; exact hk8)
  have hb4 : But [gS] u2 (u2.setCells gS (k * 4) (slc ⟨true, p, t, s - 1⟩)) := But.setCells _ (.inl (by simp)) _ _ _ (But.refl _ _)
  have hB4 := HB5.out.but hb4 (by simp <;> omega)
  have hZ4 := HZ5.out.but hb4 (by simp <;> omega)
  have hW4 := (But.of HF5.out : But [gS] w u2).trans hb4
  obtain ⟨u3, hu3⟩ : ∃ u3, u2.setCells gS (k * 4) (slc ⟨true, p, t, s - 1⟩) = u3 := ⟨_, rfl⟩
  rw [hu3] at hR4 hB4 hZ4 hW4
  have HT := Lib.hid hT
  have HU3 := Lib.hid hu3
  have HR4 := Lib.hid hR4
  have HW4 := Lib.hid hW4
  obtain ⟨_, a0, a1, _, _⟩ := HB5.out
  obtain ⟨_, b0, b1, bf0, bf1⟩ := hB4
  obtain ⟨_, y0, y1, yf0, yf1⟩ := hZ4
  clear hT hu3 hR4 hW4 hb4
  go_wp2_with (refine wpList_store_slot rfl _ _ rfl gS (k * 4) ⟨true, p, t, s - 1⟩ rfl rfl HT.out u3 HU3.out ?_)
  refine bodyPost_ret (v := .agg #[.slice (some ⟨gS, 0, none⟩) 8 cS, .slice aC n cC]) (by simp [results, Tryd.results70, go_sem, World.cell?_setCell_other, World.cell?_setCell_same, b0, b1, y0, y1]) rfl ⟨rfl, ?_, ?_⟩
  · exact HR4.out.but (L := [w.heap.size + 1]) ((But.refl _ _).set2 (w.heap.size + 1) _ _ (.inl (by simp))) (by simp <;> omega)
  · exact (HW4.out).set2 (w.heap.size + 1) _ _ (.inr (by omega))
set_option maxRecDepth 8000 in
set_option maxHeartbeats 2000000 in
theorem l5Learn_E (S : List Sl) (gS cS n cC k : Nat) (aC : Option Addr) (u : Bool) (p t s pc tt : Int) (w : World) (hr : Ro4 w gS S) (hl : S.length = 8) (hk8 : k < 8) (hkm : Int.tmod pc 8 = (k : Int)) (hx : S.getD k sl0 = ⟨u, p, t, s⟩) (p0 : 0 ≤ pc) (p1 : pc < 65536) (s0 : 0 ≤ s) (s1 : s ≤ 3) (hst : (u && decide (p = pc)) = true) (ht : (t == tt) = false) (hs : s = 0) (hj : (tt != (pc + 1) % 65536) = true) :
    Calls Tryd.prog 70 #[.agg #[.slice (some ⟨gS, 0, none⟩) 8 cS, .slice aC n cC], .int .i64 pc, .int .i64 tt] w fun e w' => e = .returned (.agg #[.slice (some ⟨gS, 0, none⟩) 8 cS, .slice aC n cC]) ∧ Ro4 w' gS (S.set k ⟨u, p, tt, 1⟩) ∧ But [gS] w w' := by
  subst hs
  obtain ⟨rfl, rfl⟩ : u = true ∧ p = pc := by simpa using hst
  clear hst
  have hgw := hr.lt
  have F2 : Fr w ((w.alloc (.cells #[.slice (some ⟨gS, 0, none⟩) 8 cS, .slice aC n cC] 30)).alloc (.cells #[.slice none 0 0, .slice none 0 0] 30)) := by
    (repeat' first | (with_reducible exact Below.refl _ _) | (with_reducible assumption) | ((with_reducible refine Below.setCell ?_ ?hb _); (case hb => first | exact Nat.le_refl _ | (simp; done) | (simp; omega) | omega)) | ((with_reducible refine Below.alloc ?_ ?hb _); (case hb => first | exact Nat.le_refl _ | (simp; done) | (simp; omega) | omega)) | (with_reducible refine Below.drew ?_))
  have HF := Lib.hid F2
  have HB := Lib.hid ((Box2.new w (.slice (some ⟨gS, 0, none⟩) 8 cS) (.slice aC n cC) 30 _ rfl).fr (Fr.alloc _ (.cells #[.slice none 0 0, .slice none 0 0] 30)))
  have HZ := Lib.hid (Box2.new (w.alloc (.cells #[.slice (some ⟨gS, 0, none⟩) 8 cS, .slice aC n cC] 30)) (.slice none 0 0) (.slice none 0 0) 30 (w.heap.size + 1) (by simp))
  have HR := Lib.hid (hr.fr F2)
  have HL := Lib.hid hl
  have hs2 : ((w.alloc (.cells #[.slice (some ⟨gS, 0, none⟩) 8 cS, .slice aC n cC] 30)).alloc (.cells #[.slice none 0 0, .slice none 0 0] 30)).heap.size = w.heap.size + 2 := by simp
  have hk8' : (k : Int) < 8 := by omega
  have hk0' : 0 ≤ (k : Int) := by omega
  have HX := Lib.hid hx
  clear hr hl F2 hx
  go_enter Tryd.func70, Tryd.ntmps70
  go_upto_region 2 with fail
  generalize ((w.alloc (.cells #[.slice (some ⟨gS, 0, none⟩) 8 cS, .slice aC n cC] 30)).alloc (.cells #[.slice none 0 0, .slice none 0 0] 30)) = u0 at *
  have hsl := HR.out.slot k (by rw [HL.out]; exact hk8)
  rw [HX.out] at hsl
  obtain ⟨d0, d1, d2, d3⟩ := hsl
  obtain ⟨_, a0, a1, _, _⟩ := HB.out
  simp only at d0 d1 d2 d3
  go_upto_region 3 with fail
  have F3 := Fr.alloc u0 (.cells #[.bool true, .int .i64 p, .int .i64 t, .int .i64 0] 51)
  have HF3 := Lib.hid (HF.out.trans F3)
  have HB3 := Lib.hid (HB.out.fr F3)
  have HZ3 := Lib.hid (HZ.out.fr F3)
  have HR3 := Lib.hid (HR.out.fr F3)
  have HX3 := Lib.hid (Box4.new u0 (.bool true) (.int .i64 p) (.int .i64 t) (.int .i64 0) 51 (w.heap.size + 2) hs2)
  clear F3 HF HB HZ HR a0 a1 d0 d1 d2 d3
  generalize (u0.alloc (.cells #[.bool true, .int .i64 p, .int .i64 t, .int .i64 0] 51)) = u1 at *
  obtain ⟨_, a0, a1, af0, af1⟩ := HB3.out
  obtain ⟨_, z0, z1, zf0, zf1⟩ := HZ3.out
  obtain ⟨_, x0, x1, x2, x3, xf0, xf1, xf2, xf3⟩ := HX3.out
  go_upto_region 15 with (go_at_call 73; refine (spec_l1Wrap _ _).mono ?_; rintro e w' ⟨rfl, rfl⟩)
  all_goals first | (exfalso; omega) | skip
  have hb5 : But [w.heap.size + 2] u1 ((((u1.setCell ⟨w.heap.size + 2, 3, none⟩ (.int .i64 (-1))).setCell ⟨w.heap.size + 2, 3, none⟩ (.int .i64 0)).setCell ⟨w.heap.size + 2, 2, none⟩ (.int .i64 tt)).setCell ⟨w.heap.size + 2, 3, none⟩ (.int .i64 1)) := (((((But.refl _ _).set (w.heap.size + 2) 3 _ (.inl (by simp))).set (w.heap.size + 2) 3 _ (.inl (by simp))).set (w.heap.size + 2) 2 _ (.inl (by simp))).set (w.heap.size + 2) 3 _ (.inl (by simp)))
  have HB5 := Lib.hid (HB3.out.but hb5 (by simp <;> omega))
  have HZ5 := Lib.hid (HZ3.out.but hb5 (by simp <;> omega))
  have HR5 := Lib.hid (HR3.out.but hb5 (by simp <;> omega))
  have HF5 := Lib.hid (fr_but HF3.out hb5 (fun k hk => by have := List.mem_singleton.1 hk; omega))
  obtain ⟨_, e0, e1, e2, e3, _, _, _, _⟩ := ((((HX3.out.s3 (.int .i64 (-1))).s3 (.int .i64 0)).s2 (.int .i64 tt)).s3 (.int .i64 1))
  clear hb5 HB3 HZ3 HR3 HF3 HX3 a0 a1 z0 z1 x0 x1 x2 x3 af0 af1 zf0 zf1 xf0 xf1 xf2 xf3
  generalize ((((u1.setCell ⟨w.heap.size + 2, 3, none⟩ (.int .i64 (-1))).setCell ⟨w.heap.size + 2, 3, none⟩ (.int .i64 0)).setCell ⟨w.heap.size + 2, 2, none⟩ (.int .i64 tt)).setCell ⟨w.heap.size + 2, 3, none⟩ (.int .i64 1)) = u2 at *
  have hT := HR5.out.there4 k (by rw [HL.out]; exact hk8)
  have hR4 := HR5.out.setS k ⟨true, p, tt, 1⟩ (by rw [HL.out]; exact hk8)
  have hb4 : But [gS] u2 (u2.setCells gS (k * 4) (slc ⟨true, p, tt, 1⟩)) := But.setCells _ (.inl (by simp)) _ _ _ (But.refl _ _)
  have hB4 := HB5.out.but hb4 (by simp <;> omega)
  have hZ4 := HZ5.out.but hb4 (by simp <;> omega)
  have hW4 := (But.of HF5.out : But [gS] w u2).trans hb4
  obtain ⟨u3, hu3⟩ : ∃ u3, u2.setCells gS (k * 4) (slc ⟨true, p, tt, 1⟩) = u3 := ⟨_, rfl⟩
  rw [hu3] at hR4 hB4 hZ4 hW4
  have HT := Lib.hid hT
  have HU3 := Lib.hid hu3
  have HR4 := Lib.hid hR4
  have HW4 := Lib.hid hW4
  obtain ⟨_, a0, a1, _, _⟩ := HB5.out
  obtain ⟨_, b0, b1, bf0, bf1⟩ := hB4
  obtain ⟨_, y0, y1, yf0, yf1⟩ := hZ4
  clear hT hu3 hR4 hW4 hb4
  go_wp2_with (refine wpList_store_slot rfl _ _ rfl gS (k * 4) ⟨true, p, tt, 1⟩ rfl rfl HT.out u3 HU3.out ?_)
  refine bodyPost_ret (v := .agg #[.slice (some ⟨gS, 0, none⟩) 8 cS, .slice aC n cC]) (by simp [results, Tryd.results70, go_sem, World.cell?_setCell_other, World.cell?_setCell_same, b0, b1, y0, y1]) rfl ⟨rfl, ?_, ?_⟩
  · exact HR4.out.but (L := [w.heap.size + 1]) ((But.refl _ _).set2 (w.heap.size + 1) _ _ (.inl (by simp))) (by simp <;> omega)
  · exact (HW4.out).set2 (w.heap.size + 1) _ _ (.inr (by omega))
set_option maxRecDepth 8000 in
set_option maxHeartbeats 2000000 in
theorem l5Learn_F (S : List Sl) (gS cS n cC k : Nat) (aC : Option Addr) (u : Bool) (p t s pc tt : Int) (w : World) (hr : Ro4 w gS S) (hl : S.length = 8) (hk8 : k < 8) (hkm : Int.tmod pc 8 = (k : Int)) (hx : S.getD k sl0 = ⟨u, p, t, s⟩) (p0 : 0 ≤ pc) (p1 : pc < 65536) (s0 : 0 ≤ s) (s1 : s ≤ 3) (hst : (u && decide (p = pc)) = true) (ht : (t == tt) = false) (hs : s = 0) (hj : tt = (pc + 1) % 65536) :
    Calls Tryd.prog 70 #[.agg #[.slice (some ⟨gS, 0, none⟩) 8 cS, .slice aC n cC], .int .i64 pc, .int .i64 tt] w fun e w' => e = .returned (.agg #[.slice (some ⟨gS, 0, none⟩) 8 cS, .slice aC n cC]) ∧ Ro4 w' gS (S.set k ⟨u, p, t, 0⟩) ∧ But [gS] w w' := by
  subst hs
  obtain ⟨rfl, rfl⟩ : u = true ∧ p = pc := by simpa using hst
  clear hst
  have hgw := hr.lt
  have F2 : Fr w ((w.alloc (.cells #[.slice (some ⟨gS, 0, none⟩) 8 cS, .slice aC n cC] 30)).alloc (.cells #[.slice none 0 0, .slice none 0 0] 30)) := by
    (repeat' first | (with_reducible exact Below.refl _ _) | (with_reducible assumption) | ((with_reducible refine Below.setCell ?_ ?hb _); (case hb => first | exact Nat.le_refl _ | (simp; done) | (simp; omega) | omega)) | ((with_reducible refine Below.alloc ?_ ?hb _); (case hb => first | exact Nat.le_refl _ | (simp; done) | (simp; omega) | omega)) | (with_reducible refine Below.drew ?_))
  have HF := Lib.hid F2
  have HB := Lib.hid ((Box2.new w (.slice (some ⟨gS, 0, none⟩) 8 cS) (.slice aC n cC) 30 _ rfl).fr (Fr.alloc _ (.cells #[.slice none 0 0, .slice none 0 0] 30)))
  have HZ := Lib.hid (Box2.new (w.alloc (.cells #[.slice (some ⟨gS, 0, none⟩) 8 cS, .slice aC n cC] 30)) (.slice none 0 0) (.slice none 0 0) 30 (w.heap.size + 1) (by simp))
  have HR := Lib.hid (hr.fr F2)
  have HL := Lib.hid hl
  have hs2 : ((w.alloc (.cells #[.slice (some ⟨gS, 0, none⟩) 8 cS, .slice aC n cC] 30)).alloc (.cells #[.slice none 0 0, .slice none 0 0] 30)).heap.size = w.heap.size + 2 := by simp
  have hk8' : (k : Int) < 8 := by omega
  have hk0' : 0 ≤ (k : Int) := by omega
  have HX := Lib.hid hx
  clear hr hl F2 hx
  go_enter Tryd.func70, Tryd.ntmps70
  go_upto_region 2 with fail
  generalize ((w.alloc (.cells #[.slice (some ⟨gS, 0, none⟩) 8 cS, .slice aC n cC] 30)).alloc (.cells #[.slice none 0 0, .slice none 0 0] 30)) = u0 at *
  have hsl := HR.out.slot k (by rw [HL.out]; exact hk8)
  rw [HX.out] at hsl
  obtain ⟨d0, d1, d2, d3⟩ := hsl
  obtain ⟨_, a0, a1, _, _⟩ := HB.out
  simp only at d0 d1 d2 d3
  go_upto_region 3 with fail
  have F3 := Fr.alloc u0 (.cells #[.bool true, .int .i64 p, .int .i64 t, .int .i64 0] 51)
  have HF3 := Lib.hid (HF.out.trans F3)
  have HB3 := Lib.hid (HB.out.fr F3)
  have HZ3 := Lib.hid (HZ.out.fr F3)
  have HR3 := Lib.hid (HR.out.fr F3)
  have HX3 := Lib.hid (Box4.new u0 (.bool true) (.int .i64 p) (.int .i64 t) (.int .i64 0) 51 (w.heap.size + 2) hs2)
  clear F3 HF HB HZ HR a0 a1 d0 d1 d2 d3
  generalize (u0.alloc (.cells #[.bool true, .int .i64 p, .int .i64 t, .int .i64 0] 51)) = u1 at *
  obtain ⟨_, a0, a1, af0, af1⟩ := HB3.out
  obtain ⟨_, z0, z1, zf0, zf1⟩ := HZ3.out
  obtain ⟨_, x0, x1, x2, x3, xf0, xf1, xf2, xf3⟩ := HX3.out
  go_upto_region 15 with (go_at_call 73; refine (spec_l1Wrap _ _).mono ?_; rintro e w' ⟨rfl, rfl⟩)
  all_goals first | (exfalso; omega) | skip
  have hb5 : But [w.heap.size + 2] u1 ((u1.setCell ⟨w.heap.size + 2, 3, none⟩ (.int .i64 (-1))).setCell ⟨w.heap.size + 2, 3, none⟩ (.int .i64 0)) := (((But.refl _ _).set (w.heap.size + 2) 3 _ (.inl (by simp))).set (w.heap.size + 2) 3 _ (.inl (by simp)))
  have HB5 := Lib.hid (HB3.out.but hb5 (by simp <;> omega))
  have HZ5 := Lib.hid (HZ3.out.but hb5 (by simp <;> omega))
  have HR5 := Lib.hid (HR3.out.but hb5 (by simp <;> omega))
  have HF5 := Lib.hid (fr_but HF3.out hb5 (fun k hk => by have := List.mem_singleton.1 hk; omega))
  obtain ⟨_, e0, e1, e2, e3, _, _, _, _⟩ := ((HX3.out.s3 (.int .i64 (-1))).s3 (.int .i64 0))
  clear hb5 HB3 HZ3 HR3 HF3 HX3 a0 a1 z0 z1 x0 x1 x2 x3 af0 af1 zf0 zf1 xf0 xf1 xf2 xf3
  generalize ((u1.setCell ⟨w.heap.size + 2, 3, none⟩ (.int .i64 (-1))).setCell ⟨w.heap.size + 2, 3, none⟩ (.int .i64 0)) = u2 at *
  have hT := HR5.out.there4 k (by rw [HL.out]; exact hk8)
  have hR4 := HR5.out.setS k ⟨true, p, t, 0⟩ (by rw [HL.out]; exact hk8)
  have hb4 : But [gS] u2 (u2.setCells gS (k * 4) (slc ⟨true, p, t, 0⟩)) := But.setCells _ (.inl (by simp)) _ _ _ (But.refl _ _)
  have hB4 := HB5.out.but hb4 (by simp <;> omega)
  have hZ4 := HZ5.out.but hb4 (by simp <;> omega)
  have hW4 := (But.of HF5.out : But [gS] w u2).trans hb4
  obtain ⟨u3, hu3⟩ : ∃ u3, u2.setCells gS (k * 4) (slc ⟨true, p, t, 0⟩) = u3 := ⟨_, rfl⟩
  rw [hu3] at hR4 hB4 hZ4 hW4
  have HT := Lib.hid hT
  have HU3 := Lib.hid hu3
  have HR4 := Lib.hid hR4
  have HW4 := Lib.hid hW4
  obtain ⟨_, a0, a1, _, _⟩ := HB5.out
  obtain ⟨_, b0, b1, bf0, bf1⟩ := hB4
  obtain ⟨_, y0, y1, yf0, yf1⟩ := hZ4
  clear hT hu3 hR4 hW4 hb4
  go_wp2_with (refine wpList_store_slot rfl _ _ rfl gS (k * 4) ⟨true, p, t, 0⟩ rfl rfl HT.out u3 HU3.out ?_)
  refine bodyPost_ret (v := .agg #[.slice (some ⟨gS, 0, none⟩) 8 cS, .slice aC n cC]) (by simp [results, Tryd.results70, go_sem, World.cell?_setCell_other, World.cell?_setCell_same, b0, b1, y0, y1]) rfl ⟨rfl, ?_, ?_⟩
  · exact HR4.out.but (L := [w.heap.size + 1]) ((But.refl _ _).set2 (w.heap.size + 1) _ _ (.inl (by simp))) (by simp <;> omega)
  · exact (HW4.out).set2 (w.heap.size + 1) _ _ (.inr (by omega))
theorem set_same {S : List Sl} {k : Nat} {x : Sl} (h : S.getD k sl0 = x) : S.set k x = S := by
  apply List.ext_getElem?
  intro i
  rw [List.getElem?_set]
  by_cases e : k = i
  · subst e
    rw [if_pos rfl]
    by_cases hk : k < S.length
    · rw [if_pos hk, List.getElem?_eq_getElem hk, ← h, List.getD_eq_getElem?_getD, List.getElem?_eq_getElem hk]
      rfl
    · rw [if_neg hk, List.getElem?_eq_none (by omega)]
  · rw [if_neg e]
theorem spec_l5Learn (S : List Sl) (gS cS n cC : Nat) (aC : Option Addr) (pc tt : Int) (w : World) (hr : Ro4 w gS S) (hl : S.length = 8) (hok : okLs S = true) (p0 : 0 ≤ pc) (p1 : pc < 65536) :
    Calls Tryd.prog 70 #[.agg #[.slice (some ⟨gS, 0, none⟩) 8 cS, .slice aC n cC], .int .i64 pc, .int .i64 tt] w fun e w' => e = .returned (.agg #[.slice (some ⟨gS, 0, none⟩) 8 cS, .slice aC n cC]) ∧ Ro4 w' gS (S.set (ix pc) (learnL (S.getD (ix pc) sl0) pc tt)) ∧ But [gS] w w' := by
  obtain ⟨k, hk8, hkm⟩ : ∃ k : Nat, k < 8 ∧ Int.tmod pc 8 = (k : Int) := ⟨(pc % 8).toNat, by omega, by rw [Int.tmod_eq_emod_of_nonneg p0]; omega⟩
  have hix : ix pc = k := by unfold ix; rw [Int.tmod_eq_emod_of_nonneg p0] at hkm; omega
  rw [hix]
  have hb := okL_bd (okLs_at hok k (by omega))
  obtain ⟨x, hx⟩ : ∃ x, S.getD k sl0 = x := ⟨_, rfl⟩
  rw [hx] at hb ⊢
  obtain ⟨u, p, t, s⟩ := x
  obtain ⟨s0, s1⟩ := hb
  simp only at s0 s1
  cases hst : (u && decide (p = pc))
  · have hn : ¬ (u = true ∧ p = pc) := by simpa using hst
    by_cases hj : tt = (pc + 1) % 65536
    · simp only [learnL, if_neg hn, hj, ne_eq, not_true_eq_false, if_false]
      rw [set_same hx]
      exact l5Learn_B S gS cS n cC k aC u p t s pc _ w hr hl hk8 hkm hx p0 p1 s0 s1 hst rfl
    · simp only [learnL, if_neg hn, ne_eq, hj, not_false_eq_true, if_true]
      exact l5Learn_A S gS cS n cC k aC u p t s pc tt w hr hl hk8 hkm hx p0 p1 s0 s1 hst (by simpa using hj)
  · have hn : u = true ∧ p = pc := by simpa using hst
    simp only [learnL, if_pos hn]
    by_cases ht : t = tt
    · rw [if_pos ht]
      by_cases hm : s + 1 < 3
      · rw [show min (s + 1) 3 = s + 1 by omega]
        exact l5Learn_C S gS cS n cC k aC u p t s pc tt w hr hl hk8 hkm hx p0 p1 s0 s1 hst ht hm
      · rw [show min (s + 1) 3 = 3 by omega]
        exact l5Learn_G S gS cS n cC k aC u p t s pc tt w hr hl hk8 hkm hx p0 p1 s0 s1 hst ht hm
    · rw [if_neg ht]
      have ht' : (t == tt) = false := by simpa using ht
      by_cases hs : 0 < s
      · rw [if_pos hs]
        exact l5Learn_D S gS cS n cC k aC u p t s pc tt w hr hl hk8 hkm hx p0 p1 s0 s1 hst ht' hs
      · rw [if_neg hs]
        have hs0 : s = 0 := by omega
        by_cases hj : tt = (pc + 1) % 65536
        · rw [if_neg (by simpa using hj)]
          have := l5Learn_F S gS cS n cC k aC u p t s pc tt w hr hl hk8 hkm hx p0 p1 s0 s1 hst ht' hs0 hj
          rw [hs0]
          exact this
        · rw [if_pos hj]
          exact l5Learn_E S gS cS n cC k aC u p t s pc tt w hr hl hk8 hkm hx p0 p1 s0 s1 hst ht' hs0 (by simpa using hj)

end Go.Proofs.YtpdlcjjmhcfkjaaDoor
