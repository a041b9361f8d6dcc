/- The model's GueLearn. -/
import Derived.Test.YtpdlcjjmhcfkjaaDoorGu6
namespace Go.Proofs.YtpdlcjjmhcfkjaaDoor
open Go.RowKit
set_option linter.unusedVariables false
set_option linter.unusedSimpArgs false
/-- A copy that was handed over, as rows that may be written. -/
theorem GuC.gup {x : Gu} {w u : World} {gS cC : Nat} {aC : Option Addr} (h1 : w.heap.size ≤ gS) (h2 : Ro4 u gS x.S) (h3 : Rc w.heap.size u x.C aC cC) (h4 : ∀ g, aC = some ⟨g, 0, none⟩ → 0 < x.C.length → gS ≠ g) : VcG w.heap.size u x (some ⟨gS, 0, none⟩) aC := by
  refine ⟨h2.vc h1, h3.vc, fun _ h0 b c hb hc => ?_⟩
  cases hb
  rcases h3 with h | ⟨g, e, _⟩
  · omega
  · rw [e] at hc
    cases hc
    exact h4 g e h0
set_option maxRecDepth 8000 in
set_option maxHeartbeats 2000000 in
theorem spec_GueLearn_n1 (x : Gu) (aS aC : Option Addr) (cS cC : Nat) (pc tt : Int) (w : World) (h : Src4 w x.S aS) (hc : Src w x.C.length (ivl x.C) aC) (hS : x.S.length ≤ 100000000) (hC : x.C.length ≤ 100000000) (h1 : okG x = false) :
    Calls Tryd.prog 30 #[.agg #[.slice aS x.S.length cS, .slice aC x.C.length cC], .int .i64 pc, .int .i64 tt] w (GuP gu0 w) := by
  have F2 : Fr w ((w.alloc (.cells #[.slice aS x.S.length cS, .slice aC x.C.length cC] 30)).alloc (.cells #[.slice none 0 0, .slice none 0 0] 30)) := by
    (repeat' first | (with_reducible exact Below.refl _ _) | (with_reducible assumption) | ((with_reducible refine Below.setCell ?_ ?hb _); (case hb => first | exact Nat.le_refl _ | (simp; done) | (simp; omega) | omega)) | ((with_reducible refine Below.alloc ?_ ?hb _); (case hb => first | exact Nat.le_refl _ | (simp; done) | (simp; omega) | omega)) | (with_reducible refine Below.drew ?_))
  have HF2 := Lib.hid F2
  have HB2 := Lib.hid ((Box2.new w (.slice aS x.S.length cS) (.slice aC x.C.length cC) 30 _ rfl).fr (Fr.alloc _ (.cells #[.slice none 0 0, .slice none 0 0] 30)))
  have HZ2 := Lib.hid (Box2.new (w.alloc (.cells #[.slice aS x.S.length cS, .slice aC x.C.length cC] 30)) (.slice none 0 0) (.slice none 0 0) 30 (w.heap.size + 1) (by simp))
  have HS2 := Lib.hid (show ((w.alloc (.cells #[.slice aS x.S.length cS, .slice aC x.C.length cC] 30)).alloc (.cells #[.slice none 0 0, .slice none 0 0] 30)).heap.size = w.heap.size + 2 by simp)
  have E1 := spec_GueOk x aS aC cS cC _ (h.fr F2) (hc.fr F2) hS hC
  have W1 := fun w => spec_WrdOk pc w
  have W2 := fun w => spec_WrdOk tt w
  rw [h1] at E1
  have HE1 := Lib.hid E1
  have HW1 := Lib.hid W1
  have HW2 := Lib.hid W2
  clear F2 h hc hS hC E1 W1 W2 h1
  go_enter Tryd.func30, Tryd.ntmps30
  go_upto_region 1 with fail
  generalize ((w.alloc (.cells #[.slice aS x.S.length cS, .slice aC x.C.length cC] 30)).alloc (.cells #[.slice none 0 0, .slice none 0 0] 30)) = u2 at *
  obtain ⟨_, c0, c1, _, _⟩ := HB2.out
  go_wp2_with fail
  refine HE1.out.mono ?_
  rintro e u3 ⟨rfl, f3⟩
  have HF3 := Lib.hid (HF2.out.trans f3)
  have HB3 := Lib.hid (HB2.out.fr f3)
  have HZ3 := Lib.hid (HZ2.out.fr f3)
  have HS3 := Lib.hid (show w.heap.size + 2 ≤ u3.heap.size by have := HS2.out; have := f3.size; omega)
  obtain ⟨_, z0, z1, zf0, zf1⟩ := HZ3.out
  clear HF2 HB2 HZ2 HS2 f3 c0 c1 HE1
  obtain ⟨_, c0, c1, _, _⟩ := HB3.out
  clear c0 c1
  go_wp2_with (first | (go_at_call 19; refine (HW1.out _).mono ?_; rintro e w' ⟨rfl, rfl⟩) | (go_at_call 19; refine (HW2.out _).mono ?_; rintro e w' ⟨rfl, rfl⟩))
  refine bodyPost_ret (v := .agg #[.slice none 0 0, .slice none 0 0]) (by simp [results, Tryd.results30, go_sem, World.cell?_setCell_other, World.cell?_setCell_same, z0, z1]) rfl ⟨none, none, 0, 0, rfl, VcG.nil _ _ _ _, ?_⟩
  exact fr_but HF3.out ((But.refl _ _).set2 (w.heap.size + 1) _ _ (.inl (by simp)) : But [w.heap.size + 1] _ _) (fun k hk => by have := List.mem_singleton.1 hk; omega)
set_option maxRecDepth 8000 in
set_option maxHeartbeats 2000000 in
theorem spec_GueLearn_n2 (x : Gu) (aS aC : Option Addr) (cS cC : Nat) (pc tt : Int) (w : World) (h : Src4 w x.S aS) (hc : Src w x.C.length (ivl x.C) aC) (hS : x.S.length ≤ 100000000) (hC : x.C.length ≤ 100000000) (h1 : okG x = true) (h2 : okB pc = false) :
    Calls Tryd.prog 30 #[.agg #[.slice aS x.S.length cS, .slice aC x.C.length cC], .int .i64 pc, .int .i64 tt] w (GuP gu0 w) := by
  have F2 : Fr w ((w.alloc (.cells #[.slice aS x.S.length cS, .slice aC x.C.length cC] 30)).alloc (.cells #[.slice none 0 0, .slice none 0 0] 30)) := by
    (repeat' first | (with_reducible exact Below.refl _ _) | (with_reducible assumption) | ((with_reducible refine Below.setCell ?_ ?hb _); (case hb => first | exact Nat.le_refl _ | (simp; done) | (simp; omega) | omega)) | ((with_reducible refine Below.alloc ?_ ?hb _); (case hb => first | exact Nat.le_refl _ | (simp; done) | (simp; omega) | omega)) | (with_reducible refine Below.drew ?_))
  have HF2 := Lib.hid F2
  have HB2 := Lib.hid ((Box2.new w (.slice aS x.S.length cS) (.slice aC x.C.length cC) 30 _ rfl).fr (Fr.alloc _ (.cells #[.slice none 0 0, .slice none 0 0] 30)))
  have HZ2 := Lib.hid (Box2.new (w.alloc (.cells #[.slice aS x.S.length cS, .slice aC x.C.length cC] 30)) (.slice none 0 0) (.slice none 0 0) 30 (w.heap.size + 1) (by simp))
  have HS2 := Lib.hid (show ((w.alloc (.cells #[.slice aS x.S.length cS, .slice aC x.C.length cC] 30)).alloc (.cells #[.slice none 0 0, .slice none 0 0] 30)).heap.size = w.heap.size + 2 by simp)
  have E1 := spec_GueOk x aS aC cS cC _ (h.fr F2) (hc.fr F2) hS hC
  have W1 := fun w => spec_WrdOk pc w
  have W2 := fun w => spec_WrdOk tt w
  rw [h1] at E1
  rw [h2] at W1
  have HE1 := Lib.hid E1
  have HW1 := Lib.hid W1
  have HW2 := Lib.hid W2
  clear F2 h hc hS hC E1 W1 W2 h1 h2
  go_enter Tryd.func30, Tryd.ntmps30
  go_upto_region 1 with fail
  generalize ((w.alloc (.cells #[.slice aS x.S.length cS, .slice aC x.C.length cC] 30)).alloc (.cells #[.slice none 0 0, .slice none 0 0] 30)) = u2 at *
  obtain ⟨_, c0, c1, _, _⟩ := HB2.out
  go_wp2_with fail
  refine HE1.out.mono ?_
  rintro e u3 ⟨rfl, f3⟩
  have HF3 := Lib.hid (HF2.out.trans f3)
  have HB3 := Lib.hid (HB2.out.fr f3)
  have HZ3 := Lib.hid (HZ2.out.fr f3)
  have HS3 := Lib.hid (show w.heap.size + 2 ≤ u3.heap.size by have := HS2.out; have := f3.size; omega)
  obtain ⟨_, z0, z1, zf0, zf1⟩ := HZ3.out
  clear HF2 HB2 HZ2 HS2 f3 c0 c1 HE1
  obtain ⟨_, c0, c1, _, _⟩ := HB3.out
  clear c0 c1
  go_wp2_with (first | (go_at_call 19; refine (HW1.out _).mono ?_; rintro e w' ⟨rfl, rfl⟩) | (go_at_call 19; refine (HW2.out _).mono ?_; rintro e w' ⟨rfl, rfl⟩))
  refine bodyPost_ret (v := .agg #[.slice none 0 0, .slice none 0 0]) (by simp [results, Tryd.results30, go_sem, World.cell?_setCell_other, World.cell?_setCell_same, z0, z1]) rfl ⟨none, none, 0, 0, rfl, VcG.nil _ _ _ _, ?_⟩
  exact fr_but HF3.out ((But.refl _ _).set2 (w.heap.size + 1) _ _ (.inl (by simp)) : But [w.heap.size + 1] _ _) (fun k hk => by have := List.mem_singleton.1 hk; omega)
set_option maxRecDepth 8000 in
set_option maxHeartbeats 2000000 in
theorem spec_GueLearn_n3 (x : Gu) (aS aC : Option Addr) (cS cC : Nat) (pc tt : Int) (w : World) (h : Src4 w x.S aS) (hc : Src w x.C.length (ivl x.C) aC) (hS : x.S.length ≤ 100000000) (hC : x.C.length ≤ 100000000) (h1 : okG x = true) (h2 : okB pc = true) (h3 : okB tt = false) :
    Calls Tryd.prog 30 #[.agg #[.slice aS x.S.length cS, .slice aC x.C.length cC], .int .i64 pc, .int .i64 tt] w (GuP gu0 w) := by
  have F2 : Fr w ((w.alloc (.cells #[.slice aS x.S.length cS, .slice aC x.C.length cC] 30)).alloc (.cells #[.slice none 0 0, .slice none 0 0] 30)) := by
    (repeat' first | (with_reducible exact Below.refl _ _) | (with_reducible assumption) | ((with_reducible refine Below.setCell ?_ ?hb _); (case hb => first | exact Nat.le_refl _ | (simp; done) | (simp; omega) | omega)) | ((with_reducible refine Below.alloc ?_ ?hb _); (case hb => first | exact Nat.le_refl _ | (simp; done) | (simp; omega) | omega)) | (with_reducible refine Below.drew ?_))
  have HF2 := Lib.hid F2
  have HB2 := Lib.hid ((Box2.new w (.slice aS x.S.length cS) (.slice aC x.C.length cC) 30 _ rfl).fr (Fr.alloc _ (.cells #[.slice none 0 0, .slice none 0 0] 30)))
  have HZ2 := Lib.hid (Box2.new (w.alloc (.cells #[.slice aS x.S.length cS, .slice aC x.C.length cC] 30)) (.slice none 0 0) (.slice none 0 0) 30 (w.heap.size + 1) (by simp))
  have HS2 := Lib.hid (show ((w.alloc (.cells #[.slice aS x.S.length cS, .slice aC x.C.length cC] 30)).alloc (.cells #[.slice none 0 0, .slice none 0 0] 30)).heap.size = w.heap.size + 2 by simp)
  have E1 := spec_GueOk x aS aC cS cC _ (h.fr F2) (hc.fr F2) hS hC
  have W1 := fun w => spec_WrdOk pc w
  have W2 := fun w => spec_WrdOk tt w
  rw [h1] at E1
  rw [h2] at W1
  rw [h3] at W2
  have HE1 := Lib.hid E1
  have HW1 := Lib.hid W1
  have HW2 := Lib.hid W2
  clear F2 h hc hS hC E1 W1 W2 h1 h2 h3
  go_enter Tryd.func30, Tryd.ntmps30
  go_upto_region 1 with fail
  generalize ((w.alloc (.cells #[.slice aS x.S.length cS, .slice aC x.C.length cC] 30)).alloc (.cells #[.slice none 0 0, .slice none 0 0] 30)) = u2 at *
  obtain ⟨_, c0, c1, _, _⟩ := HB2.out
  go_wp2_with fail
  refine HE1.out.mono ?_
  rintro e u3 ⟨rfl, f3⟩
  have HF3 := Lib.hid (HF2.out.trans f3)
  have HB3 := Lib.hid (HB2.out.fr f3)
  have HZ3 := Lib.hid (HZ2.out.fr f3)
  have HS3 := Lib.hid (show w.heap.size + 2 ≤ u3.heap.size by have := HS2.out; have := f3.size; omega)
  obtain ⟨_, z0, z1, zf0, zf1⟩ := HZ3.out
  clear HF2 HB2 HZ2 HS2 f3 c0 c1 HE1
  obtain ⟨_, c0, c1, _, _⟩ := HB3.out
  clear c0 c1
  go_wp2_with (first | (go_at_call 19; refine (HW1.out _).mono ?_; rintro e w' ⟨rfl, rfl⟩) | (go_at_call 19; refine (HW2.out _).mono ?_; rintro e w' ⟨rfl, rfl⟩))
  refine bodyPost_ret (v := .agg #[.slice none 0 0, .slice none 0 0]) (by simp [results, Tryd.results30, go_sem, World.cell?_setCell_other, World.cell?_setCell_same, z0, z1]) rfl ⟨none, none, 0, 0, rfl, VcG.nil _ _ _ _, ?_⟩
  exact fr_but HF3.out ((But.refl _ _).set2 (w.heap.size + 1) _ _ (.inl (by simp)) : But [w.heap.size + 1] _ _) (fun k hk => by have := List.mem_singleton.1 hk; omega)
set_option maxRecDepth 8000 in
set_option maxHeartbeats 2000000 in
theorem spec_GueLearn_ok (x : Gu) (aS aC : Option Addr) (cS cC : Nat) (pc tt : Int) (w : World) (h : Src4 w x.S aS) (hc : Src w x.C.length (ivl x.C) aC) (hS : x.S.length ≤ 100000000) (hC : x.C.length ≤ 100000000) (h1 : okG x = true) (h2 : okB pc = true) (h3 : okB tt = true) :
    Calls Tryd.prog 30 #[.agg #[.slice aS x.S.length cS, .slice aC x.C.length cC], .int .i64 pc, .int .i64 tt] w (GuP (learnG x pc tt) w) := by
  have F2 : Fr w ((w.alloc (.cells #[.slice aS x.S.length cS, .slice aC x.C.length cC] 30)).alloc (.cells #[.slice none 0 0, .slice none 0 0] 30)) := by
    (repeat' first | (with_reducible exact Below.refl _ _) | (with_reducible assumption) | ((with_reducible refine Below.setCell ?_ ?hb _); (case hb => first | exact Nat.le_refl _ | (simp; done) | (simp; omega) | omega)) | ((with_reducible refine Below.alloc ?_ ?hb _); (case hb => first | exact Nat.le_refl _ | (simp; done) | (simp; omega) | omega)) | (with_reducible refine Below.drew ?_))
  have HF2 := Lib.hid F2
  have HB2 := Lib.hid ((Box2.new w (.slice aS x.S.length cS) (.slice aC x.C.length cC) 30 _ rfl).fr (Fr.alloc _ (.cells #[.slice none 0 0, .slice none 0 0] 30)))
  have HZ2 := Lib.hid (Box2.new (w.alloc (.cells #[.slice aS x.S.length cS, .slice aC x.C.length cC] 30)) (.slice none 0 0) (.slice none 0 0) 30 (w.heap.size + 1) (by simp))
  have HS2 := Lib.hid (show ((w.alloc (.cells #[.slice aS x.S.length cS, .slice aC x.C.length cC] 30)).alloc (.cells #[.slice none 0 0, .slice none 0 0] 30)).heap.size = w.heap.size + 2 by simp)
  have E1 := spec_GueOk x aS aC cS cC _ (h.fr F2) (hc.fr F2) hS hC
  have W1 := fun w => spec_WrdOk pc w
  have W2 := fun w => spec_WrdOk tt w
  rw [h1] at E1
  rw [h2] at W1
  rw [h3] at W2
  have HE1 := Lib.hid E1
  have HW1 := Lib.hid W1
  have HW2 := Lib.hid W2
  have HO := Lib.hid ((okG_iff x).1 h1)
  have HP := Lib.hid h2
  have HT := Lib.hid h3
  have HBD := Lib.hid (okB_true h2)
  have HBT := Lib.hid (okB_true h3)
  have HS := Lib.hid h
  have HC := Lib.hid hc
  clear F2 h hc hS hC E1 W1 W2 h1 h2 h3
  go_enter Tryd.func30, Tryd.ntmps30
  go_upto_region 1 with fail
  generalize ((w.alloc (.cells #[.slice aS x.S.length cS, .slice aC x.C.length cC] 30)).alloc (.cells #[.slice none 0 0, .slice none 0 0] 30)) = u2 at *
  obtain ⟨_, c0, c1, _, _⟩ := HB2.out
  go_wp2_with fail
  refine HE1.out.mono ?_
  rintro e u3 ⟨rfl, f3⟩
  have HF3 := Lib.hid (HF2.out.trans f3)
  have HB3 := Lib.hid (HB2.out.fr f3)
  have HZ3 := Lib.hid (HZ2.out.fr f3)
  have HS3 := Lib.hid (show w.heap.size + 2 ≤ u3.heap.size by have := HS2.out; have := f3.size; omega)
  obtain ⟨_, z0, z1, zf0, zf1⟩ := HZ3.out
  clear HF2 HB2 HZ2 HS2 f3 c0 c1 HE1
  obtain ⟨_, c0, c1, _, _⟩ := HB3.out
  go_wp2_with fail
  refine (HW1.out _).mono ?_
  rintro e u3' ⟨rfl, rfl⟩
  go_wp2_with fail
  refine (HW2.out _).mono ?_
  rintro e u3' ⟨rfl, rfl⟩
  go_wp2_with fail
  refine (spec_l5Copy x aS aC cS cC u3 (HS.out.fr HF3.out) (HC.out.fr HF3.out) HO.out.Sl (by have := HO.out.Cl; omega)).mono ?_
  rintro e u4 ⟨gS, aC4, cS4, cC4, rfl, hg4, hR4, hC4, hap4, f4⟩
  have HF4 := Lib.hid (HF3.out.trans f4)
  have HZ4 := Lib.hid (HZ3.out.fr f4)
  have hs4 : w.heap.size + 2 ≤ u4.heap.size := by have := HS3.out; have := f4.size; omega
  have hs3 := HS3.out
  rw [HO.out.Sl]
  clear HF3 HB3 HZ3 HS3 f4 c0 c1 z0 z1 zf0 zf1
  have hgs4 := hR4.lt
  go_wp2_with fail
  refine (spec_l5Learn x.S gS cS4 x.C.length cC4 aC4 pc tt u4 hR4 HO.out.Sl HO.out.S HBD.out.1 HBD.out.2).mono ?_
  rintro e u5 ⟨rfl, hR5, hb5⟩
  have HF5 := Lib.hid (show Fr w u5 from fr_but HF4.out hb5 (fun k hk => by have := List.mem_singleton.1 hk; omega))
  have HZ5 := Lib.hid (HZ4.out.but hb5 (by simp <;> omega))
  have hL8 : (learnG x pc tt).S.length = 8 := by simp [learnG, HO.out.Sl]
  have hC5 : Src u5 x.C.length (ivl x.C) aC4 := by
    rcases hC4 with hh | ⟨g, e, hB, r, _, h0⟩
    · intro h0; omega
    · subst e
      exact (r.but hb5 (by have := hap4 g rfl h0; simp <;> omega)).src
  have HRS := Lib.hid hR5
  have HC5 := Lib.hid hC5
  have hs5 : w.heap.size + 2 ≤ u5.heap.size := Nat.le_trans hs4 hb5.size
  clear HF4 HZ4 hR4 hC4 hap4 hb5 hR5 hC5
  have E6 := spec_l5Copy (learnG x pc tt) (some ⟨gS, 0, none⟩) aC4 cS4 cC4 u5 (HRS.out.vc (Nat.zero_le _)).src HC5.out hL8 (by show x.C.length ≤ 100; have := HO.out.Cl; omega)
  rw [hL8] at E6
  have HE6 := Lib.hid E6
  have HL8 := Lib.hid hL8
  clear E6 hL8
  go_wp2_with fail
  refine HE6.out.mono ?_
  rintro e u6 ⟨g6, aC6, cS6, cC6, rfl, hg6, hR6, hC6, hap6, f6⟩
  have HF6 := Lib.hid (HF5.out.trans f6)
  have HZ6 := Lib.hid (HZ5.out.fr f6)
  clear HF5 HZ5 HRS HC5 f6 HE6
  obtain ⟨_, z0, z1, zf0, zf1⟩ := HZ6.out
  go_wp2_with fail
  refine bodyPost_ret (v := .agg #[.slice (some ⟨g6, 0, none⟩) (learnG x pc tt).S.length cS6, .slice aC6 (learnG x pc tt).C.length cC6]) (by simp [results, Tryd.results30, go_sem, World.cell?_setCell_other, World.cell?_setCell_same, z0, z1]) rfl ?_
  have hst : ∀ a b, But [w.heap.size + 1] u6 ((u6.setCell ⟨w.heap.size + 1, 0, none⟩ a).setCell ⟨w.heap.size + 1, 1, none⟩ b) := fun a b => (But.refl _ _).set2 (w.heap.size + 1) a b (.inl (by simp))
  refine ⟨_, aC6, cS6, cC6, rfl, GuC.gup (by omega) (hR6.but (hst _ _) (by simp <;> omega)) ((hC6.but (hst _ _) (fun k hk => by have := List.mem_singleton.1 hk; omega)).mono (by omega)) hap6, ?_⟩
  exact fr_but HF6.out (hst _ _) (fun k hk => by have := List.mem_singleton.1 hk; omega)
theorem spec_GueLearn (x : Gu) (aS aC : Option Addr) (cS cC : Nat) (pc tt : Int) (w : World) (h : Src4 w x.S aS) (hc : Src w x.C.length (ivl x.C) aC) (hS : x.S.length ≤ 100000000) (hC : x.C.length ≤ 100000000) :
    Calls Tryd.prog 30 #[.agg #[.slice aS x.S.length cS, .slice aC x.C.length cC], .int .i64 pc, .int .i64 tt] w (GuP (learnA x pc tt) w) := by
  unfold learnA
  cases h1 : okG x
  · exact spec_GueLearn_n1 x aS aC cS cC pc tt w h hc hS hC h1
  · cases h2 : okB pc
    · exact spec_GueLearn_n2 x aS aC cS cC pc tt w h hc hS hC h1 h2
    · cases h3 : okB tt
      · exact spec_GueLearn_n3 x aS aC cS cC pc tt w h hc hS hC h1 h2 h3
      · exact spec_GueLearn_ok x aS aC cS cC pc tt w h hc hS hC h1 h2 h3

end Go.Proofs.YtpdlcjjmhcfkjaaDoor
