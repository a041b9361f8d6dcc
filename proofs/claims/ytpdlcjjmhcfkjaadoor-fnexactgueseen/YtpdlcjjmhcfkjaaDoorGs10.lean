/- GueSeen of the model. -/
import Derived.Test.YtpdlcjjmhcfkjaaDoorGs8
import Derived.Test.YtpdlcjjmhcfkjaaDoorGs8b
import Derived.Test.YtpdlcjjmhcfkjaaDoorGs9
namespace Go.Proofs.YtpdlcjjmhcfkjaaDoor
open Go.RowKit
set_option linter.unusedVariables false
set_option linter.unusedSimpArgs false
/-- The calls behind an instruction. -/
def seenC (C : List Int) (pc k d : Int) : List Int := if k = 7 ∧ 0 < d then (C ++ [(pc + 1) % 65536]).drop (C.length + 1 - 4) else if k = 8 ∧ d = 0 ∧ 0 < C.length then C.take (C.length - 1) else C
def seenG (x : Gu) (pc m : Int) : Gu := ⟨x.S, seenC x.C pc (rI m (m / 4096)) (rI m (rdv m 0))⟩
def seenA (x : Gu) (pc m : Int) : Gu := if okG x && (okB pc && okB m) then seenG x pc m else gu0
theorem seenC_len (C : List Int) (pc k d : Int) (h : C.length ≤ 4) : (seenC C pc k d).length ≤ 4 := by
  unfold seenC
  split
  · simp; omega
  · split
    · simp; omega
    · exact h
theorem spec_l5Seen (B gS cS : Nat) (S : List Sl) (C : List Int) (aC : Option Addr) (cC : Nat) (pc m : Int) (w : World) (hr : Ro4 w gS S) (hc : Rc B w C aC cC) (hB : B ≤ gS) (hBw : B ≤ w.heap.size) (hap : ∀ x, aC = some ⟨x, 0, none⟩ → 0 < C.length → gS ≠ x) (hl : C.length ≤ 4) (p0 : 0 ≤ pc) (p1 : pc < 65536) :
    Calls Tryd.prog 47 #[.agg #[.slice (some ⟨gS, 0, none⟩) 8 cS, .slice aC C.length cC], .int .i64 pc, .int .i64 m] w (SnP B gS cS S (seenC C pc (rI m (m / 4096)) (rI m (rdv m 0))) w) := by
  have hrd := fun w => spec_CodRead m w
  simp only [rV] at hrd
  have hK0 : gd m = false → rI m (m / 4096) = 0 := fun h => rI_f h
  generalize rI m (m / 4096) = k at *
  generalize rI m (rdv m 0) = d at *
  generalize rI m (rdv m 1) = a at *
  generalize rI m (rdv m 2) = b at *
  generalize rI m (rdv m 3) = f at *
  generalize rI m (rdv m 4) = n at *
  generalize gd m = g at *
  cases g
  · have hk := hK0 rfl
    rw [show seenC C pc k d = C by unfold seenC; rw [if_neg (by omega), if_neg (by omega)]]
    exact l5Seen_no B gS cS S C aC cC pc m k d a b f n false w hr hc hB hBw hap hl p0 p1 hrd rfl
  · by_cases hk7 : k = 7
    · by_cases hd : 0 < d
      · rw [show seenC C pc k d = (C ++ [(pc + 1) % 65536]).drop (C.length + 1 - 4) by unfold seenC; rw [if_pos ⟨hk7, hd⟩]]
        by_cases h0 : 0 < C.length
        · by_cases h3 : C.length ≤ 3
          · rw [show C.length + 1 - 4 = 0 by omega, List.drop_zero]
            exact l5Seen_7a B gS cS S C _ aC cC pc m k d a b f n _ true w hr hc hB hBw hap hl p0 p1 hrd rfl hk7 hd rfl rfl h0 h3
          · rw [show C.length + 1 - 4 = 1 by omega]
            exact l5Seen_7d B gS cS S C _ aC cC pc m k d a b f n _ true w hr hc hB hBw hap hl p0 p1 hrd rfl hk7 hd rfl rfl h0 (by omega) _ rfl
        · rw [show C.length + 1 - 4 = 0 by omega, List.drop_zero]
          cases aC with
          | none => exact l5Seen_7b B gS cS S C _ cC pc m k d a b f n _ true w hr hc hB hBw hl p0 p1 hrd rfl hk7 hd rfl rfl (by omega)
          | some gA => exact l5Seen_7c B gS cS S C _ gA cC pc m k d a b f n _ true w hr hc hB hBw hl p0 p1 hrd rfl hk7 hd rfl rfl (by omega)
      · rw [show seenC C pc k d = C by unfold seenC; rw [if_neg (by omega), if_neg (by omega)]]
        exact l5Seen_7n B gS cS S C aC cC pc m k d a b f n true w hr hc hB hBw hap hl p0 p1 hrd rfl hk7 hd
    · by_cases hk8 : k = 8
      · by_cases hd : d = 0
        · by_cases h0 : 0 < C.length
          · rw [show seenC C pc k d = C.take (C.length - 1) by unfold seenC; rw [if_neg (by omega), if_pos ⟨hk8, hd, h0⟩]]
            by_cases h1 : 1 < C.length
            · exact l5Seen_8b B gS cS S C aC cC pc m k d a b f n true w hr hc hB hBw hap hl p0 p1 hrd rfl hk8 hd h1 _ rfl
            · exact l5Seen_8c B gS cS S C aC cC pc m k d a b f n true w hr hc hB hBw hap hl p0 p1 hrd rfl hk8 hd (by omega) _ rfl
          · rw [show seenC C pc k d = C by unfold seenC; rw [if_neg (by omega), if_neg (by omega)]]
            exact l5Seen_8z B gS cS S C aC cC pc m k d a b f n true w hr hc hB hBw hap hl p0 p1 hrd rfl hk8 hd (by omega)
        · rw [show seenC C pc k d = C by unfold seenC; rw [if_neg (by omega), if_neg (by omega)]]
          exact l5Seen_8d B gS cS S C aC cC pc m k d a b f n true w hr hc hB hBw hap hl p0 p1 hrd rfl hk8 (by simpa using hd)
      · rw [show seenC C pc k d = C by unfold seenC; rw [if_neg (by omega), if_neg (by omega)]]
        exact l5Seen_oth B gS cS S C aC cC pc m k d a b f n true w hr hc hB hBw hap hl p0 p1 hrd rfl (by simpa using hk8) (by simpa using hk7)
theorem box_low {B : Nat} {u u' : World} {g : Nat} {a b : Value} (h : Box2 u g a b) (f : Below B u u') (hn : g < B) : Box2 u' g a b :=
  ⟨Nat.lt_of_lt_of_le h.lt f.size, by rw [f.cell (show g < B from hn)]; exact h.c0, by rw [f.cell (show g < B from hn)]; exact h.c1, by rw [f.frozen (show g < B from hn)]; exact h.f0, by rw [f.frozen (show g < B from hn)]; exact h.f1⟩
set_option maxRecDepth 8000 in
set_option maxHeartbeats 2000000 in
theorem spec_GueSeen_n1 (x : Gu) (aS aC : Option Addr) (cS cC : Nat) (pc m : Int) (w : World) (h : Src4 w x.S aS) (hc : Src w x.C.length (ivl x.C) aC) (hS : x.S.length ≤ 100000000) (hC : x.C.length ≤ 100000000) (h1 : okG x = false) :
    Calls Tryd.prog 13 #[.agg #[.slice aS x.S.length cS, .slice aC x.C.length cC], .int .i64 pc, .int .i64 m] w (GuP gu0 w) := by
  have F2 : Fr w ((w.alloc (.cells #[.slice aS x.S.length cS, .slice aC x.C.length cC] 30)).alloc (.cells #[.slice none 0 0, .slice none 0 0] 30)) := by
    (repeat' first | (with_reducible exact Below.refl _ _) | (with_reducible assumption) | ((with_reducible refine Below.setCell ?_ ?hb _); (case hb => first | exact Nat.le_refl _ | (simp; done) | (simp; omega) | omega)) | ((with_reducible refine Below.alloc ?_ ?hb _); (case hb => first | exact Nat.le_refl _ | (simp; done) | (simp; omega) | omega)) | (with_reducible refine Below.drew ?_))
  have HF2 := Lib.hid F2
  have HB2 := Lib.hid ((Box2.new w (.slice aS x.S.length cS) (.slice aC x.C.length cC) 30 _ rfl).fr (Fr.alloc _ (.cells #[.slice none 0 0, .slice none 0 0] 30)))
  have HZ2 := Lib.hid (Box2.new (w.alloc (.cells #[.slice aS x.S.length cS, .slice aC x.C.length cC] 30)) (.slice none 0 0) (.slice none 0 0) 30 (w.heap.size + 1) (by simp))
  have HS2 := Lib.hid (show ((w.alloc (.cells #[.slice aS x.S.length cS, .slice aC x.C.length cC] 30)).alloc (.cells #[.slice none 0 0, .slice none 0 0] 30)).heap.size = w.heap.size + 2 by simp)
  have E1 := spec_GueOk x aS aC cS cC _ (h.fr F2) (hc.fr F2) hS hC
  have W1 := fun w => spec_WrdOk pc w
  have W2 := fun w => spec_WrdOk m w
  rw [h1] at E1
  have HE1 := Lib.hid E1
  have HW1 := Lib.hid W1
  have HW2 := Lib.hid W2
  clear F2 h hc hS hC E1 W1 W2 h1
  go_enter Tryd.func13, Tryd.ntmps13
  go_upto_region 1 with fail
  generalize ((w.alloc (.cells #[.slice aS x.S.length cS, .slice aC x.C.length cC] 30)).alloc (.cells #[.slice none 0 0, .slice none 0 0] 30)) = u2 at *
  obtain ⟨_, c0, c1, _, _⟩ := HB2.out
  go_wp2_with fail
  refine HE1.out.mono ?_
  rintro e u3 ⟨rfl, f3⟩
  have HF3 := Lib.hid (HF2.out.trans f3)
  have HB3 := Lib.hid (HB2.out.fr f3)
  have HZ3 := Lib.hid (HZ2.out.fr f3)
  have HS3 := Lib.hid (show w.heap.size + 2 ≤ u3.heap.size by have := HS2.out; have := f3.size; omega)
  obtain ⟨_, z0, z1, zf0, zf1⟩ := HZ3.out
  clear HF2 HB2 HZ2 HS2 f3 c0 c1 HE1
  obtain ⟨_, c0, c1, _, _⟩ := HB3.out
  clear c0 c1
  go_wp2_with (first | (go_at_call 19; refine (HW1.out _).mono ?_; rintro e w' ⟨rfl, rfl⟩) | (go_at_call 19; refine (HW2.out _).mono ?_; rintro e w' ⟨rfl, rfl⟩))
  refine bodyPost_ret (v := .agg #[.slice none 0 0, .slice none 0 0]) (by simp [results, Tryd.results13, go_sem, World.cell?_setCell_other, World.cell?_setCell_same, z0, z1]) rfl ⟨none, none, 0, 0, rfl, VcG.nil _ _ _ _, ?_⟩
  exact fr_but HF3.out ((But.refl _ _).set2 (w.heap.size + 1) _ _ (.inl (by simp)) : But [w.heap.size + 1] _ _) (fun k hk => by have := List.mem_singleton.1 hk; omega)
set_option maxRecDepth 8000 in
set_option maxHeartbeats 2000000 in
theorem spec_GueSeen_n2 (x : Gu) (aS aC : Option Addr) (cS cC : Nat) (pc m : Int) (w : World) (h : Src4 w x.S aS) (hc : Src w x.C.length (ivl x.C) aC) (hS : x.S.length ≤ 100000000) (hC : x.C.length ≤ 100000000) (h1 : okG x = true) (h2 : okB pc = false) :
    Calls Tryd.prog 13 #[.agg #[.slice aS x.S.length cS, .slice aC x.C.length cC], .int .i64 pc, .int .i64 m] w (GuP gu0 w) := by
  have F2 : Fr w ((w.alloc (.cells #[.slice aS x.S.length cS, .slice aC x.C.length cC] 30)).alloc (.cells #[.slice none 0 0, .slice none 0 0] 30)) := by
    (repeat' first | (with_reducible exact Below.refl _ _) | (with_reducible assumption) | ((with_reducible refine Below.setCell ?_ ?hb _); (case hb => first | exact Nat.le_refl _ | (simp; done) | (simp; omega) | omega)) | ((with_reducible refine Below.alloc ?_ ?hb _); (case hb => first | exact Nat.le_refl _ | (simp; done) | (simp; omega) | omega)) | (with_reducible refine Below.drew ?_))
  have HF2 := Lib.hid F2
  have HB2 := Lib.hid ((Box2.new w (.slice aS x.S.length cS) (.slice aC x.C.length cC) 30 _ rfl).fr (Fr.alloc _ (.cells #[.slice none 0 0, .slice none 0 0] 30)))
  have HZ2 := Lib.hid (Box2.new (w.alloc (.cells #[.slice aS x.S.length cS, .slice aC x.C.length cC] 30)) (.slice none 0 0) (.slice none 0 0) 30 (w.heap.size + 1) (by simp))
  have HS2 := Lib.hid (show ((w.alloc (.cells #[.slice aS x.S.length cS, .slice aC x.C.length cC] 30)).alloc (.cells #[.slice none 0 0, .slice none 0 0] 30)).heap.size = w.heap.size + 2 by simp)
  have E1 := spec_GueOk x aS aC cS cC _ (h.fr F2) (hc.fr F2) hS hC
  have W1 := fun w => spec_WrdOk pc w
  have W2 := fun w => spec_WrdOk m w
  rw [h1] at E1
  rw [h2] at W1
  have HE1 := Lib.hid E1
  have HW1 := Lib.hid W1
  have HW2 := Lib.hid W2
  clear F2 h hc hS hC E1 W1 W2 h1 h2
  go_enter Tryd.func13, Tryd.ntmps13
  go_upto_region 1 with fail
  generalize ((w.alloc (.cells #[.slice aS x.S.length cS, .slice aC x.C.length cC] 30)).alloc (.cells #[.slice none 0 0, .slice none 0 0] 30)) = u2 at *
  obtain ⟨_, c0, c1, _, _⟩ := HB2.out
  go_wp2_with fail
  refine HE1.out.mono ?_
  rintro e u3 ⟨rfl, f3⟩
  have HF3 := Lib.hid (HF2.out.trans f3)
  have HB3 := Lib.hid (HB2.out.fr f3)
  have HZ3 := Lib.hid (HZ2.out.fr f3)
  have HS3 := Lib.hid (show w.heap.size + 2 ≤ u3.heap.size by have := HS2.out; have := f3.size; omega)
  obtain ⟨_, z0, z1, zf0, zf1⟩ := HZ3.out
  clear HF2 HB2 HZ2 HS2 f3 c0 c1 HE1
  obtain ⟨_, c0, c1, _, _⟩ := HB3.out
  clear c0 c1
  go_wp2_with (first | (go_at_call 19; refine (HW1.out _).mono ?_; rintro e w' ⟨rfl, rfl⟩) | (go_at_call 19; refine (HW2.out _).mono ?_; rintro e w' ⟨rfl, rfl⟩))
  refine bodyPost_ret (v := .agg #[.slice none 0 0, .slice none 0 0]) (by simp [results, Tryd.results13, go_sem, World.cell?_setCell_other, World.cell?_setCell_same, z0, z1]) rfl ⟨none, none, 0, 0, rfl, VcG.nil _ _ _ _, ?_⟩
  exact fr_but HF3.out ((But.refl _ _).set2 (w.heap.size + 1) _ _ (.inl (by simp)) : But [w.heap.size + 1] _ _) (fun k hk => by have := List.mem_singleton.1 hk; omega)
set_option maxRecDepth 8000 in
set_option maxHeartbeats 2000000 in
theorem spec_GueSeen_n3 (x : Gu) (aS aC : Option Addr) (cS cC : Nat) (pc m : Int) (w : World) (h : Src4 w x.S aS) (hc : Src w x.C.length (ivl x.C) aC) (hS : x.S.length ≤ 100000000) (hC : x.C.length ≤ 100000000) (h1 : okG x = true) (h2 : okB pc = true) (h3 : okB m = false) :
    Calls Tryd.prog 13 #[.agg #[.slice aS x.S.length cS, .slice aC x.C.length cC], .int .i64 pc, .int .i64 m] w (GuP gu0 w) := by
  have F2 : Fr w ((w.alloc (.cells #[.slice aS x.S.length cS, .slice aC x.C.length cC] 30)).alloc (.cells #[.slice none 0 0, .slice none 0 0] 30)) := by
    (repeat' first | (with_reducible exact Below.refl _ _) | (with_reducible assumption) | ((with_reducible refine Below.setCell ?_ ?hb _); (case hb => first | exact Nat.le_refl _ | (simp; done) | (simp; omega) | omega)) | ((with_reducible refine Below.alloc ?_ ?hb _); (case hb => first | exact Nat.le_refl _ | (simp; done) | (simp; omega) | omega)) | (with_reducible refine Below.drew ?_))
  have HF2 := Lib.hid F2
  have HB2 := Lib.hid ((Box2.new w (.slice aS x.S.length cS) (.slice aC x.C.length cC) 30 _ rfl).fr (Fr.alloc _ (.cells #[.slice none 0 0, .slice none 0 0] 30)))
  have HZ2 := Lib.hid (Box2.new (w.alloc (.cells #[.slice aS x.S.length cS, .slice aC x.C.length cC] 30)) (.slice none 0 0) (.slice none 0 0) 30 (w.heap.size + 1) (by simp))
  have HS2 := Lib.hid (show ((w.alloc (.cells #[.slice aS x.S.length cS, .slice aC x.C.length cC] 30)).alloc (.cells #[.slice none 0 0, .slice none 0 0] 30)).heap.size = w.heap.size + 2 by simp)
  have E1 := spec_GueOk x aS aC cS cC _ (h.fr F2) (hc.fr F2) hS hC
  have W1 := fun w => spec_WrdOk pc w
  have W2 := fun w => spec_WrdOk m w
  rw [h1] at E1
  rw [h2] at W1
  rw [h3] at W2
  have HE1 := Lib.hid E1
  have HW1 := Lib.hid W1
  have HW2 := Lib.hid W2
  clear F2 h hc hS hC E1 W1 W2 h1 h2 h3
  go_enter Tryd.func13, Tryd.ntmps13
  go_upto_region 1 with fail
  generalize ((w.alloc (.cells #[.slice aS x.S.length cS, .slice aC x.C.length cC] 30)).alloc (.cells #[.slice none 0 0, .slice none 0 0] 30)) = u2 at *
  obtain ⟨_, c0, c1, _, _⟩ := HB2.out
  go_wp2_with fail
  refine HE1.out.mono ?_
  rintro e u3 ⟨rfl, f3⟩
  have HF3 := Lib.hid (HF2.out.trans f3)
  have HB3 := Lib.hid (HB2.out.fr f3)
  have HZ3 := Lib.hid (HZ2.out.fr f3)
  have HS3 := Lib.hid (show w.heap.size + 2 ≤ u3.heap.size by have := HS2.out; have := f3.size; omega)
  obtain ⟨_, z0, z1, zf0, zf1⟩ := HZ3.out
  clear HF2 HB2 HZ2 HS2 f3 c0 c1 HE1
  obtain ⟨_, c0, c1, _, _⟩ := HB3.out
  clear c0 c1
  go_wp2_with (first | (go_at_call 19; refine (HW1.out _).mono ?_; rintro e w' ⟨rfl, rfl⟩) | (go_at_call 19; refine (HW2.out _).mono ?_; rintro e w' ⟨rfl, rfl⟩))
  refine bodyPost_ret (v := .agg #[.slice none 0 0, .slice none 0 0]) (by simp [results, Tryd.results13, go_sem, World.cell?_setCell_other, World.cell?_setCell_same, z0, z1]) rfl ⟨none, none, 0, 0, rfl, VcG.nil _ _ _ _, ?_⟩
  exact fr_but HF3.out ((But.refl _ _).set2 (w.heap.size + 1) _ _ (.inl (by simp)) : But [w.heap.size + 1] _ _) (fun k hk => by have := List.mem_singleton.1 hk; omega)
set_option maxRecDepth 8000 in
set_option maxHeartbeats 2000000 in
theorem spec_GueSeen_ok (x : Gu) (aS aC : Option Addr) (cS cC : Nat) (pc m : Int) (w : World) (h : Src4 w x.S aS) (hc : Src w x.C.length (ivl x.C) aC) (hS : x.S.length ≤ 100000000) (hC : x.C.length ≤ 100000000) (h1 : okG x = true) (h2 : okB pc = true) (h3 : okB m = true) :
    Calls Tryd.prog 13 #[.agg #[.slice aS x.S.length cS, .slice aC x.C.length cC], .int .i64 pc, .int .i64 m] w (GuP (seenG x pc m) w) := by
  have F2 : Fr w ((w.alloc (.cells #[.slice aS x.S.length cS, .slice aC x.C.length cC] 30)).alloc (.cells #[.slice none 0 0, .slice none 0 0] 30)) := by
    (repeat' first | (with_reducible exact Below.refl _ _) | (with_reducible assumption) | ((with_reducible refine Below.setCell ?_ ?hb _); (case hb => first | exact Nat.le_refl _ | (simp; done) | (simp; omega) | omega)) | ((with_reducible refine Below.alloc ?_ ?hb _); (case hb => first | exact Nat.le_refl _ | (simp; done) | (simp; omega) | omega)) | (with_reducible refine Below.drew ?_))
  have HF2 := Lib.hid F2
  have HB2 := Lib.hid ((Box2.new w (.slice aS x.S.length cS) (.slice aC x.C.length cC) 30 _ rfl).fr (Fr.alloc _ (.cells #[.slice none 0 0, .slice none 0 0] 30)))
  have HZ2 := Lib.hid (Box2.new (w.alloc (.cells #[.slice aS x.S.length cS, .slice aC x.C.length cC] 30)) (.slice none 0 0) (.slice none 0 0) 30 (w.heap.size + 1) (by simp))
  have HS2 := Lib.hid (show ((w.alloc (.cells #[.slice aS x.S.length cS, .slice aC x.C.length cC] 30)).alloc (.cells #[.slice none 0 0, .slice none 0 0] 30)).heap.size = w.heap.size + 2 by simp)
  have E1 := spec_GueOk x aS aC cS cC _ (h.fr F2) (hc.fr F2) hS hC
  have W1 := fun w => spec_WrdOk pc w
  have W2 := fun w => spec_WrdOk m w
  rw [h1] at E1
  rw [h2] at W1
  rw [h3] at W2
  have HE1 := Lib.hid E1
  have HW1 := Lib.hid W1
  have HW2 := Lib.hid W2
  have HO := Lib.hid ((okG_iff x).1 h1)
  have HP := Lib.hid h2
  have HT := Lib.hid h3
  have HBD := Lib.hid (okB_true h2)
  have HBT := Lib.hid (okB_true h3)
  have HS := Lib.hid h
  have HC := Lib.hid hc
  clear F2 h hc hS hC E1 W1 W2 h1 h2 h3
  go_enter Tryd.func13, Tryd.ntmps13
  go_upto_region 1 with fail
  generalize ((w.alloc (.cells #[.slice aS x.S.length cS, .slice aC x.C.length cC] 30)).alloc (.cells #[.slice none 0 0, .slice none 0 0] 30)) = u2 at *
  obtain ⟨_, c0, c1, _, _⟩ := HB2.out
  go_wp2_with fail
  refine HE1.out.mono ?_
  rintro e u3 ⟨rfl, f3⟩
  have HF3 := Lib.hid (HF2.out.trans f3)
  have HB3 := Lib.hid (HB2.out.fr f3)
  have HZ3 := Lib.hid (HZ2.out.fr f3)
  have HS3 := Lib.hid (show w.heap.size + 2 ≤ u3.heap.size by have := HS2.out; have := f3.size; omega)
  obtain ⟨_, z0, z1, zf0, zf1⟩ := HZ3.out
  clear HF2 HB2 HZ2 HS2 f3 c0 c1 HE1
  obtain ⟨_, c0, c1, _, _⟩ := HB3.out
  go_wp2_with fail
  refine (HW1.out _).mono ?_
  rintro e u3' ⟨rfl, rfl⟩
  go_wp2_with fail
  refine (HW2.out _).mono ?_
  rintro e u3' ⟨rfl, rfl⟩
  go_wp2_with fail
  refine (spec_l5Copy x aS aC cS cC u3 (HS.out.fr HF3.out) (HC.out.fr HF3.out) HO.out.Sl (by have := HO.out.Cl; omega)).mono ?_
  rintro e u4 ⟨gS, aC4, cS4, cC4, rfl, hg4, hR4, hC4, hap4, f4⟩
  have f4s := f4.size
  have HF4 := Lib.hid (HF3.out.trans f4)
  have HZ4 := Lib.hid (HZ3.out.fr f4)
  have hs4 : w.heap.size + 2 ≤ u4.heap.size := by have := HS3.out; have := f4.size; omega
  have hs3 := HS3.out
  rw [HO.out.Sl]
  clear HF3 HB3 HZ3 HS3 f4 c0 c1 z0 z1 zf0 zf1
  have hgs4 := hR4.lt
  go_wp2_with fail
  refine (spec_l5Seen u3.heap.size gS cS4 x.S x.C aC4 cC4 pc m u4 hR4 hC4 hg4 f4s hap4 HO.out.Cl HBD.out.1 HBD.out.2).mono ?_
  rintro e u5 ⟨aC5, cC5, rfl, hR5, hC5, hb5⟩
  have HF5 := Lib.hid (show Fr w u5 from Below.trans HF4.out (hb5.mono (by omega)))
  have HZ5 := Lib.hid (box_low HZ4.out hb5 (by omega))
  have hcl5 := seenC_len x.C pc (rI m (m / 4096)) (rI m (rdv m 0)) HO.out.Cl
  have HRS := Lib.hid hR5
  have HC5 := Lib.hid hC5
  have hs5 : w.heap.size + 2 ≤ u5.heap.size := Nat.le_trans hs4 hb5.size
  clear HF4 HZ4 hR4 hC4 hap4 hb5 hR5 hC5
  have E6 := spec_l5Copy (seenG x pc m) (some ⟨gS, 0, none⟩) aC5 cS4 cC5 u5 (HRS.out.vc (Nat.zero_le _)).src HC5.out HO.out.Sl (by show (seenC _ _ _ _).length ≤ 100; omega)
  simp only [show (seenG x pc m).S.length = 8 from HO.out.Sl] at E6
  have HE6 := Lib.hid E6
  have HL8 := Lib.hid (show (seenG x pc m).S.length = 8 from HO.out.Sl)
  clear E6
  go_wp2_with fail
  refine HE6.out.mono ?_
  rintro e u6 ⟨g6, aC6, cS6, cC6, rfl, hg6, hR6, hC6, hap6, f6⟩
  have HF6 := Lib.hid (HF5.out.trans f6)
  have HZ6 := Lib.hid (HZ5.out.fr f6)
  clear HF5 HZ5 HRS HC5 f6 HE6
  obtain ⟨_, z0, z1, zf0, zf1⟩ := HZ6.out
  go_wp2_with fail
  refine bodyPost_ret (v := .agg #[.slice (some ⟨g6, 0, none⟩) (seenG x pc m).S.length cS6, .slice aC6 (seenG x pc m).C.length cC6]) (by simp [results, Tryd.results13, go_sem, World.cell?_setCell_other, World.cell?_setCell_same, z0, z1]) rfl ?_
  have hst : ∀ a b, But [w.heap.size + 1] u6 ((u6.setCell ⟨w.heap.size + 1, 0, none⟩ a).setCell ⟨w.heap.size + 1, 1, none⟩ b) := fun a b => (But.refl _ _).set2 (w.heap.size + 1) a b (.inl (by simp))
  refine ⟨_, aC6, cS6, cC6, rfl, GuC.gup (by omega) (hR6.but (hst _ _) (by simp <;> omega)) ((hC6.but (hst _ _) (fun k hk => by have := List.mem_singleton.1 hk; omega)).mono (by omega)) hap6, ?_⟩
  exact fr_but HF6.out (hst _ _) (fun k hk => by have := List.mem_singleton.1 hk; omega)
theorem spec_GueSeen (x : Gu) (aS aC : Option Addr) (cS cC : Nat) (pc m : Int) (w : World) (h : Src4 w x.S aS) (hc : Src w x.C.length (ivl x.C) aC) (hS : x.S.length ≤ 100000000) (hC : x.C.length ≤ 100000000) :
    Calls Tryd.prog 13 #[.agg #[.slice aS x.S.length cS, .slice aC x.C.length cC], .int .i64 pc, .int .i64 m] w (GuP (seenA x pc m) w) := by
  unfold seenA
  cases h1 : okG x
  · exact spec_GueSeen_n1 x aS aC cS cC pc m w h hc hS hC h1
  · cases h2 : okB pc
    · exact spec_GueSeen_n2 x aS aC cS cC pc m w h hc hS hC h1 h2
    · cases h3 : okB m
      · exact spec_GueSeen_n3 x aS aC cS cC pc m w h hc hS hC h1 h2 h3
      · exact spec_GueSeen_ok x aS aC cS cC pc m w h hc hS hC h1 h2 h3

end Go.Proofs.YtpdlcjjmhcfkjaaDoor
