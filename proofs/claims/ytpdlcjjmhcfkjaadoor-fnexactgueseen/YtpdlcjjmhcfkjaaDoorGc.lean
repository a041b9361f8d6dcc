/- The program's callsAfter. -/
import Derived.Test.YtpdlcjjmhcfkjaaDoorGs10
import Derived.Test.YtpdlcjjmhcfkjaaDoorGn
import Derived.Test.YtpdlcjjmhcfkjaaDoorGh4
namespace Go.Proofs.YtpdlcjjmhcfkjaaDoor
open Go.RowKit
set_option linter.unusedVariables false
set_option linter.unusedSimpArgs false
/-- Behind a call that answers a row, which may begin at an offset. -/
def CaP (C : List Int) (w : World) (e : Ending) (w' : World) : Prop := ∃ ao c, e = .returned (.slice ao C.length c) ∧ Vo w.heap.size w' C.length (ivl C) ao ∧ Fr w w'
set_option maxRecDepth 8000 in
set_option maxHeartbeats 1000000 in
theorem slices_CloneS (S : List Sl) (ao : Option Addr) (cap : Nat) (w : World) (h : Src4 w S ao) (hl : S.length = 8) :
    Calls Tryd.prog 48 #[.slice ao S.length cap] w fun e w' => ∃ g c, e = .returned (.slice (some ⟨g, 0, none⟩) S.length c) ∧ w.heap.size ≤ g ∧ Ro4 w' g S ∧ Fr w w' := by
  obtain ⟨j0, hj, hy0, hy1, hy2⟩ := info_partsN info_slotV
  obtain ⟨g, o, rfl, hg, hc⟩ := h (by omega)
  have HC := Lib.hid (fun (t : TypeId) => range_add (range_fr hc (Fr.alloc w (.cells #[] t)) hg))
  have HL := Lib.hid hl
  clear hc h hl
  have hnil : ∀ (w : World), Sem.run Tryd.prog (binOp BinOp.eql 28 (.slice (some ⟨g, o, none⟩) S.length cap) (.slice none 0 0)) w = .ok (.bool false) w := by intro w; kernel_rfl
  go_enter Tryd.func48, Tryd.ntmps48
  go_wp2_with (at_builtin; refine wpList_plain rfl fun K hK => wp_append_new4 _ _ 28 rfl 51 j0 (slw sl0) Tryd.underlying28 hj hy0 hy1 hy2 _ rfl ⟨g, o, none⟩ _ _ (cls S) rfl (by rw [cls_len, Nat.mul_comm]) (HC.out _) (cls_one S) (by have := HL.out; omega) (by have := HL.out; omega) ?_; intro c zs; refine hK _ _ ?_)
  go_ret
  refine ⟨_, c, rfl, ?_, Ro4.but (L := []) (by have := ro4_new (w.alloc (.cells #[] 51)) S zs 51; simpa using this) (But.refl _ _).drew (by simp), ?_⟩
  · simp
  · (repeat' first | (with_reducible exact Below.refl _ _) | (with_reducible assumption) | ((with_reducible refine Below.setCell ?_ ?hb _); (case hb => first | exact Nat.le_refl _ | (simp; done) | (simp; omega) | omega)) | ((with_reducible refine Below.alloc ?_ ?hb _); (case hb => first | exact Nat.le_refl _ | (simp; done) | (simp; omega) | omega)) | (with_reducible refine Below.drew ?_))
set_option maxRecDepth 8000 in
set_option maxHeartbeats 2000000 in
theorem callsAfter_o7 (C : List Int) (aC : Option Addr) (cC : Nat) (pc k d a b f n : Int) (w : World) (h : Src w C.length (ivl C) aC) (hl : C.length ≤ 4) (p0 : 0 ≤ pc) (p1 : pc < 65536) (hk : k = 7) (hd : ¬ 0 < d) :
    Calls Tryd.prog 49 #[.slice aC C.length cC, .int .i64 pc, .agg #[.int .i64 k, .int .i64 d, .int .i64 a, .int .i64 b, .int .i64 f, .int .i64 n]] w (CaP (C) w) := by
  subst hk
  have HF := Lib.hid (Fr.alloc w (.cells #[.int .i64 7, .int .i64 d, .int .i64 a, .int .i64 b, .int .i64 f, .int .i64 n] 43))
  have HI : Hid (Box (w.alloc (.cells #[.int .i64 7, .int .i64 d, .int .i64 a, .int .i64 b, .int .i64 f, .int .i64 n] 43)) w.heap.size 7 d a b f n) := Lib.hid ⟨(alloc_at w _ _ _ rfl 0).1, (alloc_at w _ _ _ rfl 1).1, (alloc_at w _ _ _ rfl 2).1, (alloc_at w _ _ _ rfl 3).1, (alloc_at w _ _ _ rfl 4).1, (alloc_at w _ _ _ rfl 5).1⟩
  have HS := Lib.hid h
  have ER := fun w => impl_isReturn 7 d a b f n w
  clear h
  rw [decide_eq_false (by omega)] at ER
  have HER := Lib.hid ER
  clear ER
  go_enter Tryd.func49, Tryd.ntmps49
  go_wp2_with fail
  have hu0 : (w.alloc (.cells #[.int .i64 7, .int .i64 d, .int .i64 a, .int .i64 b, .int .i64 f, .int .i64 n] 43)).heap.size = w.heap.size + 1 := by simp
  generalize (w.alloc (.cells #[.int .i64 7, .int .i64 d, .int .i64 a, .int .i64 b, .int .i64 f, .int .i64 n] 43)) = u0 at *
  refine (slices_CloneC C aC cC u0 (HS.out.fr HF.out) (by omega)).mono ?_
  rintro e u1 ⟨ao, c, rfl, hrc, f1⟩
  have HF1 := Lib.hid (HF.out.trans f1)
  have HI1 := Lib.hid (HI.out.frk f1)
  have HR1 := Lib.hid (hrc.mono (show w.heap.size + 1 ≤ u0.heap.size by omega))
  have hs1 : w.heap.size + 1 ≤ u1.heap.size := by have := f1.size; omega
  clear HF HI f1 hrc
  obtain ⟨i0, i1, i2, i3, i4, i5⟩ := HI1.out
  by_cases hc4 : C.length = 4
  · have h40 : (C.length : Int) - 4 = 0 := by omega
    clear hc4
    rcases ao with _ | gA
    all_goals (
      go_wp2_with (go_at_call 75; refine (HER.out _).mono ?_; rintro e u2 ⟨rfl, f2⟩; have HF2 := Lib.hid (HF1.out.trans f2); have HR2 := Lib.hid (HR1.out.fr f2); clear f2)
      (all_goals first | (exfalso; omega) | skip)
      (all_goals (go_ret; exact ⟨_, _, rfl, (HR2.out.mono (Nat.le_succ _)).vc.vo, HF2.out⟩)))
  · have h40 : (C.length : Int) - 4 < 0 := by omega
    clear hc4
    rcases ao with _ | gA
    all_goals (
      go_wp2_with (go_at_call 75; refine (HER.out _).mono ?_; rintro e u2 ⟨rfl, f2⟩; have HF2 := Lib.hid (HF1.out.trans f2); have HR2 := Lib.hid (HR1.out.fr f2); clear f2)
      (all_goals first | (exfalso; omega) | skip)
      (all_goals (go_ret; exact ⟨_, _, rfl, (HR2.out.mono (Nat.le_succ _)).vc.vo, HF2.out⟩)))
set_option maxRecDepth 8000 in
set_option maxHeartbeats 2000000 in
theorem callsAfter_oo (C : List Int) (aC : Option Addr) (cC : Nat) (pc k d a b f n : Int) (w : World) (h : Src w C.length (ivl C) aC) (hl : C.length ≤ 4) (p0 : 0 ≤ pc) (p1 : pc < 65536) (hk7 : (k == 7) = false) (hn8 : ¬ (k = 8 ∧ d = 0)) :
    Calls Tryd.prog 49 #[.slice aC C.length cC, .int .i64 pc, .agg #[.int .i64 k, .int .i64 d, .int .i64 a, .int .i64 b, .int .i64 f, .int .i64 n]] w (CaP (C) w) := by
  have HF := Lib.hid (Fr.alloc w (.cells #[.int .i64 k, .int .i64 d, .int .i64 a, .int .i64 b, .int .i64 f, .int .i64 n] 43))
  have HI : Hid (Box (w.alloc (.cells #[.int .i64 k, .int .i64 d, .int .i64 a, .int .i64 b, .int .i64 f, .int .i64 n] 43)) w.heap.size k d a b f n) := Lib.hid ⟨(alloc_at w _ _ _ rfl 0).1, (alloc_at w _ _ _ rfl 1).1, (alloc_at w _ _ _ rfl 2).1, (alloc_at w _ _ _ rfl 3).1, (alloc_at w _ _ _ rfl 4).1, (alloc_at w _ _ _ rfl 5).1⟩
  have HS := Lib.hid h
  have ER := fun w => impl_isReturn k d a b f n w
  clear h
  rw [decide_eq_false hn8] at ER
  have hk7n : ¬ k = 7 := by simpa using hk7
  clear hn8
  have HER := Lib.hid ER
  clear ER
  go_enter Tryd.func49, Tryd.ntmps49
  go_wp2_with fail
  have hu0 : (w.alloc (.cells #[.int .i64 k, .int .i64 d, .int .i64 a, .int .i64 b, .int .i64 f, .int .i64 n] 43)).heap.size = w.heap.size + 1 := by simp
  generalize (w.alloc (.cells #[.int .i64 k, .int .i64 d, .int .i64 a, .int .i64 b, .int .i64 f, .int .i64 n] 43)) = u0 at *
  refine (slices_CloneC C aC cC u0 (HS.out.fr HF.out) (by omega)).mono ?_
  rintro e u1 ⟨ao, c, rfl, hrc, f1⟩
  have HF1 := Lib.hid (HF.out.trans f1)
  have HI1 := Lib.hid (HI.out.frk f1)
  have HR1 := Lib.hid (hrc.mono (show w.heap.size + 1 ≤ u0.heap.size by omega))
  have hs1 : w.heap.size + 1 ≤ u1.heap.size := by have := f1.size; omega
  clear HF HI f1 hrc
  obtain ⟨i0, i1, i2, i3, i4, i5⟩ := HI1.out
  by_cases hc4 : C.length = 4
  · have h40 : (C.length : Int) - 4 = 0 := by omega
    clear hc4
    rcases ao with _ | gA
    all_goals (
      go_wp2_with (go_at_call 75; refine (HER.out _).mono ?_; rintro e u2 ⟨rfl, f2⟩; have HF2 := Lib.hid (HF1.out.trans f2); have HR2 := Lib.hid (HR1.out.fr f2); clear f2)
      (all_goals first | (exfalso; omega) | skip)
      (all_goals (go_ret; exact ⟨_, _, rfl, (HR2.out.mono (Nat.le_succ _)).vc.vo, HF2.out⟩)))
  · have h40 : (C.length : Int) - 4 < 0 := by omega
    clear hc4
    rcases ao with _ | gA
    all_goals (
      go_wp2_with (go_at_call 75; refine (HER.out _).mono ?_; rintro e u2 ⟨rfl, f2⟩; have HF2 := Lib.hid (HF1.out.trans f2); have HR2 := Lib.hid (HR1.out.fr f2); clear f2)
      (all_goals first | (exfalso; omega) | skip)
      (all_goals (go_ret; exact ⟨_, _, rfl, (HR2.out.mono (Nat.le_succ _)).vc.vo, HF2.out⟩)))
set_option maxRecDepth 8000 in
set_option maxHeartbeats 2000000 in
theorem callsAfter_oz (C : List Int) (aC : Option Addr) (cC : Nat) (pc k d a b f n : Int) (w : World) (h : Src w C.length (ivl C) aC) (hl : C.length ≤ 4) (p0 : 0 ≤ pc) (p1 : pc < 65536) (hk : k = 8) (hd : d = 0) (h0 : C.length = 0) :
    Calls Tryd.prog 49 #[.slice aC C.length cC, .int .i64 pc, .agg #[.int .i64 k, .int .i64 d, .int .i64 a, .int .i64 b, .int .i64 f, .int .i64 n]] w (CaP (C) w) := by
  subst hk hd
  have HF := Lib.hid (Fr.alloc w (.cells #[.int .i64 8, .int .i64 0, .int .i64 a, .int .i64 b, .int .i64 f, .int .i64 n] 43))
  have HI : Hid (Box (w.alloc (.cells #[.int .i64 8, .int .i64 0, .int .i64 a, .int .i64 b, .int .i64 f, .int .i64 n] 43)) w.heap.size 8 0 a b f n) := Lib.hid ⟨(alloc_at w _ _ _ rfl 0).1, (alloc_at w _ _ _ rfl 1).1, (alloc_at w _ _ _ rfl 2).1, (alloc_at w _ _ _ rfl 3).1, (alloc_at w _ _ _ rfl 4).1, (alloc_at w _ _ _ rfl 5).1⟩
  have HS := Lib.hid h
  have ER := fun w => impl_isReturn 8 0 a b f n w
  clear h
  rw [decide_eq_true ⟨rfl, rfl⟩] at ER
  have h00 : ¬ (0 : Int) < (C.length : Int) := by omega
  clear h0
  have HER := Lib.hid ER
  clear ER
  go_enter Tryd.func49, Tryd.ntmps49
  go_wp2_with fail
  have hu0 : (w.alloc (.cells #[.int .i64 8, .int .i64 0, .int .i64 a, .int .i64 b, .int .i64 f, .int .i64 n] 43)).heap.size = w.heap.size + 1 := by simp
  generalize (w.alloc (.cells #[.int .i64 8, .int .i64 0, .int .i64 a, .int .i64 b, .int .i64 f, .int .i64 n] 43)) = u0 at *
  refine (slices_CloneC C aC cC u0 (HS.out.fr HF.out) (by omega)).mono ?_
  rintro e u1 ⟨ao, c, rfl, hrc, f1⟩
  have HF1 := Lib.hid (HF.out.trans f1)
  have HI1 := Lib.hid (HI.out.frk f1)
  have HR1 := Lib.hid (hrc.mono (show w.heap.size + 1 ≤ u0.heap.size by omega))
  have hs1 : w.heap.size + 1 ≤ u1.heap.size := by have := f1.size; omega
  clear HF HI f1 hrc
  obtain ⟨i0, i1, i2, i3, i4, i5⟩ := HI1.out
  by_cases hc4 : C.length = 4
  · have h40 : (C.length : Int) - 4 = 0 := by omega
    clear hc4
    rcases ao with _ | gA
    all_goals (
      go_wp2_with (go_at_call 75; refine (HER.out _).mono ?_; rintro e u2 ⟨rfl, f2⟩; have HF2 := Lib.hid (HF1.out.trans f2); have HR2 := Lib.hid (HR1.out.fr f2); clear f2)
      (all_goals first | (exfalso; omega) | skip)
      (all_goals (go_ret; exact ⟨_, _, rfl, (HR2.out.mono (Nat.le_succ _)).vc.vo, HF2.out⟩)))
  · have h40 : (C.length : Int) - 4 < 0 := by omega
    clear hc4
    rcases ao with _ | gA
    all_goals (
      go_wp2_with (go_at_call 75; refine (HER.out _).mono ?_; rintro e u2 ⟨rfl, f2⟩; have HF2 := Lib.hid (HF1.out.trans f2); have HR2 := Lib.hid (HR1.out.fr f2); clear f2)
      (all_goals first | (exfalso; omega) | skip)
      (all_goals (go_ret; exact ⟨_, _, rfl, (HR2.out.mono (Nat.le_succ _)).vc.vo, HF2.out⟩)))
set_option maxRecDepth 8000 in
set_option maxHeartbeats 2000000 in
theorem callsAfter_b8 (C : List Int) (aC : Option Addr) (cC : Nat) (pc k d a b f n : Int) (w : World) (h : Src w C.length (ivl C) aC) (hl : C.length ≤ 4) (p0 : 0 ≤ pc) (p1 : pc < 65536) (hk : k = 8) (hd : d = 0) (h0 : 0 < C.length) (Cn : List Int) (hCn : C.take (C.length - 1) = Cn) :
    Calls Tryd.prog 49 #[.slice aC C.length cC, .int .i64 pc, .agg #[.int .i64 k, .int .i64 d, .int .i64 a, .int .i64 b, .int .i64 f, .int .i64 n]] w (CaP (Cn) w) := by
  subst hk hd
  have HF := Lib.hid (Fr.alloc w (.cells #[.int .i64 8, .int .i64 0, .int .i64 a, .int .i64 b, .int .i64 f, .int .i64 n] 43))
  have HI : Hid (Box (w.alloc (.cells #[.int .i64 8, .int .i64 0, .int .i64 a, .int .i64 b, .int .i64 f, .int .i64 n] 43)) w.heap.size 8 0 a b f n) := Lib.hid ⟨(alloc_at w _ _ _ rfl 0).1, (alloc_at w _ _ _ rfl 1).1, (alloc_at w _ _ _ rfl 2).1, (alloc_at w _ _ _ rfl 3).1, (alloc_at w _ _ _ rfl 4).1, (alloc_at w _ _ _ rfl 5).1⟩
  have HS := Lib.hid h
  have ER := fun w => impl_isReturn 8 0 a b f n w
  clear h
  rw [decide_eq_true ⟨rfl, rfl⟩] at ER
  have HCn := Lib.hid hCn
  clear hCn
  have HER := Lib.hid ER
  clear ER
  go_enter Tryd.func49, Tryd.ntmps49
  go_wp2_with fail
  have hu0 : (w.alloc (.cells #[.int .i64 8, .int .i64 0, .int .i64 a, .int .i64 b, .int .i64 f, .int .i64 n] 43)).heap.size = w.heap.size + 1 := by simp
  generalize (w.alloc (.cells #[.int .i64 8, .int .i64 0, .int .i64 a, .int .i64 b, .int .i64 f, .int .i64 n] 43)) = u0 at *
  refine (slices_CloneC C aC cC u0 (HS.out.fr HF.out) (by omega)).mono ?_
  rintro e u1 ⟨ao, c, rfl, hrc, f1⟩
  have HF1 := Lib.hid (HF.out.trans f1)
  have HI1 := Lib.hid (HI.out.frk f1)
  have HR1 := Lib.hid (hrc.mono (show w.heap.size + 1 ≤ u0.heap.size by omega))
  have hs1 : w.heap.size + 1 ≤ u1.heap.size := by have := f1.size; omega
  clear HF HI f1 hrc
  obtain ⟨i0, i1, i2, i3, i4, i5⟩ := HI1.out
  obtain ⟨q, hq⟩ : ∃ q : Nat, C.length = q + 1 := ⟨C.length - 1, by omega⟩
  have hq' : (C.length : Int) - 1 = (q : Int) := by omega
  have h00 : (0 : Int) < (C.length : Int) := by omega
  have hm1 : ¬ (0 : Int) < (q : Int) - 4 := by omega
  have hm2 : (q : Int) - 4 ≤ 0 := by omega
  have hqc : (q : Int) ≤ (c : Int) := by
    rcases HR1.out with hh | ⟨_, _, _, _, kk, _⟩
    · omega
    · obtain ⟨_, _, _, k1, _⟩ := kk; omega
  obtain ⟨gC, hgC, hBg, hRo⟩ : ∃ gC, ao = some ⟨gC, 0, none⟩ ∧ w.heap.size + 1 ≤ gC ∧ Ro u1 gC C := by
    rcases HR1.out with hh | ⟨gC, e, hb, ro, _⟩
    · omega
    · exact ⟨gC, e, hb, ro⟩
  subst hgC
  have HRo := Lib.hid hRo
  have hqn : Cn.length = q := by rw [← HCn.out]; simp; omega
  have HQN := Lib.hid hqn
  have HQ := Lib.hid hq
  clear hRo hqn hq
  go_wp2_with (go_at_call 75; refine (HER.out _).mono ?_; rintro e u2 ⟨rfl, f2⟩; have HF2 := Lib.hid (HF1.out.trans f2); have HR2 := Lib.hid (HR1.out.fr f2); clear f2)
  all_goals first | (exfalso; omega) | skip
  go_ret
  refine ⟨some ⟨gC, 0, none⟩, c, by rw [HQN.out]; rfl, ⟨fun h0 => ?_⟩, HF2.out⟩
  obtain ⟨g2, o2, e2, hb2, hl2, hc2, hf2⟩ := (HR2.out.mono (Nat.le_succ _)).vc.vo.at0 (by have := HQ.out; omega)
  cases e2
  have hq := HQ.out
  have hqn := HQN.out
  refine ⟨gC, 0, rfl, hb2, hl2, fun i hi => ?_, fun i hi => hf2 i (by omega)⟩
  rw [hc2 i (by omega)]
  have hin : i < C.length - 1 := by omega
  simp only [ivl, ← HCn.out, List.getD_eq_getElem?_getD, List.getElem?_take_of_lt hin]
set_option maxRecDepth 8000 in
set_option maxHeartbeats 2000000 in
theorem callsAfter_a7 (C : List Int) (aC : Option Addr) (cC : Nat) (pc k d a b f n : Int) (w : World) (h : Src w C.length (ivl C) aC) (hl : C.length ≤ 4) (p0 : 0 ≤ pc) (p1 : pc < 65536) (hk : k = 7) (hd : 0 < d) (z : Int) (hz : (pc + 1) % 65536 = z) (Cz : List Int) (hCz : C ++ [z] = Cz) (h0 : 0 < C.length) (h3 : C.length ≤ 3) :
    Calls Tryd.prog 49 #[.slice aC C.length cC, .int .i64 pc, .agg #[.int .i64 k, .int .i64 d, .int .i64 a, .int .i64 b, .int .i64 f, .int .i64 n]] w (CaP (Cz) w) := by
  subst hk
  have HF := Lib.hid (Fr.alloc w (.cells #[.int .i64 7, .int .i64 d, .int .i64 a, .int .i64 b, .int .i64 f, .int .i64 n] 43))
  have HI : Hid (Box (w.alloc (.cells #[.int .i64 7, .int .i64 d, .int .i64 a, .int .i64 b, .int .i64 f, .int .i64 n] 43)) w.heap.size 7 d a b f n) := Lib.hid ⟨(alloc_at w _ _ _ rfl 0).1, (alloc_at w _ _ _ rfl 1).1, (alloc_at w _ _ _ rfl 2).1, (alloc_at w _ _ _ rfl 3).1, (alloc_at w _ _ _ rfl 4).1, (alloc_at w _ _ _ rfl 5).1⟩
  have HS := Lib.hid h
  have ER := fun w => impl_isReturn 7 d a b f n w
  clear h
  rw [decide_eq_false (by omega)] at ER
  have HZz := Lib.hid hz
  have HCz := Lib.hid hCz
  have hzl : Cz.length = C.length + 1 := by rw [← hCz]; simp
  have HZl := Lib.hid hzl
  obtain ⟨i00, hii, hz0, hz1, hz2⟩ := info_parts info_intV
  clear hCz hzl
  have HER := Lib.hid ER
  clear ER
  go_enter Tryd.func49, Tryd.ntmps49
  go_wp2_with fail
  have hu0 : (w.alloc (.cells #[.int .i64 7, .int .i64 d, .int .i64 a, .int .i64 b, .int .i64 f, .int .i64 n] 43)).heap.size = w.heap.size + 1 := by simp
  generalize (w.alloc (.cells #[.int .i64 7, .int .i64 d, .int .i64 a, .int .i64 b, .int .i64 f, .int .i64 n] 43)) = u0 at *
  refine (slices_CloneC C aC cC u0 (HS.out.fr HF.out) (by omega)).mono ?_
  rintro e u1 ⟨ao, c, rfl, hrc, f1⟩
  have HF1 := Lib.hid (HF.out.trans f1)
  have HI1 := Lib.hid (HI.out.frk f1)
  have HR1 := Lib.hid (hrc.mono (show w.heap.size + 1 ≤ u0.heap.size by omega))
  have hs1 : w.heap.size + 1 ≤ u1.heap.size := by have := f1.size; omega
  clear HF HI f1 hrc
  obtain ⟨i0, i1, i2, i3, i4, i5⟩ := HI1.out
  obtain ⟨gC, hgC, hBg, hRo, hKa⟩ : ∃ gC, ao = some ⟨gC, 0, none⟩ ∧ w.heap.size + 1 ≤ gC ∧ Ro u1 gC C ∧ Ca u1 gC C.length c := by
    rcases HR1.out with hh | ⟨gC, e, hb, ro, ka, _⟩
    · omega
    · exact ⟨gC, e, hb, ro, ka⟩
  subst hgC
  have HRo := Lib.hid hRo
  have HKa := Lib.hid hKa
  have hgl := hRo.lt
  clear hRo hKa
  go_upto_region 4 with (first | (go_at_call 43; refine (impl_wrapped5 _ _ (by omega) (by omega)).mono ?_; rintro e w' ⟨rfl, rfl⟩) | (at_builtin; refine wpList_plain rfl fun K hK => wp_append_own_at _ _ _ 23 rfl (w.heap.size + 1) 3 i00 (.int .i64 0) 1 8 Tryd.underlying23 hii hz0 hz1 hz2 rfl (by decide) (.slice (some ⟨gC, 0, none⟩) C.length c) C.length (C.map (Value.int .i64)) rfl (ca_own (HKa.out.but (L := []) (But.of (Fr.alloc _ _)) (by simp)) (HRo.out.fr (Fr.alloc _ _)) hBg) _ 1 1 [.int .i64 z] (by rw [← HZz.out]; rfl) rfl (by rw [← HZz.out]; exact (fun j v hv => by rcases j with _ | j; (simp at hv; subst hv; simp [Addr.add]); (simp at hv))) (fun v hv => by simp at hv; subst hv; rfl) (by unfold maxLen; omega) (by omega) (by simp; omega) ?_; intro v' w' hown hg hat; refine hK _ _ ?_))
  have hown' : w'.ownsRow (w.heap.size + 1) 3 1 v' (C.length + 1) (Cz.map (Value.int .i64)) := by rw [← HCz.out]; simpa using hown
  obtain ⟨ao2, c2, rfl, hrc2⟩ := rc_own hown' (Nat.succ_pos _)
  have HF3 := Lib.hid (show Fr w w' from fr_but (HF1.out.trans (Fr.alloc _ _)) (but_grown (g := gC) hg) (fun k hk => by have := List.mem_singleton.1 hk; omega))
  obtain ⟨j0, j1, j2, j3, j4, j5⟩ := (HI1.out.frk (Fr.alloc u1 (.cells #[.int .i64 z] 3))).below (grown_below (b := gC) hg hBg (by simp; omega)) (Nat.lt_succ_self _)
  have HRC := Lib.hid hrc2
  have hzl := HZl.out
  have HR1 := HRC
  have HF1 := HF3
  clear hown hown' hg hat i0 i1 i2 i3 i4 i5 hrc2
  by_cases hc4 : Cz.length = 4
  · have h40 : (Cz.length : Int) - 4 = 0 := by omega
    clear hc4 hzl
    rcases ao2 with _ | gA2
    all_goals (
      go_wp2_with (go_at_call 75; refine (HER.out _).mono ?_; rintro e u4 ⟨rfl, f4⟩; have HF4 := Lib.hid (HF3.out.trans f4); have HR4 := Lib.hid (HRC.out.fr f4); clear f4)
      (all_goals first | (exfalso; omega) | skip)
      (all_goals (go_ret; exact ⟨_, _, rfl, (HR4.out.mono (Nat.le_succ _)).vc.vo, HF4.out⟩)))
  · have h40 : (Cz.length : Int) - 4 < 0 := by omega
    clear hc4 hzl
    rcases ao2 with _ | gA2
    all_goals (
      go_wp2_with (go_at_call 75; refine (HER.out _).mono ?_; rintro e u4 ⟨rfl, f4⟩; have HF4 := Lib.hid (HF3.out.trans f4); have HR4 := Lib.hid (HRC.out.fr f4); clear f4)
      (all_goals first | (exfalso; omega) | skip)
      (all_goals (go_ret; exact ⟨_, _, rfl, (HR4.out.mono (Nat.le_succ _)).vc.vo, HF4.out⟩)))
set_option maxRecDepth 8000 in
set_option maxHeartbeats 2000000 in
theorem callsAfter_d7 (C : List Int) (aC : Option Addr) (cC : Nat) (pc k d a b f n : Int) (w : World) (h : Src w C.length (ivl C) aC) (hl : C.length ≤ 4) (p0 : 0 ≤ pc) (p1 : pc < 65536) (hk : k = 7) (hd : 0 < d) (z : Int) (hz : (pc + 1) % 65536 = z) (Cz : List Int) (hCz : C ++ [z] = Cz) (h0 : 0 < C.length) (h4 : C.length = 4) (Cn : List Int) (hCn : Cz.drop 1 = Cn) :
    Calls Tryd.prog 49 #[.slice aC C.length cC, .int .i64 pc, .agg #[.int .i64 k, .int .i64 d, .int .i64 a, .int .i64 b, .int .i64 f, .int .i64 n]] w (CaP (Cn) w) := by
  subst hk
  have HF := Lib.hid (Fr.alloc w (.cells #[.int .i64 7, .int .i64 d, .int .i64 a, .int .i64 b, .int .i64 f, .int .i64 n] 43))
  have HI : Hid (Box (w.alloc (.cells #[.int .i64 7, .int .i64 d, .int .i64 a, .int .i64 b, .int .i64 f, .int .i64 n] 43)) w.heap.size 7 d a b f n) := Lib.hid ⟨(alloc_at w _ _ _ rfl 0).1, (alloc_at w _ _ _ rfl 1).1, (alloc_at w _ _ _ rfl 2).1, (alloc_at w _ _ _ rfl 3).1, (alloc_at w _ _ _ rfl 4).1, (alloc_at w _ _ _ rfl 5).1⟩
  have HS := Lib.hid h
  have ER := fun w => impl_isReturn 7 d a b f n w
  clear h
  rw [decide_eq_false (by omega)] at ER
  have HZz := Lib.hid hz
  have HCz := Lib.hid hCz
  have hzl : Cz.length = C.length + 1 := by rw [← hCz]; simp
  have HZl := Lib.hid hzl
  obtain ⟨i00, hii, hz0, hz1, hz2⟩ := info_parts info_intV
  clear hCz hzl
  have HCn := Lib.hid hCn
  have h4a : 4 ≤ C.length := by omega
  clear hCn h4
  have HER := Lib.hid ER
  clear ER
  go_enter Tryd.func49, Tryd.ntmps49
  go_wp2_with fail
  have hu0 : (w.alloc (.cells #[.int .i64 7, .int .i64 d, .int .i64 a, .int .i64 b, .int .i64 f, .int .i64 n] 43)).heap.size = w.heap.size + 1 := by simp
  generalize (w.alloc (.cells #[.int .i64 7, .int .i64 d, .int .i64 a, .int .i64 b, .int .i64 f, .int .i64 n] 43)) = u0 at *
  refine (slices_CloneC C aC cC u0 (HS.out.fr HF.out) (by omega)).mono ?_
  rintro e u1 ⟨ao, c, rfl, hrc, f1⟩
  have HF1 := Lib.hid (HF.out.trans f1)
  have HI1 := Lib.hid (HI.out.frk f1)
  have HR1 := Lib.hid (hrc.mono (show w.heap.size + 1 ≤ u0.heap.size by omega))
  have hs1 : w.heap.size + 1 ≤ u1.heap.size := by have := f1.size; omega
  clear HF HI f1 hrc
  obtain ⟨i0, i1, i2, i3, i4, i5⟩ := HI1.out
  obtain ⟨gC, hgC, hBg, hRo, hKa⟩ : ∃ gC, ao = some ⟨gC, 0, none⟩ ∧ w.heap.size + 1 ≤ gC ∧ Ro u1 gC C ∧ Ca u1 gC C.length c := by
    rcases HR1.out with hh | ⟨gC, e, hb, ro, ka, _⟩
    · omega
    · exact ⟨gC, e, hb, ro, ka⟩
  subst hgC
  have HRo := Lib.hid hRo
  have HKa := Lib.hid hKa
  have hgl := hRo.lt
  clear hRo hKa
  go_upto_region 4 with (first | (go_at_call 43; refine (impl_wrapped5 _ _ (by omega) (by omega)).mono ?_; rintro e w' ⟨rfl, rfl⟩) | (at_builtin; refine wpList_plain rfl fun K hK => wp_append_own_at _ _ _ 23 rfl (w.heap.size + 1) 3 i00 (.int .i64 0) 1 8 Tryd.underlying23 hii hz0 hz1 hz2 rfl (by decide) (.slice (some ⟨gC, 0, none⟩) C.length c) C.length (C.map (Value.int .i64)) rfl (ca_own (HKa.out.but (L := []) (But.of (Fr.alloc _ _)) (by simp)) (HRo.out.fr (Fr.alloc _ _)) hBg) _ 1 1 [.int .i64 z] (by rw [← HZz.out]; rfl) rfl (by rw [← HZz.out]; exact (fun j v hv => by rcases j with _ | j; (simp at hv; subst hv; simp [Addr.add]); (simp at hv))) (fun v hv => by simp at hv; subst hv; rfl) (by unfold maxLen; omega) (by omega) (by simp; omega) ?_; intro v' w' hown hg hat; refine hK _ _ ?_))
  have hown' : w'.ownsRow (w.heap.size + 1) 3 1 v' (C.length + 1) (Cz.map (Value.int .i64)) := by rw [← HCz.out]; simpa using hown
  obtain ⟨ao2, c2, rfl, hrc2⟩ := rc_own hown' (Nat.succ_pos _)
  have HF3 := Lib.hid (show Fr w w' from fr_but (HF1.out.trans (Fr.alloc _ _)) (but_grown (g := gC) hg) (fun k hk => by have := List.mem_singleton.1 hk; omega))
  obtain ⟨j0, j1, j2, j3, j4, j5⟩ := (HI1.out.frk (Fr.alloc u1 (.cells #[.int .i64 z] 3))).below (grown_below (b := gC) hg hBg (by simp; omega)) (Nat.lt_succ_self _)
  have HRC := Lib.hid hrc2
  have hzl := HZl.out
  have HR1 := HRC
  have HF1 := HF3
  clear hown hown' hg hat i0 i1 i2 i3 i4 i5 hrc2
  have hl5 : Cz.length = 5 := by omega
  have HL5 := Lib.hid hl5
  obtain ⟨gZ, hgZ, hBZ, hRZ, hc5⟩ : ∃ gZ, ao2 = some ⟨gZ, 0, none⟩ ∧ w.heap.size ≤ gZ ∧ Ro w' gZ Cz ∧ 5 ≤ c2 := by
    rcases HRC.out with hh | ⟨gZ, e, hb, ro, ka, _⟩
    · omega
    · obtain ⟨_, _, _, k1, _⟩ := ka
      exact ⟨gZ, e, by omega, ro, by omega⟩
  subst hgZ
  have HRZ := Lib.hid hRZ
  have hc1 : ¬ c2 = 1 := by omega
  have hc2 : ¬ 1 = c2 := by omega
  rw [hl5]
  clear hRZ hl5 hzl
  go_wp2_with (go_at_call 75; refine (HER.out _).mono ?_; rintro e u4 ⟨rfl, f4⟩; have HF4 := Lib.hid (HF3.out.trans f4); have HR4 := Lib.hid (HRZ.out.fr f4); clear f4)
  all_goals first | (exfalso; omega) | skip
  go_ret
  have hn : Cn.length = 4 := by rw [← HCn.out]; simp [HL5.out]
  refine ⟨some ⟨gZ, 1, none⟩, _, by rw [hn]; rfl, ⟨fun _ => ⟨gZ, 1, rfl, hBZ, HR4.out.lt, fun i hi => ?_, fun i hi => HR4.out.fro (1 + i) (by have := HL5.out; omega)⟩⟩, HF4.out⟩
  rw [HR4.out.cel (1 + i) (by have := HL5.out; omega)]
  simp only [ivl, ← HCn.out, List.getD_eq_getElem?_getD, List.getElem?_drop]

end Go.Proofs.YtpdlcjjmhcfkjaaDoor
