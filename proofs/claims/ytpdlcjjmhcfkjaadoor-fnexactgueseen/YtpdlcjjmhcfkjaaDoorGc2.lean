/- The program's callsAfter. -/
import Derived.Test.YtpdlcjjmhcfkjaaDoorGc
namespace Go.Proofs.YtpdlcjjmhcfkjaaDoor
open Go.RowKit
set_option linter.unusedVariables false
set_option linter.unusedSimpArgs false
set_option maxRecDepth 8000 in
set_option maxHeartbeats 2000000 in
theorem callsAfter_z7 (C : List Int) (aC : Option Addr) (cC : Nat) (pc k d a b f n : Int) (w : World) (h : Src w C.length (ivl C) aC) (hl : C.length ≤ 4) (p0 : 0 ≤ pc) (p1 : pc < 65536) (hk : k = 7) (hd : 0 < d) (z : Int) (hz : (pc + 1) % 65536 = z) (Cz : List Int) (hCz : C ++ [z] = Cz) (h0 : C.length = 0) :
    Calls Tryd.prog 49 #[.slice aC C.length cC, .int .i64 pc, .agg #[.int .i64 k, .int .i64 d, .int .i64 a, .int .i64 b, .int .i64 f, .int .i64 n]] w (CaP (Cz) w) := by
  subst hk
  have HF := Lib.hid (Fr.alloc w (.cells #[.int .i64 7, .int .i64 d, .int .i64 a, .int .i64 b, .int .i64 f, .int .i64 n] 43))
  have HI : Hid (Box (w.alloc (.cells #[.int .i64 7, .int .i64 d, .int .i64 a, .int .i64 b, .int .i64 f, .int .i64 n] 43)) w.heap.size 7 d a b f n) := Lib.hid ⟨(alloc_at w _ _ _ rfl 0).1, (alloc_at w _ _ _ rfl 1).1, (alloc_at w _ _ _ rfl 2).1, (alloc_at w _ _ _ rfl 3).1, (alloc_at w _ _ _ rfl 4).1, (alloc_at w _ _ _ rfl 5).1⟩
  have HS := Lib.hid h
  have ER := fun w => impl_isReturn 7 d a b f n w
  clear h
  rw [decide_eq_false (by omega)] at ER
  have HZz := Lib.hid hz
  have HCz := Lib.hid hCz
  have hzl : Cz.length = C.length + 1 := by rw [← hCz]; simp
  have HZl := Lib.hid hzl
  obtain ⟨i00, hii, hz0, hz1, hz2⟩ := info_parts info_intV
  clear hCz hzl
  have HC0 := Lib.hid h0
  clear h0
  have HER := Lib.hid ER
  clear ER
  go_enter Tryd.func49, Tryd.ntmps49
  go_wp2_with fail
  have hu0 : (w.alloc (.cells #[.int .i64 7, .int .i64 d, .int .i64 a, .int .i64 b, .int .i64 f, .int .i64 n] 43)).heap.size = w.heap.size + 1 := by simp
  generalize (w.alloc (.cells #[.int .i64 7, .int .i64 d, .int .i64 a, .int .i64 b, .int .i64 f, .int .i64 n] 43)) = u0 at *
  refine (slices_CloneC C aC cC u0 (HS.out.fr HF.out) (by omega)).mono ?_
  rintro e u1 ⟨ao, c, rfl, hrc, f1⟩
  have HF1 := Lib.hid (HF.out.trans f1)
  have HI1 := Lib.hid (HI.out.frk f1)
  have HR1 := Lib.hid (hrc.mono (show w.heap.size + 1 ≤ u0.heap.size by omega))
  have hs1 : w.heap.size + 1 ≤ u1.heap.size := by have := f1.size; omega
  clear HF HI f1 hrc
  obtain ⟨i0, i1, i2, i3, i4, i5⟩ := HI1.out
  have HcC := Lib.hid (show c = 0 by have h0 := HC0.out; rcases HR1.out with hh | ⟨_, _, _, _, _, hh⟩ <;> omega)
  rcases ao with _ | gA
  · go_upto_region 4 with (first | (go_at_call 43; refine (impl_wrapped5 _ _ (by omega) (by omega)).mono ?_; rintro e w' ⟨rfl, rfl⟩) | (at_builtin; refine wpList_plain rfl fun K hK => wp_append_own_at _ _ _ 23 rfl (w.heap.size + 1) 3 i00 (.int .i64 0) 1 8 Tryd.underlying23 hii hz0 hz1 hz2 rfl (by decide) (.slice none C.length c) C.length (C.map (Value.int .i64)) rfl ⟨by simp [HC0.out], .inl ⟨by rw [HC0.out, HcC.out], HC0.out⟩⟩ _ 1 1 [.int .i64 z] (by rw [← HZz.out]; rfl) rfl (by rw [← HZz.out]; exact (fun j v hv => by rcases j with _ | j; (simp at hv; subst hv; simp [Addr.add]); (simp at hv))) (fun v hv => by simp at hv; subst hv; rfl) (by unfold maxLen; omega) (by omega) (by simp; omega) ?_; intro v' w' hown hg hat; refine hK _ _ ?_))
    have hown' : w'.ownsRow (w.heap.size + 1) 3 1 v' (C.length + 1) (Cz.map (Value.int .i64)) := by rw [← HCz.out]; simpa using hown
    obtain ⟨ao2, c2, rfl, hrc2⟩ := rc_own hown' (Nat.succ_pos _)
    have HF3 := Lib.hid (show Fr w w' from (HF1.out.trans (Fr.alloc _ _)).trans (grown_fr hg))
    obtain ⟨j0, j1, j2, j3, j4, j5⟩ := (HI1.out.frk (Fr.alloc u1 (.cells #[.int .i64 z] 3))).below (Below.mono (grown_fr hg) (by simp; omega)) (Nat.lt_succ_self _)
    have HRC := Lib.hid hrc2
    have hzl := HZl.out
    have HR1 := HRC
    have HF1 := HF3
    clear hown hown' hg hat i0 i1 i2 i3 i4 i5 hrc2
    have h40 : (Cz.length : Int) - 4 < 0 := by have := HC0.out; omega
    clear hzl
    rcases ao2 with _ | gA2
    all_goals (
      go_wp2_with (go_at_call 75; refine (HER.out _).mono ?_; rintro e u4 ⟨rfl, f4⟩; have HF4 := Lib.hid (HF3.out.trans f4); have HR4 := Lib.hid (HRC.out.fr f4); clear f4)
      (all_goals first | (exfalso; omega) | skip)
      (all_goals (go_ret; exact ⟨_, _, rfl, (HR4.out.mono (Nat.le_succ _)).vc.vo, HF4.out⟩)))
  · go_upto_region 4 with (first | (go_at_call 43; refine (impl_wrapped5 _ _ (by omega) (by omega)).mono ?_; rintro e w' ⟨rfl, rfl⟩) | (at_builtin; refine wpList_plain rfl fun K hK => wp_append_new _ _ 23 rfl 3 i00 (.int .i64 0) Tryd.underlying23 hii hz0 hz1 hz2 gA ((rfl : _ = Value.slice (some gA) C.length c).trans (by rw [HC0.out, HcC.out])) _ 1 1 [.int .i64 z] (by rw [← HZz.out]; rfl) rfl (by rw [← HZz.out]; exact (fun j v hv => by rcases j with _ | j; (simp at hv; subst hv; simp [Addr.add]); (simp at hv))) (fun v hv => by simp at hv; subst hv; rfl) (by omega) (by omega) ?_; intro cp zs hzs; refine hK _ _ ?_))
    have hro : Ro ((u1.alloc (.cells #[.int .i64 z] 3)).alloc (.cells (#[.int .i64 z] ++ zs) 3)).drew (u1.heap.size + 1) Cz := by
      have hCz : Cz = [z] := by rw [← HCz.out, List.length_eq_zero_iff.1 HC0.out]; rfl
      have := ro_new (u1.alloc (.cells #[.int .i64 z] 3)) [z] zs 3
      rw [hCz]
      exact Ro.drew (by simpa using this)
    have hca : Ca ((u1.alloc (.cells #[.int .i64 z] 3)).alloc (.cells (#[.int .i64 z] ++ zs) 3)).drew (u1.heap.size + 1) Cz.length cp := by
      have hCz : Cz = [z] := by rw [← HCz.out, List.length_eq_zero_iff.1 HC0.out]; rfl
      have := ca_new (u1.alloc (.cells #[.int .i64 z] 3)) [z] zs cp (hzs rfl)
      rw [hCz]
      exact Ca.but (L := []) (by simpa using this) (But.refl _ _).drew (by simp)
    have hfr : Fr u1 ((u1.alloc (.cells #[.int .i64 z] 3)).alloc (.cells (#[.int .i64 z] ++ zs) 3)).drew := by (repeat' first | (with_reducible exact Below.refl _ _) | (with_reducible assumption) | ((with_reducible refine Below.setCell ?_ ?hb _); (case hb => first | exact Nat.le_refl _ | (simp; done) | (simp; omega) | omega)) | ((with_reducible refine Below.alloc ?_ ?hb _); (case hb => first | exact Nat.le_refl _ | (simp; done) | (simp; omega) | omega)) | (with_reducible refine Below.drew ?_))
    have hrc2 : Rc (w.heap.size + 1) ((u1.alloc (.cells #[.int .i64 z] 3)).alloc (.cells (#[.int .i64 z] ++ zs) 3)).drew Cz (some ⟨u1.heap.size + 1, 0, none⟩) cp := .inr ⟨_, rfl, by omega, hro, hca, by have := HZl.out; omega⟩
    have HF3 := Lib.hid (HF1.out.trans hfr)
    obtain ⟨j0, j1, j2, j3, j4, j5⟩ := HI1.out.frk hfr
    have HRC := Lib.hid hrc2
    have hzl := HZl.out
    have hz1' : Cz.length = 1 := by have := HC0.out; omega
    have HZ1 := Lib.hid hz1'
    clear i0 i1 i2 i3 i4 i5 hrc2 hro hca hfr hz1'
    generalize ((u1.alloc (.cells #[.int .i64 z] 3)).alloc (.cells (#[.int .i64 z] ++ zs) 3)).drew = w' at *
    clear hzl
    go_wp2_with (go_at_call 75; refine (HER.out _).mono ?_; rintro e u4 ⟨rfl, f4⟩; have HF4 := Lib.hid (HF3.out.trans f4); have HR4 := Lib.hid (HRC.out.fr f4); clear f4)
    (all_goals first | (exfalso; omega) | skip)
    (all_goals (go_ret; exact ⟨_, _, by rw [HZ1.out]; rfl, (HR4.out.mono (Nat.le_succ _)).vc.vo, HF4.out⟩))
theorem impl_callsAfter (C : List Int) (aC : Option Addr) (cC : Nat) (pc k d a b f n : Int) (w : World) (h : Src w C.length (ivl C) aC) (hl : C.length ≤ 4) (p0 : 0 ≤ pc) (p1 : pc < 65536) :
    Calls Tryd.prog 49 #[.slice aC C.length cC, .int .i64 pc, .agg #[.int .i64 k, .int .i64 d, .int .i64 a, .int .i64 b, .int .i64 f, .int .i64 n]] w (CaP (seenC C pc k d) w) := by
  by_cases hk7 : k = 7
  · by_cases hd : 0 < d
    · rw [show seenC C pc k d = (C ++ [(pc + 1) % 65536]).drop (C.length + 1 - 4) by unfold seenC; rw [if_pos ⟨hk7, hd⟩]]
      by_cases h0 : 0 < C.length
      · by_cases h3 : C.length ≤ 3
        · rw [show C.length + 1 - 4 = 0 by omega, List.drop_zero]
          exact callsAfter_a7 C aC cC pc k d a b f n w h hl p0 p1 hk7 hd _ rfl _ rfl h0 h3
        · rw [show C.length + 1 - 4 = 1 by omega]
          exact callsAfter_d7 C aC cC pc k d a b f n w h hl p0 p1 hk7 hd _ rfl _ rfl h0 (by omega) _ rfl
      · rw [show C.length + 1 - 4 = 0 by omega, List.drop_zero]
        exact callsAfter_z7 C aC cC pc k d a b f n w h hl p0 p1 hk7 hd _ rfl _ rfl (by omega)
    · rw [show seenC C pc k d = C by unfold seenC; rw [if_neg (by omega), if_neg (by omega)]]
      exact callsAfter_o7 C aC cC pc k d a b f n w h hl p0 p1 hk7 hd
  · by_cases hr : k = 8 ∧ d = 0
    · by_cases h0 : 0 < C.length
      · rw [show seenC C pc k d = C.take (C.length - 1) by unfold seenC; rw [if_neg (by omega), if_pos ⟨hr.1, hr.2, h0⟩]]
        exact callsAfter_b8 C aC cC pc k d a b f n w h hl p0 p1 hr.1 hr.2 h0 _ rfl
      · rw [show seenC C pc k d = C by unfold seenC; rw [if_neg (by omega), if_neg (by omega)]]
        exact callsAfter_oz C aC cC pc k d a b f n w h hl p0 p1 hr.1 hr.2 (by omega)
    · rw [show seenC C pc k d = C by unfold seenC; rw [if_neg (by omega), if_neg (by omega)]]
      exact callsAfter_oo C aC cC pc k d a b f n w h hl p0 p1 (by simpa using hk7) hr

end Go.Proofs.YtpdlcjjmhcfkjaaDoor
