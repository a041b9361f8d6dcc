/- What the laws of chapter 5 call: rows of slots copied, compared, marked, held. -/
import Derived.Test.YtpdlcjjmhcfkjaaDoorGu3
import Derived.Test.YtpdlcjjmhcfkjaaDoorTx
namespace Go.Proofs.YtpdlcjjmhcfkjaaDoor
open Go.RowKit
set_option linter.unusedVariables false
set_option linter.unusedSimpArgs false
theorem laws_szSlotS (ao : Option Addr) (n cap : Nat) (left : Int) (w : World) (hn : n ≤ 9223372036854775807) (l0 : 0 ≤ left) (l1 : left ≤ 1048576) :
    Calls Tryd.prog 32 #[.slice ao n cap, .int .i64 left] w fun e w' => (∃ r : Int, e = .returned (.int .i64 r) ∧ ((0 ≤ r ∧ r + n = left) ∨ (r = -1 ∧ left < n))) ∧ w = w' := by
  have h1 : left - (n : Int) ≤ 9223372036854775807 := by omega
  have h2 : -9223372036854775808 ≤ left - (n : Int) := by omega
  by_cases hlt : left - (n : Int) < 0
  · go_enter Tryd.func32, Tryd.ntmps32
    go_wp2
    go_ret
    exact ⟨⟨-1, rfl, .inr ⟨rfl, by omega⟩⟩, rfl⟩
  · go_enter Tryd.func32, Tryd.ntmps32
    go_wp2
    go_ret
    exact ⟨⟨_, rfl, .inl ⟨by omega, by omega⟩⟩, rfl⟩
theorem laws_eqSlot_same (x : Sl) (w : World) : Calls Tryd.prog 78 #[slw x, slw x] w fun e w' => e = .returned (.bool true) ∧ Fr w w' := by
  obtain ⟨u, p, t, s⟩ := x
  have HF := Lib.hid (show Fr w ((w.alloc (.cells #[.bool u, .int .i64 p, .int .i64 t, .int .i64 s] 51)).alloc (.cells #[.bool u, .int .i64 p, .int .i64 t, .int .i64 s] 51)) by (repeat' first | (with_reducible exact Below.refl _ _) | (with_reducible assumption) | ((with_reducible refine Below.setCell ?_ ?hb _); (case hb => first | exact Nat.le_refl _ | (simp; done) | (simp; omega) | omega)) | ((with_reducible refine Below.alloc ?_ ?hb _); (case hb => first | exact Nat.le_refl _ | (simp; done) | (simp; omega) | omega)) | (with_reducible refine Below.drew ?_)))
  go_enter Tryd.func78, Tryd.ntmps78
  go_wp2
  all_goals (go_ret; exact ⟨rfl, HF.out⟩)
theorem laws_toSlot (x : Sl) (w : World) : Calls Tryd.prog 74 #[slw x] w fun e w' => e = .returned (slw x) ∧ Fr w w' := by
  obtain ⟨u, p, t, s⟩ := x
  go_enter Tryd.func74, Tryd.ntmps74
  go_wp2
  refine bodyPost_ret (v := slw ⟨u, p, t, s⟩) (by simp [results, Tryd.results74, go_sem]) rfl ⟨rfl, ?_⟩
  (repeat' first | (with_reducible exact Below.refl _ _) | (with_reducible assumption) | ((with_reducible refine Below.setCell ?_ ?hb _); (case hb => first | exact Nat.le_refl _ | (simp; done) | (simp; omega) | omega)) | ((with_reducible refine Below.alloc ?_ ?hb _); (case hb => first | exact Nat.le_refl _ | (simp; done) | (simp; omega) | omega)) | (with_reducible refine Below.drew ?_))
theorem made_slotsN (n : Nat) : (madeCells (slw sl0).cells (n * 4)).toList = cls (List.replicate n sl0) := by
  apply List.ext_getElem?
  intro i
  by_cases hi : i < 4 * n
  · obtain ⟨q, r, rfl, hr⟩ : ∃ q r, i = 4 * q + r ∧ r < 4 := ⟨i / 4, i % 4, by omega, by omega⟩
    have hc := cls_at (List.replicate n sl0) q (by simp; omega)
    rw [show (List.replicate n sl0).getD q sl0 = sl0 by simp only [List.getD_eq_getElem?_getD, List.getElem?_replicate]; split <;> rfl] at hc
    have hq : (4 * q + r) % 4 = r := by omega
    rcases r with _ | _ | _ | _ | r
    · rw [Nat.add_zero, hc.1]; simp [madeCells, Value.cells, show 4 * q < n * 4 by omega]
    · rw [hc.2.1]; simp [madeCells, Value.cells, show 4 * q + 1 < n * 4 by omega, hq]
    · rw [hc.2.2.1]; simp [madeCells, Value.cells, show 4 * q + 2 < n * 4 by omega, hq]
    · rw [hc.2.2.2]; simp [madeCells, Value.cells, show 4 * q + 3 < n * 4 by omega, hq]
    · omega
  · rw [List.getElem?_eq_none (by simp [madeCells]; omega), List.getElem?_eq_none (by rw [cls_len]; simp; omega)]
theorem list_of {L S : List Sl} (hl : L.length = S.length) (h : ∀ i, i < S.length → L.getD i sl0 = S.getD i sl0) : L = S := by
  apply List.ext_getElem hl
  intro i h1 h2
  have := h i h2
  simpa [List.getD_eq_getElem?_getD, List.getElem?_eq_getElem h1, List.getElem?_eq_getElem h2] using this
set_option maxRecDepth 4000 in
set_option maxHeartbeats 2000000 in
theorem laws_toSlotS (w : World) (S : List Sl) (ao : Option Addr) (cap : Nat) (h : Src4 w S ao) (hn : S.length ≤ 1048576) :
    Calls Tryd.prog 35 #[.slice ao S.length cap] w fun e w' => ∃ g, e = .returned (.slice (some ⟨g, 0, none⟩) S.length S.length) ∧ w.heap.size ≤ g ∧ Ro4 w' g S ∧ Fr w w' := by
  obtain ⟨i0, hi, hz0, hz1, hz2⟩ := info_partsN info_slotV
  have hmx : maxLen = 9223372036854775807 := rfl
  have HS := Lib.hid h
  obtain ⟨n, hN⟩ : ∃ n, S.length = n := ⟨_, rfl⟩
  rw [hN] at hn ⊢
  have HN := Lib.hid hN
  clear h hN
  go_enter Tryd.func35, Tryd.ntmps35
  go_wp2_with (at_make; refine wpList_make_full _ rfl _ _ 28 rfl w.heap.size 51 i0 (slw sl0) 4 Tryd.underlying28 hi hz0 hz1 .i64 .i64 (n : Int) (n : Int) n rfl rfl rfl rfl (by rw [hz2]; omega) (by omega) (Nat.le_refl _) ?_; intro w1 hown hg)
  rw [made_slotsN] at hown
  have hR := (ro4_own hown).1
  have F1 := grown_fr hg
  have HP0 := Lib.hid hR
  have HF1 := Lib.hid F1
  clear hown hg hR F1
  go_loopw [4] (fun i wr => ∃ (p : Nat) (L : List Sl), p ≤ n ∧ i = .int .i64 p ∧ L.length = n ∧ (∀ i, i < p → L.getD i sl0 = S.getD i sl0) ∧ Ro4 wr w.heap.size L ∧ Fr w wr) (fun i _ => n - (intOf i).toNat)
  case atStart => exact ⟨0, List.replicate n sl0, Nat.zero_le _, rfl, by simp, fun i hi => absurd hi (Nat.not_lt_zero _), HP0.out, HF1.out⟩
  case round =>
    obtain ⟨p, L, hp, rfl, hLl, hLe, hR, hF⟩ := hrel
    have HLl := Lib.hid hLl
    have HLe := Lib.hid hLe
    have HR := Lib.hid hR
    have HF := Lib.hid hF
    have hsz := hF.size
    have hgl := hR.lt
    clear hLl hLe hR hF HP0 HF1
    by_cases hlt : p < n
    · obtain ⟨g, o, rfl, hgl0, hc⟩ := HS.out (by rw [HN.out]; omega)
      have hsl := slot_at (range_fr hc HF.out hgl0) p (by rw [HN.out]; exact hlt)
      obtain ⟨x, hx⟩ : ∃ x, x = S.getD p sl0 := ⟨_, rfl⟩
      rw [← hx] at hsl
      have HX := Lib.hid hx
      obtain ⟨d0, d1, d2, d3⟩ := hsl
      have hlt' : (p : Int) < (n : Int) := by omega
      have E := fun u => laws_toSlot x u
      have HE := Lib.hid E
      clear hc hx E
      obtain ⟨xu, xp, xt, xs⟩ := x
      simp only at d0 d1 d2 d3
      go_wp2_with fail
      refine (HE.out _).mono ?_
      rintro e u1 ⟨rfl, f1⟩
      have hR1 := HR.out.fr f1
      have HT := Lib.hid (hR1.there4 p (by rw [HLl.out]; exact hlt))
      have hb2 : But [w.heap.size] u1 (u1.setCells w.heap.size (p * 4) (slc ⟨xu, xp, xt, xs⟩)) := But.setCells _ (.inl (by simp)) _ _ _ (But.refl _ _)
      have hR2 := hR1.setS p ⟨xu, xp, xt, xs⟩ (by rw [HLl.out]; exact hlt)
      have hF2 : Fr w _ := fr_but (HF.out.trans f1) hb2 (fun k hk => by have := List.mem_singleton.1 hk; omega)
      obtain ⟨u2, hu2⟩ : ∃ u2, u1.setCells w.heap.size (p * 4) (slc ⟨xu, xp, xt, xs⟩) = u2 := ⟨_, rfl⟩
      rw [hu2] at hR2 hF2
      have HU2 := Lib.hid hu2
      have HR2 := Lib.hid hR2
      have HF2 := Lib.hid hF2
      clear hR1 hb2 hR2 hF2 hu2 f1 d0 d1 d2 d3 HR HF
      go_wp2_with (refine wpList_store_slot rfl _ _ rfl w.heap.size (p * 4) ⟨xu, xp, xt, xs⟩ rfl rfl HT.out u2 HU2.out ?_)
      go_roundw
      case rel =>
        refine ⟨p + 1, L.set p ⟨xu, xp, xt, xs⟩, by omega, by go_num, by rw [List.length_set]; exact HLl.out, fun i hi => ?_, HR2.out, HF2.out⟩
        rw [getD_setL]
        by_cases e : p = i
        · subst e
          rw [if_pos ⟨rfl, by rw [HLl.out]; exact hlt⟩]
          exact HX.out
        · rw [if_neg (fun h => e h.1)]
          exact HLe.out i (by omega)
      case measure => simp [intOf]; omega
    · have hge : ¬ (p : Int) < (n : Int) := by omega
      have e : p = n := by omega
      subst e
      go_wp2
      go_ret
      refine ⟨_, rfl, Nat.le_refl _, ?_, HF.out⟩
      have hLS := list_of (L := L) (S := S) (by rw [HLl.out, HN.out]) (fun i hi => HLe.out i (by rw [← HN.out]; exact hi))
      rw [← hLS]
      exact HR.out
set_option maxRecDepth 8000 in
set_option maxHeartbeats 2000000 in
theorem laws_eqSlotS_same (w : World) (S : List Sl) (ao1 ao2 : Option Addr) (c1 c2 : Nat) (h1 : Src4 w S ao1) (h2 : Src4 w S ao2) (hn : S.length ≤ 1048576) :
    Calls Tryd.prog 44 #[.slice ao1 S.length c1, .slice ao2 S.length c2] w fun e w' => e = .returned (.bool true) ∧ Fr w w' := by
  have HS1 := Lib.hid h1
  have HS2 := Lib.hid h2
  obtain ⟨n, hN⟩ : ∃ n, S.length = n := ⟨_, rfl⟩
  rw [hN] at hn ⊢
  have HN := Lib.hid hN
  clear h1 h2 hN
  go_enter Tryd.func44, Tryd.ntmps44
  go_wp2_with fail
  go_loopw [5] (fun i wr => ∃ p : Nat, p ≤ n ∧ i = .int .i64 p ∧ Fr w wr) (fun i _ => n - (intOf i).toNat)
  case atStart => exact ⟨0, Nat.zero_le _, rfl, Below.refl _ _⟩
  case round =>
    obtain ⟨p, hp, rfl, hF⟩ := hrel
    have HW : Hid (Fr w wr) := Lib.hid hF
    clear hF
    by_cases hlt : p < n
    · obtain ⟨g1, o1, rfl, hg1, hc1⟩ := HS1.out (by rw [HN.out]; omega)
      obtain ⟨g2, o2, rfl, hg2, hc2⟩ := HS2.out (by rw [HN.out]; omega)
      have D1 := fun u (f : Fr wr u) => slot_at (range_fr hc1 (HW.out.trans f) hg1) p (by rw [HN.out]; exact hlt)
      have D2 := fun u (f : Fr wr u) => slot_at (range_fr hc2 (HW.out.trans f) hg2) p (by rw [HN.out]; exact hlt)
      obtain ⟨x, hx⟩ : ∃ x, x = S.getD p sl0 := ⟨_, rfl⟩
      rw [← hx] at D1 D2
      obtain ⟨xu, xp, xt, xs⟩ := x
      simp only at D1 D2
      have HD1 := Lib.hid D1
      have HD2 := Lib.hid D2
      have hlt' : (p : Int) < (n : Int) := by omega
      clear hc1 hc2 hx D1 D2 HS1 HS2
      go_wp2_with fail
      refine wp_region_plan 0 27 (fun _ u => Fr wr u) (fun i v _ => v = ([.slice (some ⟨g1, o1, none⟩) n c1, .int .i64 p, .pointer (some ⟨g1, o1 + p * 4, none⟩), slw ⟨xu, xp, xt, xs⟩, .slice (some ⟨g2, o2, none⟩) n c2, .int .i64 p, .pointer (some ⟨g2, o2 + p * 4, none⟩), slw ⟨xu, xp, xt, xs⟩, .bool true, .bool false] : List Value).getD i undef) (by kernel_rfl) (by kernel_rfl) rfl (by kernel_rfl) (fun _ _ _ _ h _ => h) (Below.drew (Below.refl _ _)) ?step ?fin
      case step =>
        intro i o ho
        rcases i with _ | _ | _ | _ | _ | _ | _ | _ | _ | _ | i
        · cases ho
          intro fu act u hW hsz hL hdep
          obtain ⟨ysl, ha, hy⟩ := hL.puts [17, 18, 19, 20, 21, 22, 23, 24, 25, 26] (by kernel_rfl)
          clear hdep hL hy
          simp only [List.foldl, List.setIfInBounds_toArray, List.set_cons_succ, List.set_cons_zero] at ha
          subst ha
          refine wpOp_step rfl (fun K hK => ?_)
          go_simp
          exact hK _ _ ⟨_, rfl, (by first | rfl | simp), grown_refl _ _, hW⟩
        · cases ho
          intro fu act u hW hsz hL hdep
          obtain ⟨ysl, ha, hy⟩ := hL.puts [17, 18, 19, 20, 21, 22, 23, 24, 25, 26] (by kernel_rfl)
          clear hdep hL hy
          simp only [List.foldl, List.setIfInBounds_toArray, List.set_cons_succ, List.set_cons_zero] at ha
          subst ha
          refine wpOp_step rfl (fun K hK => ?_)
          go_simp
          exact hK _ _ ⟨_, rfl, (by first | rfl | simp), grown_refl _ _, hW⟩
        · cases ho
          intro fu act u hW hsz hL hdep
          have d0 : _ = (.slice (some ⟨g1, o1, none⟩) n c1 : Value) := hdep { on := 0, ground := .data } (by simp) rfl _ rfl
          have d1 : _ = (.int .i64 p : Value) := hdep { on := 1, ground := .data } (by simp) rfl _ rfl
          obtain ⟨ysl, ha, hy⟩ := hL.puts [17, 18, 19, 20, 21, 22, 23, 24, 25, 26] (by kernel_rfl)
          have e0 : ysl 17 = (.slice (some ⟨g1, o1, none⟩) n c1 : Value) := (hy 17).symm.trans d0
          have e1 : ysl 18 = (.int .i64 p : Value) := (hy 18).symm.trans d1
          clear hdep hL hy d0 d1
          simp only [List.foldl, List.setIfInBounds_toArray, List.set_cons_succ, List.set_cons_zero, e0, e1] at ha
          subst ha
          clear e0 e1
          refine wpOp_step rfl (fun K hK => ?_)
          go_simp
          exact hK _ _ ⟨_, rfl, (by first | rfl | simp), grown_refl _ _, hW⟩
        · cases ho
          intro fu act u hW hsz hL hdep
          have d2 : _ = (.pointer (some ⟨g1, o1 + p * 4, none⟩) : Value) := hdep { on := 2, ground := .data } (by simp) rfl _ rfl
          obtain ⟨ysl, ha, hy⟩ := hL.puts [17, 18, 19, 20, 21, 22, 23, 24, 25, 26] (by kernel_rfl)
          have e2 : ysl 19 = (.pointer (some ⟨g1, o1 + p * 4, none⟩) : Value) := (hy 19).symm.trans d2
          clear hdep hL hy d2
          simp only [List.foldl, List.setIfInBounds_toArray, List.set_cons_succ, List.set_cons_zero, e2] at ha
          subst ha
          clear e2
          obtain ⟨d0, d1, d2, d3⟩ := HD1.out u hW
          refine wpOp_step rfl (fun K hK => ?_)
          go_simp
          exact hK _ _ ⟨_, rfl, (by first | rfl | simp), grown_refl _ _, hW⟩
        · cases ho
          intro fu act u hW hsz hL hdep
          obtain ⟨ysl, ha, hy⟩ := hL.puts [17, 18, 19, 20, 21, 22, 23, 24, 25, 26] (by kernel_rfl)
          clear hdep hL hy
          simp only [List.foldl, List.setIfInBounds_toArray, List.set_cons_succ, List.set_cons_zero] at ha
          subst ha
          refine wpOp_step rfl (fun K hK => ?_)
          go_simp
          exact hK _ _ ⟨_, rfl, (by first | rfl | simp), grown_refl _ _, hW⟩
        · cases ho
          intro fu act u hW hsz hL hdep
          obtain ⟨ysl, ha, hy⟩ := hL.puts [17, 18, 19, 20, 21, 22, 23, 24, 25, 26] (by kernel_rfl)
          clear hdep hL hy
          simp only [List.foldl, List.setIfInBounds_toArray, List.set_cons_succ, List.set_cons_zero] at ha
          subst ha
          refine wpOp_step rfl (fun K hK => ?_)
          go_simp
          exact hK _ _ ⟨_, rfl, (by first | rfl | simp), grown_refl _ _, hW⟩
        · cases ho
          intro fu act u hW hsz hL hdep
          have d4 : _ = (.slice (some ⟨g2, o2, none⟩) n c2 : Value) := hdep { on := 4, ground := .data } (by simp) rfl _ rfl
          have d5 : _ = (.int .i64 p : Value) := hdep { on := 5, ground := .data } (by simp) rfl _ rfl
          obtain ⟨ysl, ha, hy⟩ := hL.puts [17, 18, 19, 20, 21, 22, 23, 24, 25, 26] (by kernel_rfl)
          have e4 : ysl 21 = (.slice (some ⟨g2, o2, none⟩) n c2 : Value) := (hy 21).symm.trans d4
          have e5 : ysl 22 = (.int .i64 p : Value) := (hy 22).symm.trans d5
          clear hdep hL hy d4 d5
          simp only [List.foldl, List.setIfInBounds_toArray, List.set_cons_succ, List.set_cons_zero, e4, e5] at ha
          subst ha
          clear e4 e5
          refine wpOp_step rfl (fun K hK => ?_)
          go_simp
          exact hK _ _ ⟨_, rfl, (by first | rfl | simp), grown_refl _ _, hW⟩
        · cases ho
          intro fu act u hW hsz hL hdep
          have d6 : _ = (.pointer (some ⟨g2, o2 + p * 4, none⟩) : Value) := hdep { on := 6, ground := .data } (by simp) rfl _ rfl
          obtain ⟨ysl, ha, hy⟩ := hL.puts [17, 18, 19, 20, 21, 22, 23, 24, 25, 26] (by kernel_rfl)
          have e6 : ysl 23 = (.pointer (some ⟨g2, o2 + p * 4, none⟩) : Value) := (hy 23).symm.trans d6
          clear hdep hL hy d6
          simp only [List.foldl, List.setIfInBounds_toArray, List.set_cons_succ, List.set_cons_zero, e6] at ha
          subst ha
          clear e6
          obtain ⟨d0, d1, d2, d3⟩ := HD2.out u hW
          refine wpOp_step rfl (fun K hK => ?_)
          go_simp
          exact hK _ _ ⟨_, rfl, (by first | rfl | simp), grown_refl _ _, hW⟩
        · cases ho
          intro fu act u hW hsz hL hdep
          have d3 : _ = (slw ⟨xu, xp, xt, xs⟩ : Value) := hdep { on := 3, ground := .data } (by simp) rfl _ rfl
          have d7 : _ = (slw ⟨xu, xp, xt, xs⟩ : Value) := hdep { on := 7, ground := .data } (by simp) rfl _ rfl
          obtain ⟨ysl, ha, hy⟩ := hL.puts [17, 18, 19, 20, 21, 22, 23, 24, 25, 26] (by kernel_rfl)
          have e3 : ysl 20 = (slw ⟨xu, xp, xt, xs⟩ : Value) := (hy 20).symm.trans d3
          have e7 : ysl 24 = (slw ⟨xu, xp, xt, xs⟩ : Value) := (hy 24).symm.trans d7
          clear hdep hL hy d3 d7
          simp only [List.foldl, List.setIfInBounds_toArray, List.set_cons_succ, List.set_cons_zero, e3, e7] at ha
          subst ha
          clear e3 e7
          refine wpOp_step rfl (fun K hK => ?_)
          go_simp
          refine (laws_eqSlot_same ⟨xu, xp, xt, xs⟩ u).mono ?_
          rintro e u' ⟨rfl, fu2⟩
          go_simp
          exact hK _ _ ⟨_, rfl, (by first | rfl | simp), fr_grown fu2, Fr.trans hW fu2⟩
        · cases ho
          intro fu act u hW hsz hL hdep
          have d8 : _ = (.bool true : Value) := hdep { on := 8, ground := .data } (by simp) rfl _ rfl
          obtain ⟨ysl, ha, hy⟩ := hL.puts [17, 18, 19, 20, 21, 22, 23, 24, 25, 26] (by kernel_rfl)
          have e8 : ysl 25 = (.bool true : Value) := (hy 25).symm.trans d8
          clear hdep hL hy d8
          simp only [List.foldl, List.setIfInBounds_toArray, List.set_cons_succ, List.set_cons_zero, e8] at ha
          subst ha
          clear e8
          refine wpOp_step rfl (fun K hK => ?_)
          go_simp
          exact hK _ _ ⟨_, rfl, (by first | rfl | simp), grown_refl _ _, hW⟩
        · exact absurd ho (by simp)
      case fin =>
        intro fu act u hW hg hL hF
        have d9 : _ = (.bool false : Value) := hF 9 _ rfl
        obtain ⟨ysl, ha, hy⟩ := hL.puts [17, 18, 19, 20, 21, 22, 23, 24, 25, 26] (by kernel_rfl)
        have e9 : ysl 26 = (.bool false : Value) := (hy 26).symm.trans d9
        clear hL hF hy d9
        simp only [List.foldl, List.setIfInBounds_toArray, List.set_cons_succ, List.set_cons_zero, e9] at ha
        subst ha
        clear e9
        have hg2 : Fr wr u := hW
        have HG2 := Lib.hid (HW.out.trans hg2)
        clear hW hg hg2
        go_wp2_with fail
        go_roundw
        case rel => exact ⟨p + 1, by omega, by go_num, HG2.out⟩
        case measure => simp [intOf]; omega
    · have hge : ¬ (p : Int) < (n : Int) := by omega
      go_wp2
      go_ret
      exact ⟨rfl, HW.out⟩
/-- Marked slots. -/
def mkL (k : Int) (i : Nat) : Sl := ⟨(k + 4 * i) % 3 == 0, k + 4 * i + 1, k + 4 * i + 1 + 1, k + 4 * i + 1 + 1 + 1⟩
def mkS (k : Int) (n : Nat) : List Sl := (List.range n).map (mkL k)
theorem mkS_len (k : Int) (n : Nat) : (mkS k n).length = n := by simp [mkS]
theorem mkS_at (k : Int) (n i : Nat) (hi : i < n) : (mkS k n).getD i sl0 = mkL k i := by simp [mkS, List.getD_eq_getElem?_getD, hi]

end Go.Proofs.YtpdlcjjmhcfkjaaDoor
