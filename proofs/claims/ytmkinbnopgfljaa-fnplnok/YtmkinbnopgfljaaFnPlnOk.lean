/- For every code (any bytes), law FnPlnOk returns true and its argument reads as before (no condition). -/
import Derived.Test.YtmkinbnopgfljaaRows
import Derived.Test.YtmkinbnopgfljaaPl2
import Derived.Test.YtmkinbnopgfljaaPl8
import Derived.Test.YtmkinbnopgfljaaPk
import Derived.Test.YtmkinbnopgfljaaDrawPd
import Derived.WalkKit
import Derived.ProofKit
import Derived.OpenShut
import Derived.ShutString
import Derived.ChangeOld
import Derived.Below
namespace Go.Proofs.Ytmkinbnopgfljaa.fnPlnOk
open Go.ChangeShapes Go.WideShapes Go.ChangeAt Go.RowKit
set_option linter.unusedVariables false
set_option linter.unusedSimpArgs false

theorem own : ownKnob Try.prog.godebug = none := by kernel_rfl
theorem laidOut : laidOutB Try.prog = true := by kernel_rfl

def IsRow (k : IntKind) (w : World) (a : Option Addr) (len cap : Nat) (zs : List Int) : Prop :=
  (a = none ∧ len = 0 ∧ cap = 0 ∧ zs = []) ∨
  ∃ x, a = some x ∧ len ≤ cap ∧ cap ≤ maxLen ∧ zs.length = cap ∧ (∀ i, i < zs.length → w.cell? (x.add i) = some (.int k (zs.getD i 0))) ∧ ∀ n ∈ zs, (Lit.int k n).wf = true

set_option maxRecDepth 8000 in
set_option maxHeartbeats 4000000 in
theorem walk (a0 : Option Addr) (len0 cap0 : Nat) (z0 : List Int) (w : World) (w0 : IsRow .u8 w a0 len0 cap0 z0) :
    Calls Try.prog 4 #[.slice a0 len0 cap0] w fun e w' => e = .returned (.bool true) ∧ Below w.heap.size w w' := by
  obtain ⟨i0, hi, hz0, hz1, hz2⟩ := info_parts info_intV
  have hmx : maxLen = 9223372036854775807 := rfl
  have hc : Code1 w.heap.size w a0 len0 cap0 := by
    rcases w0 with ⟨rfl, rfl, rfl, rfl⟩ | ⟨x, rfl, hl, hm, hz, hcell, hwz⟩
    · exact ⟨Nat.le_refl _, Nat.le_refl _, Nat.zero_le _, .inl rfl, fun _ => rfl⟩
    · exact ⟨Nat.le_refl _, hl, hm, bytes_of_row hl hz hcell hwz, fun h => by cases h⟩
  clear w0 z0
  go_enter Try.func4, Try.ntmps4
  by_cases hl : len0 ≤ 1048576
  · have hl' : ¬ (1048576 : Int) < (len0 : Int) := by omega
    go_wp2_with fail
    refine (DrawPlnOk a0 len0 cap0 w hc).mono ?_
    rintro e u1 ⟨s, aR, aC, aM, cR, cC, cM, hf, rfl, hS, f1⟩
    have HS := Lib.hid (hS.fr (Fr.alloc u1 (.cells #[.int .i64 s.pc, .slice aR s.R.length cR, .slice aC s.C.length cC, .slice aM s.M.length cM] 26)))
    have HF := Lib.hid (Fr.trans f1 (Fr.alloc u1 (.cells #[.int .i64 s.pc, .slice aR s.R.length cR, .slice aC s.C.length cC, .slice aM s.M.length cM] 26)))
    have HX := Lib.hid (Box4.new u1 (.int .i64 s.pc) (.slice aR s.R.length cR) (.slice aC s.C.length cC) (.slice aM s.M.length cM) 26 _ rfl)
    clear hS f1 hc
    go_wp2_with fail
    generalize (u1.alloc (.cells #[.int .i64 s.pc, .slice aR s.R.length cR, .slice aC s.C.length cC, .slice aM s.M.length cM] 26)) = u2 at *
    generalize u1.heap.size = X at *
    refine (impl_PlnOk s aR aC aM cR cC cM u2 HS.out hf.few).mono ?_
    rintro e u3 ⟨rfl, f3⟩
    have HS3 := Lib.hid (HS.out.fr f3)
    have HF3 := Lib.hid (Fr.trans HF.out f3)
    have HX3 := Lib.hid (HX.out.fr f3)
    clear f3 HS HF HX
    obtain ⟨_, x0, x1, x2, x3, _, _, _, _⟩ := HX3.out
    go_wp2_with fail
    refine (spec_PlnOk s aR aC aM cR cC cM u3 HS3.out hf.few).mono ?_
    rintro e u4 ⟨rfl, f4⟩
    have HS4 := Lib.hid (HS3.out.fr f4)
    have HF4 := Lib.hid (Fr.trans HF3.out f4)
    have HX4 := Lib.hid (HX3.out.fr f4)
    clear f4 HS3 HF3 HX3 x0 x1 x2 x3
    have hq : (okS s != okS s) = false := by simp
    cases hk : okS s
    · rw [hk] at hq
      go_wp2_with (go_at_call 17; refine (laws_haOk _).mono ?_; rintro e w' ⟨rfl, rfl⟩)
      go_ret
      exact ⟨rfl, HF4.out⟩
    · rw [hk] at hq
      have HK := Lib.hid ((okS_iff s).1 hk)
      have l1 := HK.out.Rl
      have l2 := HK.out.Cl
      have l3 := HK.out.Ml
      clear hk
      obtain ⟨gr, or, rfl, ltr, hcr⟩ := HS4.out.R (by omega)
      obtain ⟨gm, om, rfl, ltm, hcm⟩ := HS4.out.M (by omega)
      have LR := Lib.hid l1
      have LC := Lib.hid l2
      have LM := Lib.hid l3
      rw [l1, l2, l3] at HX4
      rw [l1] at hcr
      rw [l3] at hcm
      have HCR := Lib.hid hcr
      have HCM := Lib.hid hcm
      have hlX := HX4.out.lt
      have n1 : ¬ X = u4.heap.size := by omega
      have n2 : ¬ u4.heap.size = X := by omega
      have n3 : ¬ X = u4.heap.size + 1 := by omega
      have n4 : ¬ u4.heap.size + 1 = X := by omega
      have n5 : ¬ X = u4.heap.size + 2 := by omega
      have n6 : ¬ u4.heap.size + 2 = X := by omega
      clear l1 l2 l3 hcr hcm
      obtain ⟨_, x0, x1, x2, x3, _, _, _, _⟩ := HX4.out
      have n7 : ¬ X = u4.heap.size + 1 + 1 := by omega
      have n8 : ¬ u4.heap.size + 1 + 1 = X := by omega
      have n9 : ¬ X = u4.heap.size + 1 + 1 + 1 := by omega
      have n10 : ¬ u4.heap.size + 1 + 1 + 1 = X := by omega
      obtain ⟨ox, cx, hr1, hr1', xs, hxl, hxs⟩ := slice_cut s.R gr or 8 7 cR LR.out rfl u4 HCR.out (by omega)
      obtain ⟨om', cm', hr2, hr2', ms, hml, hms⟩ := slice_cut s.M gm om 256 255 cM LM.out rfl u4 HCM.out (by omega)
      have HXS := Lib.hid (show Src u4 xs.length (ivl xs) (some ⟨gr, ox, none⟩) from src_off (by omega) (by rw [hxl]; exact hxs))
      have HMS := Lib.hid (show Src u4 ms.length (ivl ms) (some ⟨gm, om', none⟩) from src_off (by omega) (by rw [hml]; exact hms))
      have HXL := Lib.hid hxl
      have HXR := Lib.hid hxs
      have HML := Lib.hid hml
      clear hxs hms hxl hml
      have HFW := Lib.hid hf.few
      clear hf
      go_upto_region 14 with fail
      refine wp_gen (fun t => Fr u4 t ∧ Box4 t X (.int .i64 s.pc) (.slice (some ⟨gr, or, none⟩) 8 cR) (.slice aC 5 cC) (.slice (some ⟨gm, om, none⟩) 256 cM)
        ∧ Box4 t u4.heap.size (.int .i64 s.pc) (.slice (some ⟨gr, ox, none⟩) 7 cx) (.slice aC 5 cC) (.slice (some ⟨gm, om, none⟩) 256 cM)
        ∧ Box4 t (u4.heap.size + 1) (.int .i64 s.pc) (.slice (some ⟨gr, or, none⟩) 8 cR) (.slice aC 5 cC) (.slice (some ⟨gm, om', none⟩) 255 cm')
        ∧ Box4 t (u4.heap.size + 2) (.int .i64 s.pc) (.slice (some ⟨gr, or, none⟩) 8 cR) (.slice aC 5 cC) (.slice (some ⟨gm, om, none⟩) 256 cM) ∧ t.heap.size = u4.heap.size + 3) ⟨?_, ?_, ?_, ?_, ?_, ?_⟩ ?_
      · (repeat' first | (with_reducible exact Below.refl _ _) | (with_reducible assumption) | ((with_reducible refine Below.setCell ?_ ?hb _); (case hb => first | exact Nat.le_refl _ | (simp; done) | (simp; omega) | omega)) | ((with_reducible refine Below.alloc ?_ ?hb _); (case hb => first | exact Nat.le_refl _ | (simp; done) | (simp; omega) | omega)) | (with_reducible refine Below.drew ?_))
      · exact ((HX4.out.alloc _).alloc _).alloc _
      · (repeat (first | (with_reducible assumption) | (with_reducible exact Box4.new _ _ _ _ _ _ _ (by first | rfl | simp | (simp; omega))) | (with_reducible refine Box4.alloc ?_ _) | (with_reducible refine Box4.drew ?_) | (with_reducible refine Box4.drewN ?_ _) | (with_reducible refine Box4.other ?_ _ _ _ (by omega))))
      · (repeat (first | (with_reducible assumption) | (with_reducible exact Box4.new _ _ _ _ _ _ _ (by first | rfl | simp | (simp; omega))) | (with_reducible refine Box4.alloc ?_ _) | (with_reducible refine Box4.drew ?_) | (with_reducible refine Box4.drewN ?_ _) | (with_reducible refine Box4.other ?_ _ _ _ (by omega))))
      · (repeat (first | (with_reducible assumption) | (with_reducible exact Box4.new _ _ _ _ _ _ _ (by first | rfl | simp | (simp; omega))) | (with_reducible refine Box4.alloc ?_ _) | (with_reducible refine Box4.drew ?_) | (with_reducible refine Box4.drewN ?_ _) | (with_reducible refine Box4.other ?_ _ _ _ (by omega))))
      · simp
      rintro t ⟨tf, tx, t5, t6, t7, tz⟩
      have HTF := Lib.hid tf
      have HT5 := Lib.hid t5
      have HT6 := Lib.hid t6
      have HT7 := Lib.hid t7
      have hgt : gr < t.heap.size := by omega
      have hxt := tx.lt
      have p1 : ¬ X = t.heap.size := by omega
      have p2 : ¬ t.heap.size = X := by omega
      have hts : u4.heap.size + 3 ≤ t.heap.size := by omega
      clear tf t5 t6 t7 x0 x1 x2 x3 HX4 tz
      obtain ⟨_, x0, x1, x2, x3, _, _, _, _⟩ := tx
      go_upto_region 15 with (at_builtin; refine wpList_append_own_at _ rfl _ _ 22 rfl t.heap.size 3 i0 (.int .i64 0) 1 8 Try.underlying22 hi hz0 hz1 hz2 rfl (by decide) (.slice (some ⟨t.heap.size, 0, none⟩) 1 1) 1 [.int .i64 1] rfl (own_one t 1 _ rfl) ⟨gr, ox, none⟩ 7 cx (xs.map (Value.int .i64)) rfl (by simp [HXL.out]) (cells_of xs (fun i hi => by rw [HXL.out] at hi; rw [(Fr.alloc t _).cell (p := ⟨gr, ox + i, none⟩) hgt, HTF.out.cell (p := ⟨gr, ox + i, none⟩) ltr]; exact HXR.out i hi)) (ints_one xs) (by unfold maxLen; omega) (by omega) (by simp) ?_; intro v' w' hown hg _ _; obtain ⟨ao, cp, rfl, hvc, hvb⟩ := own_vc hown; have HVC := Lib.hid hvc; have hgB := but_row hg; have HGB := Lib.hid (show But [t.heap.size] (t.alloc (.cells #[.int .i64 1] 3)) w' from hgB); have HT7a := Lib.hid ((HT7.out.alloc (.cells #[.int .i64 1] 3)).but HGB.out (by have := HT7.out.lt; simp; omega)); have HVB := Lib.hid hvb; clear hown hg hvc hgB hvb; obtain ⟨_, y0, y1, y2, y3, z0, z1, z2, z3⟩ := HT7a.out)
      have F5 := Lib.hid (Fr.alloc t (.cells #[.int .i64 1] 3))
      have HFA := Lib.hid (show Fr t w' from fr_but (Fr.alloc t (.cells #[.int .i64 1] 3)) HGB.out (fun k hk => by simp at hk; omega))
      have l5 := HT5.out.lt
      have l6 := HT6.out.lt
      have l7 := HT7.out.lt
      refine wp_gen (fun v => Fr u4 v ∧ Src v 8 (ivl (1 :: xs)) ao ∧ Box4 v u4.heap.size (.int .i64 s.pc) (.slice (some ⟨gr, ox, none⟩) 7 cx) (.slice aC 5 cC) (.slice (some ⟨gm, om, none⟩) 256 cM) ∧ Box4 v (u4.heap.size + 1) (.int .i64 s.pc) (.slice (some ⟨gr, or, none⟩) 8 cR) (.slice aC 5 cC) (.slice (some ⟨gm, om', none⟩) 255 cm') ∧ Box4 v (u4.heap.size + 2) (.int .i64 s.pc) (.slice ao 8 cp) (.slice aC 5 cC) (.slice (some ⟨gm, om, none⟩) 256 cM)) ⟨?_, ?_, ?_, ?_, ?_⟩ ?_
      · exact fr_but (Fr.trans HTF.out HFA.out) ((But.refl [u4.heap.size + 2] _).set (u4.heap.size + 2) _ _ (.inl (by simp))) (fun k hk => by simp at hk; omega)
      · have hv := HVC.out.cong (c' := ivl (1 :: xs)) (fun i hi => by
          rcases i with _ | i
          · simp [ivl]
          · simp [ivl, List.getD_eq_getElem?_getD])
        have hv2 := hv.but (L := [u4.heap.size + 2]) ((But.refl [u4.heap.size + 2] _).set (u4.heap.size + 2) 1 (.slice ao 8 cp) (.inl (by simp))) (fun b hb => by have := HVB.out b hb; simp; omega)
        exact hv2.src
      · exact (HT5.out.fr HFA.out).other _ _ _ (by omega)
      · exact (HT6.out.fr HFA.out).other _ _ _ (by omega)
      · exact HT7a.out.set1 _
      rintro v ⟨vf, vs, v5, v6, v7⟩
      have E5 := fun (u : World) (f : Fr u4 u) => impl_PlnOk ⟨s.pc, xs, s.C, s.M⟩ (some ⟨gr, ox, none⟩) aC (some ⟨gm, om, none⟩) cx cC cM u ⟨HXS.out.fr f, HS4.out.C.fr f, HS4.out.M.fr f⟩ ⟨by rw [show (St.mk s.pc xs s.C s.M).R = xs from rfl, HXL.out]; omega, HFW.out.C, HFW.out.M⟩
      have E6 := fun (u : World) (f : Fr u4 u) => impl_PlnOk ⟨s.pc, s.R, s.C, ms⟩ (some ⟨gr, or, none⟩) aC (some ⟨gm, om', none⟩) cR cC cm' u ⟨HS4.out.R.fr f, HS4.out.C.fr f, HMS.out.fr f⟩ ⟨HFW.out.R, HFW.out.C, by rw [show (St.mk s.pc s.R s.C ms).M = ms from rfl, HML.out]; omega⟩
      have E7 := fun (u : World) (f : Fr u4 u) (hs : Src u (1 :: xs).length (ivl (1 :: xs)) ao) => impl_PlnOk ⟨s.pc, 1 :: xs, s.C, s.M⟩ ao aC (some ⟨gm, om, none⟩) cp cC cM u ⟨hs, HS4.out.C.fr f, HS4.out.M.fr f⟩ ⟨by rw [show (St.mk s.pc (1 :: xs) s.C s.M).R = 1 :: xs from rfl, List.length_cons, HXL.out]; omega, HFW.out.C, HFW.out.M⟩
      rw [okS_short (s := ⟨s.pc, xs, s.C, s.M⟩) (.inl (by rw [show (St.mk s.pc xs s.C s.M).R = xs from rfl, HXL.out]; decide))] at E5
      rw [okS_short (s := ⟨s.pc, s.R, s.C, ms⟩) (.inr (.inl (by rw [show (St.mk s.pc s.R s.C ms).M = ms from rfl, HML.out]; decide)))] at E6
      rw [okS_short (s := ⟨s.pc, 1 :: xs, s.C, s.M⟩) (.inr (.inr (by simp)))] at E7
      simp only [List.length_cons, HXL.out, HML.out, LR.out, LC.out, LM.out] at E5 E6 E7
      have G5 := Lib.hid E5
      have G6 := Lib.hid E6
      have G7 := Lib.hid E7
      have HVF := Lib.hid vf
      have HVS := Lib.hid vs
      have HV6 := Lib.hid v6
      have HV7 := Lib.hid v7
      clear vf vs v6 v7 E5 E6 E7 x0 x1 x2 x3 y0 y1 y2 y3 z0 z1 z2 z3
      obtain ⟨_, a0', a1, a2, a3, _, _, _, _⟩ := v5
      go_wp2_with fail
      refine (G5.out v HVF.out).mono ?_
      rintro e u5 ⟨rfl, g5⟩
      have HF5 := Lib.hid (Fr.trans HVF.out g5)
      have H6 := Lib.hid (HV6.out.fr g5)
      have H7 := Lib.hid (HV7.out.fr g5)
      have HS5 := Lib.hid (HVS.out.fr g5)
      clear g5 a0' a1 a2 a3
      obtain ⟨_, b0, b1, b2, b3, _, _, _, _⟩ := H6.out
      go_wp2_with fail
      refine (G6.out u5 HF5.out).mono ?_
      rintro e u6 ⟨rfl, g6⟩
      have HF6 := Lib.hid (Fr.trans HF5.out g6)
      have H8 := Lib.hid (H7.out.fr g6)
      have HS6 := Lib.hid (HS5.out.fr g6)
      clear g6 b0 b1 b2 b3
      obtain ⟨_, b0, b1, b2, b3, _, _, _, _⟩ := H8.out
      go_wp2_with fail
      refine (G7.out u6 HF6.out HS6.out).mono ?_
      rintro e u7 ⟨rfl, g7⟩
      have HF7 := Lib.hid (Fr.trans HF4.out (Fr.trans HF6.out g7))
      clear g7
      go_wp2_with fail
      go_ret
      exact ⟨rfl, HF7.out⟩
  · go_wp2
    go_ret
    exact ⟨rfl, Below.refl _ _⟩

set_option maxRecDepth 100000 in
theorem lifted (os : Os) (started : os.Started) (H : Type) (enc : TypeId × Value → H) :
    ReturnsInHanded {} Try.checked os 4 .any (Rows.fnPlnOkSpec.pre6 enc Try.prog Try.f4 Rows.fnPlnOkRow.domain false) (Rows.fnPlnOkSpec.post enc Try.prog Try.f4 false true false false) := by
  refine returnsInHanded_of_change (C := Try.checked) own started (by kernel_rfl) Try.func4
    (ChangeSpec.witness6 (enc := enc) (C := Try.checked) false ⟨#[], #[.slice none 0 0], []⟩ 8 (by kernel_rfl) (by kernel_rfl) (by kernel_rfl) (by kernel_rfl)) ?_
  intro W base args ds gs before hval0 hW hcnd _
  have hval : ∀ (j : Nat) t v, Try.f4.params[j]? = some t → args[j]? = some v → Value.okWide Try.prog W .any base t v := hval0
  have hW' := hW
  obtain ⟨p, q, hA0, hV, rfl, hfz, hnd⟩ := hW
  have hA : DataW.TrodAll enc Try.prog W 0 (fun _ => true) true Try.f4.params.toList args.toList ds p := hA0
  rw [Try.params4] at hA hval
  obtain ⟨v0, vs0, d0, ds0, p0, q0, hargs, rfl, rfl, h0, r0⟩ := trodAll_cons hA
  obtain ⟨rfl, rfl, rfl⟩ := trodAll_nil r0
  obtain rfl : args = #[v0] := by cases args; simp_all
  obtain ⟨rfl, rfl⟩ := trodVars_none hV
  obtain ⟨a0, len0, cap0, rfl⟩ := okWide_slice Try.underlying32 (hval 0 32 v0 rfl rfl)
  have k0 := h0
  have lt0 : ∀ x ∈ p0, x.block < W.heap.size := by obtain ⟨m, hm⟩ := k0; exact DataW.trod_lt m _ _ _ hm
  obtain ⟨z0, w0⟩ : ∃ zs, IsRow .u8 W a0 len0 cap0 zs := by
    obtain ⟨fuel, hf⟩ := h0
    rcases open_ints Try.underlying32 Try.underlying5 (by kernel_rfl) hf with ⟨hcs, _⟩ | ⟨x, l, c, zs, hcs, _, hl, hm, hz, _, hcell, hwz⟩
    · simp [Value.cells] at hcs
      obtain ⟨rfl, rfl, rfl⟩ := hcs
      exact ⟨[], .inl ⟨rfl, rfl, rfl, rfl⟩⟩
    · simp [Value.cells] at hcs
      obtain ⟨rfl, rfl, rfl⟩ := hcs
      exact ⟨zs, .inr ⟨_, rfl, hl, hm, by simpa using hz, hcell, hwz⟩⟩
  clear hA0 hval0
  refine (walk a0 len0 cap0 z0 W w0).mono fun e W' ⟨he, bel⟩ => ?_
  subst he
  exact ⟨_, rfl, _, _, _, [], _, [], hW', trodAll_mk1 (shut_bool Try.underlying4 _), (trodAll_cons_mk (Below.trod laidOut (by kernel_rfl) (of_decide_eq_true (by kernel_rfl)) k0 bel lt0) trodAll_mk0), rfl, bel.frame _, fun h => by cases h⟩

theorem over : Rows.fnPlnOkRow.holds Try.pinned (OpenSpec.ofChange Rows.fnPlnOkSpec) :=
  OpenClaim.holds_of_wide 4 Try.f4 rfl rfl rfl rfl rfl rfl rfl ⟨rfl, rfl, rfl, rfl, rfl⟩ rfl rfl rfl rfl rfl (by kernel_rfl) Try.func4 (by kernel_rfl)
    (of_decide_eq_true (by kernel_rfl)) (by unfold Func.isWrapper; first | (rw [if_pos (by decide +kernel)]; kernel_rfl) | (rw [if_neg (by decide +kernel)]; exact ⟨rfl, rfl⟩))
    (fun os started H enc _ => lifted os started H enc)

/-- THE STATEMENT. -/
theorem proved : Rows.FnPlnOkSaid := over
#print axioms proved
end Go.Proofs.Ytmkinbnopgfljaa.fnPlnOk
