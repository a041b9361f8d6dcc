/- For every cache, ChcAll of the program returns what ChcAll of the model returns, writes into no argument, and its answer owns its memory (no condition). -/
import Derived.Test.YtoacgjjpipdkjaaRows
import Derived.Test.YtoacgjjpipdkjaaK25
import Derived.Test.YtoacgjjpipdkjaaK36
import Derived.WalkKit
import Derived.ProofKit
import Derived.OpenShut
import Derived.ShutString
import Derived.ChangeOld
import Derived.Below
namespace Go.Proofs.Ytoacgjjpipdkjaa.fnExactChcAll
open Go.ChangeShapes Go.WideShapes Go.ChangeAt Go.RowKit
set_option linter.unusedVariables false
set_option linter.unusedSimpArgs false

theorem own : ownKnob Try.prog.godebug = none := by kernel_rfl
theorem laidOut : laidOutB Try.prog = true := by kernel_rfl

set_option maxRecDepth 8000 in
set_option maxHeartbeats 4000000 in
theorem walk (M0 : List Int) (X0 : List La) (aM0 aL0 : Option Addr) (cM0 cL0 : Nat) (w : World) (h0 : SrcC w M0 X0 aM0 aL0) (m0 : BigC M0 X0) (l0 : M0.length ≤ cM0) :
    Calls Try.prog 7 #[.agg #[.slice aM0 M0.length cM0, .slice aL0 X0.length cL0]] w fun e w' => e = .returned (.bool true) ∧ Below w.heap.size w w' := by
  have HS0 := Lib.hid h0
  have HB0 := Lib.hid m0
  have HF0 := Lib.hid (Fr.alloc w (.cells #[.slice aM0 M0.length cM0, .slice aL0 X0.length cL0] 25))
  have HA0 := Lib.hid (Box2.new w (.slice aM0 M0.length cM0) (.slice aL0 X0.length cL0) 25 _ rfl)
  clear h0 m0
  go_enter Try.func7, Try.ntmps7
  go_wp2_with fail
  generalize (w.alloc (.cells #[.slice aM0 M0.length cM0, .slice aL0 X0.length cL0] 25)) = u0 at *
  refine (laws_szChc M0 X0 aM0 aL0 cM0 cL0 1048576 u0 (HS0.out.fr HF0.out) HB0.out (by omega) (by omega)).mono ?_
  rintro e u1 ⟨⟨r, rfl, hr⟩, f1⟩
  rcases hr with ⟨r0, hn⟩ | rfl
  · have hr0 : ¬ r < 0 := by omega
    have HN := Lib.hid hn
    have FC := Lib.hid hn.few
    clear hn
    have F_1 := Lib.hid (HF0.out.trans f1)
    have HA_2 := Lib.hid (HA0.out.fr f1)
    clear HF0 HA0 f1 HB0
    have hl : (allA ⟨M0, lns X0⟩).length ≤ 256 := by
      unfold allA
      split
      · rw [allC_eq, lookN_len]; exact Nat.le_refl _
      · simp
    have HL := Lib.hid (show (allA ⟨M0, lns X0⟩).length ≤ 1048576 by omega)
    clear hl
    generalize ht : allA ⟨M0, lns X0⟩ = t at *
    obtain ⟨_, a0, a1, _, _⟩ := HA_2.out
    go_wp2_with fail
    clear a0 a1
    refine (laws_toChc M0 X0 aM0 aL0 cM0 cL0 _ (HS0.out.fr F_1.out) FC.out).mono ?_
    rintro e yw ⟨y1, y2, yY, rfl, yH, yV, yf⟩
    unfold caV
    have yl : yY.length = X0.length := by have e1 := congrArg List.length yH; simpa [lns] using e1
    have yE := Lib.hid yH
    have yB := yV.bl
    clear yH
    have F_3 := Lib.hid (Fr.trans F_1.out yf)
    have HA_3 := Lib.hid (HA_2.out.fr yf)
    clear F_1 HA_2
    have Vy_4 := Lib.hid (yV)
    have ys := yf.size
    clear yV yf
    go_wp2_with fail
    have yC := spec_ChcAll M0 yY (some ⟨y1, 0, none⟩) (some ⟨y2, 0, none⟩) M0.length X0.length yw Vy_4.out.src (few_lns HN.out yE.out.symm).few
    unfold caV at yC
    rw [yl, yE.out, ht] at yC
    refine yC.mono ?_
    rintro e ku ⟨ka, kc, rfl, kR, kf⟩
    clear yC
    have kV := kR.vc
    have kB := kV.bk
    have kz := kf.size
    clear Vy_4
    have F_5 := Lib.hid (Fr.trans F_3.out kf)
    have HA_5 := Lib.hid (HA_3.out.fr kf)
    clear F_3 HA_3
    have Vk_6 := Lib.hid (kV)
    clear kV kR kf
    obtain ⟨_, a0, a1, _, _⟩ := HA_5.out
    go_wp2_with fail
    clear a0 a1
    refine (laws_toChc M0 X0 aM0 aL0 cM0 cL0 _ (HS0.out.fr F_5.out) FC.out).mono ?_
    rintro e qw ⟨q1, q2, qY, rfl, qH, qV, qf⟩
    unfold caV
    have ql : qY.length = X0.length := by have e1 := congrArg List.length qH; simpa [lns] using e1
    have qE := Lib.hid qH
    have qB := qV.bl
    clear qH
    have F_7 := Lib.hid (Fr.trans F_5.out qf)
    have HA_7 := Lib.hid (HA_5.out.fr qf)
    have Vk_7 := Lib.hid (Vk_6.out.fr qf)
    clear F_5 HA_5 Vk_6
    have HV_8 := Lib.hid (qV)
    have qs := qf.size
    clear qV qf
    go_wp2_with fail
    have F_9 := Lib.hid (Fr.trans F_7.out (Fr.alloc qw (.cells #[.slice (some ⟨q1, 0, none⟩) M0.length M0.length, .slice (some ⟨q2, 0, none⟩) X0.length X0.length] 30)))
    have HA_9 := Lib.hid (HA_7.out.fr (Fr.alloc qw (.cells #[.slice (some ⟨q1, 0, none⟩) M0.length M0.length, .slice (some ⟨q2, 0, none⟩) X0.length X0.length] 30)))
    have Vk_9 := Lib.hid (Vk_7.out.fr (Fr.alloc qw (.cells #[.slice (some ⟨q1, 0, none⟩) M0.length M0.length, .slice (some ⟨q2, 0, none⟩) X0.length X0.length] 30)))
    have HV_9 := Lib.hid (HV_8.out.fr (Fr.alloc qw (.cells #[.slice (some ⟨q1, 0, none⟩) M0.length M0.length, .slice (some ⟨q2, 0, none⟩) X0.length X0.length] 30)))
    clear F_7 HA_7 Vk_7 HV_8
    have HX_10 := Lib.hid (Box2.new qw (.slice (some ⟨q1, 0, none⟩) M0.length M0.length) (.slice (some ⟨q2, 0, none⟩) X0.length X0.length) 30 _ rfl)
    have v2s : qw.heap.size < (qw.alloc (.cells #[.slice (some ⟨q1, 0, none⟩) M0.length M0.length, .slice (some ⟨q2, 0, none⟩) X0.length X0.length] 30)).heap.size := by simp
    generalize (qw.alloc (.cells #[.slice (some ⟨q1, 0, none⟩) M0.length M0.length, .slice (some ⟨q2, 0, none⟩) X0.length X0.length] 30)) = v2 at *
    have qC := impl_ChcAll M0 qY (some ⟨q1, 0, none⟩) (some ⟨q2, 0, none⟩) M0.length X0.length v2 HV_9.out.src (few_lns HN.out qE.out.symm).few (Nat.le_refl _)
    unfold caV at qC
    rw [ql, qE.out, ht] at qC
    refine qC.mono ?_
    rintro e gu ⟨ga, gc, rfl, gR, gf⟩
    clear qC
    have gV := gR.vc
    have gB := gV.bk
    have gz := gf.size
    have F_11 := Lib.hid (Fr.trans F_9.out gf)
    have HA_11 := Lib.hid (HA_9.out.fr gf)
    have Vk_11 := Lib.hid (Vk_9.out.fr gf)
    have HV_11 := Lib.hid (HV_9.out.fr gf)
    have HX_11 := Lib.hid (HX_10.out.fr gf)
    clear F_9 HA_9 Vk_9 HV_9 HX_10
    have Vg_12 := Lib.hid (gV)
    clear gV gR gf
    go_wp2_with fail
    refine (laws_eqIntS_same _ _ _ t.length (fun i => t.getD i 0) _ _ _ _ Vg_12.out Vk_11.out HL.out).mono ?_
    rintro e v4 ⟨rfl, v4m, v4h⟩
    have v4f := (show Fr _ v4 by rw [← v4h]; exact Below.drewN (Below.refl _ _) _)
    have v4s := v4f.size
    clear v4h
    have F_13 := Lib.hid (Fr.trans F_11.out v4f)
    have HA_13 := Lib.hid (HA_11.out.fr v4f)
    have Vk_13 := Lib.hid (Vk_11.out.fr v4f)
    have HV_13 := Lib.hid (HV_11.out.fr v4f)
    have HX_13 := Lib.hid (HX_11.out.fr v4f)
    have Vg_13 := Lib.hid (Vg_12.out.fr v4f)
    clear F_11 HA_11 Vk_11 HV_11 HX_11 Vg_12
    clear v4f
    go_wp2_with fail
    have KT := Lib.hid (fun v (f : Fr v4 v) => laws_toChc M0 X0 aM0 aL0 cM0 cL0 v (HS0.out.fr (Fr.trans F_13.out f)) FC.out)
    have KE := Lib.hid (fun v (f : Fr v4 v) => (HV_13.out.fr f).src)
    obtain ⟨_, c0, c1, _, _⟩ := HX_13.out
    obtain ⟨_, d0, d1, _, _⟩ := HA_13.out
    go_region_held3 (fun v => v.cell? ⟨qw.heap.size, 0, none⟩ = some (.slice (some ⟨q1, 0, none⟩) M0.length M0.length) ∧ v.cell? ⟨qw.heap.size, 1, none⟩ = some (.slice (some ⟨q2, 0, none⟩) X0.length X0.length) ∧ v.cell? ⟨w.heap.size, 0, none⟩ = some (.slice aM0 M0.length cM0) ∧ v.cell? ⟨w.heap.size, 1, none⟩ = some (.slice aL0 X0.length cL0))
      (first | (go_keep; done))
      (first
        | (go_at_call 20; refine (KT.out _ (Below.drew (Below.refl _ _))).mono ?_; rintro e v5a ⟨t1, t2, tY, rfl, tH, tV, tf⟩; unfold caV; have tE := Lib.hid tH; have tl : tY.length = X0.length := by {have e1 := congrArg List.length tH; simpa [lns] using e1}; rw [tl]; have FT := Lib.hid (show Fr v4 v5a from Fr.trans (Below.drew (Below.refl _ _)) tf); have VT := Lib.hid tV; have XT := Lib.hid (HX_13.out.fr FT.out); have AT := Lib.hid (HA_13.out.fr FT.out); obtain ⟨_, e0, e1, _, _⟩ := XT.out; obtain ⟨_, g0, g1, _, _⟩ := AT.out; clear tH tV tf)
        | (go_at_call 22; have KQ := laws_eqChc_same M0 qY tY (some ⟨q1, 0, none⟩) (some ⟨q2, 0, none⟩) (some ⟨t1, 0, none⟩) (some ⟨t2, 0, none⟩) M0.length X0.length M0.length X0.length _ (KE.out _ FT.out) VT.out.src (qE.out.trans tE.out.symm) (few_lns HN.out qE.out.symm).few; unfold caV at KQ; rw [ql, tl] at KQ; refine KQ.mono ?_; rintro e v5 ⟨rfl, tg⟩; clear KQ; have FS := Lib.hid (show Fr v4 v5 from Fr.trans FT.out tg); have XT2 := Lib.hid (HX_13.out.fr FS.out); have AT2 := Lib.hid (HA_13.out.fr FS.out); obtain ⟨_, i0, i1, _, _⟩ := XT2.out; obtain ⟨_, j0, j1, _, _⟩ := AT2.out; clear tg))
    clear KT KE c0 c1 d0 d1 XT AT XT2 AT2 e0 e1 g0 g1 i0 i1 j0 j1
    have F_14 := Lib.hid (Fr.trans F_13.out FS.out)
    have HA_14 := Lib.hid (HA_13.out.fr FS.out)
    have Vk_14 := Lib.hid (Vk_13.out.fr FS.out)
    have HV_14 := Lib.hid (HV_13.out.fr FS.out)
    have HX_14 := Lib.hid (HX_13.out.fr FS.out)
    have Vg_14 := Lib.hid (Vg_13.out.fr FS.out)
    clear F_13 HA_13 Vk_13 HV_13 HX_13 Vg_13
    obtain ⟨_, a0, a1, _, _⟩ := HX_14.out
    go_wp2_with fail
    have v5s := FS.out.size
    have qT := few_lns HN.out qE.out.symm
    have mC := laws_markChc _ M0 qY (some ⟨q1, 0, none⟩) (some ⟨q2, 0, none⟩) M0.length X0.length 1 v5 HV_14.out (by omega) qT (by omega) (by omega)
    unfold caV at mC
    rw [ql] at mC
    refine mC.mono ?_
    rintro e v6 ⟨rfl, K6, m6⟩
    clear a0 a1 mC K6
    clear HV_14 HX_14
    have F_15 := Lib.hid (fr_but F_14.out m6 (fun m hm => by have := qB _ hm; omega))
    have HA_15 := Lib.hid (HA_14.out.but m6 (fun hm => by have := qB _ hm; omega))
    have Vk_15 := Lib.hid (Vk_14.out.but' m6 (fun m hm hx => by have := qB _ hx; have := kB _ hm; omega))
    have Vg_15 := Lib.hid (Vg_14.out.but' m6 (fun m hm hx => by have := qB _ hx; have := gB _ hm; omega))
    clear F_14 HA_14 Vk_14 Vg_14
    have v6s := m6.size
    clear m6
    have hk6 : ¬ (1 : Int) + M0.length + 3 * X0.length + sumW qY X0.length < 0 := by omega
    go_wp2_with fail
    refine (laws_eqIntS_same _ _ _ t.length (fun i => t.getD i 0) _ _ _ _ Vg_15.out Vk_15.out HL.out).mono ?_
    rintro e v7 ⟨rfl, v7m, v7h⟩
    have v7f := (show Fr _ v7 by rw [← v7h]; exact Below.drewN (Below.refl _ _) _)
    have v7s := v7f.size
    clear v7h
    have F_16 := Lib.hid (Fr.trans F_15.out v7f)
    have HA_16 := Lib.hid (HA_15.out.fr v7f)
    have Vk_16 := Lib.hid (Vk_15.out.fr v7f)
    have Vg_16 := Lib.hid (Vg_15.out.fr v7f)
    clear F_15 HA_15 Vk_15 Vg_15
    clear v7f
    go_wp2_with fail
    refine (laws_markInts5 _ _ t _ _ 1 Vg_16.out (by omega) HL.out (by omega) (by omega)).mono ?_
    rintro e v8 ⟨rfl, K8, m8⟩
    clear Vg_16
    have F_17 := Lib.hid (fr_but F_16.out m8 (fun m hm => by have := gB _ hm; omega))
    have HA_17 := Lib.hid (HA_16.out.but m8 (fun hm => by have := gB _ hm; omega))
    have Vk_17 := Lib.hid (Vk_16.out.but' m8 (fun m hm hx => by have := gB _ hx; have := kB _ hm; omega))
    clear F_16 HA_16 Vk_16
    have KG_18 := Lib.hid (K8)
    have v8s := m8.size
    clear m8 K8
    have hk8 : ¬ (1 : Int) + t.length < 0 := by omega
    go_wp2_with fail
    refine (laws_heldIntS _ _ t.length _ _ 1 KG_18.out HL.out (by omega) (by omega)).mono ?_
    rintro e v9 ⟨rfl, v9f⟩
    have v9s := v9f.size
    have F_19 := Lib.hid (Fr.trans F_17.out v9f)
    have HA_19 := Lib.hid (HA_17.out.fr v9f)
    have Vk_19 := Lib.hid (Vk_17.out.fr v9f)
    have KG_19 := Lib.hid (KG_18.out.fr v9f)
    clear F_17 HA_17 Vk_17 KG_18
    clear v9f
    obtain ⟨_, a0, a1, _, _⟩ := HA_19.out
    go_wp2_with fail
    clear a0 a1
    refine (laws_toChc M0 X0 aM0 aL0 cM0 cL0 _ (HS0.out.fr F_19.out) FC.out).mono ?_
    rintro e ow ⟨o1, o2, oY, rfl, oH, oV, of⟩
    unfold caV
    have ol : oY.length = X0.length := by have e1 := congrArg List.length oH; simpa [lns] using e1
    have oE := Lib.hid oH
    have oB := oV.bl
    clear oH
    have F_20 := Lib.hid (Fr.trans F_19.out of)
    have HA_20 := Lib.hid (HA_19.out.fr of)
    have Vk_20 := Lib.hid (Vk_19.out.fr of)
    have KG_20 := Lib.hid (KG_19.out.fr of)
    clear F_19 HA_19 Vk_19 KG_19
    have Vo_21 := Lib.hid (oV)
    have os := of.size
    clear oV of
    go_wp2_with fail
    have oC := impl_ChcAll M0 oY (some ⟨o1, 0, none⟩) (some ⟨o2, 0, none⟩) M0.length X0.length ow Vo_21.out.src (few_lns HN.out oE.out.symm).few (Nat.le_refl _)
    unfold caV at oC
    rw [ol, oE.out, ht] at oC
    refine oC.mono ?_
    rintro e pu ⟨pa, pc, rfl, pR, pf⟩
    clear oC
    have pV := pR.vc
    have pB := pV.bk
    have pz := pf.size
    clear Vo_21
    have F_22 := Lib.hid (Fr.trans F_20.out pf)
    have HA_22 := Lib.hid (HA_20.out.fr pf)
    have Vk_22 := Lib.hid (Vk_20.out.fr pf)
    have KG_22 := Lib.hid (KG_20.out.fr pf)
    clear F_20 HA_20 Vk_20 KG_20
    have Vp_23 := Lib.hid (pV)
    clear pV pR pf
    go_wp2_with fail
    refine (laws_eqIntS_same _ _ _ t.length (fun i => t.getD i 0) _ _ _ _ Vp_23.out Vk_22.out HL.out).mono ?_
    rintro e v10 ⟨rfl, v10m, v10h⟩
    have v10f := (show Fr _ v10 by rw [← v10h]; exact Below.drewN (Below.refl _ _) _)
    have v10s := v10f.size
    clear v10h
    have F_24 := Lib.hid (Fr.trans F_22.out v10f)
    have HA_24 := Lib.hid (HA_22.out.fr v10f)
    have Vk_24 := Lib.hid (Vk_22.out.fr v10f)
    have KG_24 := Lib.hid (KG_22.out.fr v10f)
    have Vp_24 := Lib.hid (Vp_23.out.fr v10f)
    clear F_22 HA_22 Vk_22 KG_22 Vp_23
    clear v10f
    go_wp2_with fail
    refine (laws_heldIntS _ _ t.length _ _ 1 KG_24.out HL.out (by omega) (by omega)).mono ?_
    rintro e v11 ⟨rfl, v11f⟩
    have v11s := v11f.size
    have F_25 := Lib.hid (Fr.trans F_24.out v11f)
    have HA_25 := Lib.hid (HA_24.out.fr v11f)
    have Vk_25 := Lib.hid (Vk_24.out.fr v11f)
    have KG_25 := Lib.hid (KG_24.out.fr v11f)
    have Vp_25 := Lib.hid (Vp_24.out.fr v11f)
    clear F_24 HA_24 Vk_24 KG_24 Vp_24
    clear v11f
    go_wp2_with fail
    go_ret
    exact ⟨rfl, F_25.out⟩
  · go_wp2_with fail
    go_ret
    exact ⟨rfl, HF0.out.trans f1⟩

set_option maxRecDepth 100000 in
theorem lifted (os : Os) (started : os.Started) (H : Type) (enc : TypeId × Value → H) :
    ReturnsInHanded {} Try.checked os 7 .any (Rows.fnExactChcAllSpec.pre6 enc Try.prog Try.f7 Rows.fnExactChcAllRow.domain false) (Rows.fnExactChcAllSpec.post enc Try.prog Try.f7 false true false false) := by
  refine returnsInHanded_of_change (C := Try.checked) own started (by kernel_rfl) Try.func7
    (ChangeSpec.witness6 (enc := enc) (C := Try.checked) false ⟨#[], #[.agg #[.slice none 0 0, .slice none 0 0]], []⟩ 8 (by kernel_rfl) (by kernel_rfl) (by kernel_rfl) (by kernel_rfl)) ?_
  intro W base args ds gs before hval0 hW hcnd _
  have hval : ∀ (j : Nat) t v, Try.f7.params[j]? = some t → args[j]? = some v → Value.okWide Try.prog W .any base t v := hval0
  have hW' := hW
  obtain ⟨p, q, hA0, hV, rfl, hfz, hnd⟩ := hW
  have hA : DataW.TrodAll enc Try.prog W 0 (fun _ => true) true Try.f7.params.toList args.toList ds p := hA0
  rw [Try.params7] at hA hval
  obtain ⟨v0, vs0, d0, ds0, p0, q0, hargs, rfl, rfl, h0, r0⟩ := trodAll_cons hA
  obtain ⟨rfl, rfl, rfl⟩ := trodAll_nil r0
  obtain rfl : args = #[v0] := by cases args; simp_all
  obtain ⟨rfl, rfl⟩ := trodVars_none hV
  have k0 := h0
  have lt0 : ∀ x ∈ p0, x.block < W.heap.size := by obtain ⟨m, hm⟩ := k0; exact DataW.trod_lt m _ _ _ hm
  obtain ⟨M0, X0, aM0, aL0, cM0, cL0, rfl, hs0, hb0, hc0⟩ := open_chc (hval 0 25 v0 rfl rfl) h0
  clear hA0 hval0
  refine (walk M0 X0 aM0 aL0 cM0 cL0 W hs0 hb0 hc0).mono fun e W' ⟨he, bel⟩ => ?_
  subst he
  exact ⟨_, rfl, _, _, _, [], _, [], hW', trodAll_mk1 (shut_bool Try.underlying4 _), (trodAll_cons_mk (Below.trod laidOut (by kernel_rfl) (of_decide_eq_true (by kernel_rfl)) k0 bel lt0) trodAll_mk0), rfl, bel.frame _, fun h => by cases h⟩

theorem over : Rows.fnExactChcAllRow.holds Try.pinned (OpenSpec.ofChange Rows.fnExactChcAllSpec) :=
  OpenClaim.holds_of_wide 7 Try.f7 rfl rfl rfl rfl rfl rfl rfl ⟨rfl, rfl, rfl, rfl, rfl⟩ rfl rfl rfl rfl rfl (by kernel_rfl) Try.func7 (by kernel_rfl)
    (of_decide_eq_true (by kernel_rfl)) (by unfold Func.isWrapper; first | (rw [if_pos (by decide +kernel)]; kernel_rfl) | (rw [if_neg (by decide +kernel)]; exact ⟨rfl, rfl⟩))
    (fun os started H enc _ => lifted os started H enc)

/-- THE STATEMENT. -/
theorem proved : Rows.FnExactChcAllSaid := over
#print axioms proved
end Go.Proofs.Ytoacgjjpipdkjaa.fnExactChcAll
