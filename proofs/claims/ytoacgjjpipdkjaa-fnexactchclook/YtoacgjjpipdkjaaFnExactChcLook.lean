/- For every cache and every int, ChcLook of the program returns what ChcLook of the model returns, and writes into no argument (no condition). -/
import Derived.Test.YtoacgjjpipdkjaaRows
import Derived.Test.YtoacgjjpipdkjaaK25
import Derived.Test.YtoacgjjpipdkjaaK36
import Derived.WalkKit
import Derived.ProofKit
import Derived.OpenShut
import Derived.ShutString
import Derived.ChangeOld
import Derived.Below
namespace Go.Proofs.Ytoacgjjpipdkjaa.fnExactChcLook
open Go.ChangeShapes Go.WideShapes Go.ChangeAt Go.RowKit
set_option linter.unusedVariables false
set_option linter.unusedSimpArgs false

theorem own : ownKnob Try.prog.godebug = none := by kernel_rfl
theorem laidOut : laidOutB Try.prog = true := by kernel_rfl

set_option maxRecDepth 8000 in
set_option maxHeartbeats 4000000 in
theorem walk (M0 : List Int) (X0 : List La) (aM0 aL0 : Option Addr) (cM0 cL0 : Nat) (x1 : Int) (w : World) (h0 : SrcC w M0 X0 aM0 aL0) (m0 : BigC M0 X0) (l0 : M0.length ≤ cM0) (wf1 : (Lit.int .i64 x1).wf = true) :
    Calls Try.prog 3 #[.agg #[.slice aM0 M0.length cM0, .slice aL0 X0.length cL0], .int .i64 x1] w fun e w' => e = .returned (.bool true) ∧ Below w.heap.size w w' := by
  have HS0 := Lib.hid h0
  have HB0 := Lib.hid m0
  have HF0 := Lib.hid (Fr.alloc w (.cells #[.slice aM0 M0.length cM0, .slice aL0 X0.length cL0] 25))
  have HA0 := Lib.hid (Box2.new w (.slice aM0 M0.length cM0) (.slice aL0 X0.length cL0) 25 _ rfl)
  clear h0 m0
  go_enter Try.func3, Try.ntmps3
  go_wp2_with fail
  generalize (w.alloc (.cells #[.slice aM0 M0.length cM0, .slice aL0 X0.length cL0] 25)) = u0 at *
  refine (laws_szChc M0 X0 aM0 aL0 cM0 cL0 1048576 u0 (HS0.out.fr HF0.out) HB0.out (by omega) (by omega)).mono ?_
  rintro e u1 ⟨⟨r, rfl, hr⟩, f1⟩
  rcases hr with ⟨r0, hn⟩ | rfl
  · have hr0 : ¬ r < 0 := by omega
    have HN := Lib.hid hn
    have FC := Lib.hid hn.few
    clear hn
    have F_1 := Lib.hid (HF0.out.trans f1)
    have HA_2 := Lib.hid (HA0.out.fr f1)
    clear HF0 HA0 f1 HB0
    generalize ht : lookA ⟨M0, lns X0⟩ x1 = t at *
    have hqn : (t != t) = false := by simp
    obtain ⟨_, a0, a1, _, _⟩ := HA_2.out
    go_wp2_with fail
    clear a0 a1
    refine (laws_toChc M0 X0 aM0 aL0 cM0 cL0 _ (HS0.out.fr F_1.out) FC.out).mono ?_
    rintro e yw ⟨y1, y2, yY, rfl, yH, yV, yf⟩
    unfold caV
    have yl : yY.length = X0.length := by have e1 := congrArg List.length yH; simpa [lns] using e1
    have yE := Lib.hid yH
    have yB := yV.bl
    clear yH
    have F_3 := Lib.hid (Fr.trans F_1.out yf)
    have HA_3 := Lib.hid (HA_2.out.fr yf)
    clear F_1 HA_2
    have Vy_4 := Lib.hid (yV)
    have ys := yf.size
    clear yV yf
    go_wp2_with fail
    have yC := spec_ChcLook M0 yY (some ⟨y1, 0, none⟩) (some ⟨y2, 0, none⟩) M0.length X0.length x1 yw Vy_4.out.src (few_lns HN.out yE.out.symm).few
    unfold caV at yC
    rw [yl, yE.out, ht] at yC
    refine yC.mono ?_
    rintro e v1 ⟨rfl, f3⟩
    clear yC
    clear Vy_4
    have F_5 := Lib.hid (Fr.trans F_3.out f3)
    have HA_5 := Lib.hid (HA_3.out.fr f3)
    clear F_3 HA_3
    have v1s := f3.size
    clear f3
    obtain ⟨_, a0, a1, _, _⟩ := HA_5.out
    go_wp2_with fail
    clear a0 a1
    refine (laws_toChc M0 X0 aM0 aL0 cM0 cL0 _ (HS0.out.fr F_5.out) FC.out).mono ?_
    rintro e qw ⟨q1, q2, qY, rfl, qH, qV, qf⟩
    unfold caV
    have ql : qY.length = X0.length := by have e1 := congrArg List.length qH; simpa [lns] using e1
    have qE := Lib.hid qH
    have qB := qV.bl
    clear qH
    have F_6 := Lib.hid (Fr.trans F_5.out qf)
    have HA_6 := Lib.hid (HA_5.out.fr qf)
    clear F_5 HA_5
    have HV_7 := Lib.hid (qV)
    have qs := qf.size
    clear qV qf
    go_wp2_with fail
    have F_8 := Lib.hid (Fr.trans F_6.out (Fr.alloc qw (.cells #[.slice (some ⟨q1, 0, none⟩) M0.length M0.length, .slice (some ⟨q2, 0, none⟩) X0.length X0.length] 30)))
    have HA_8 := Lib.hid (HA_6.out.fr (Fr.alloc qw (.cells #[.slice (some ⟨q1, 0, none⟩) M0.length M0.length, .slice (some ⟨q2, 0, none⟩) X0.length X0.length] 30)))
    have HV_8 := Lib.hid (HV_7.out.fr (Fr.alloc qw (.cells #[.slice (some ⟨q1, 0, none⟩) M0.length M0.length, .slice (some ⟨q2, 0, none⟩) X0.length X0.length] 30)))
    clear F_6 HA_6 HV_7
    have HX_9 := Lib.hid (Box2.new qw (.slice (some ⟨q1, 0, none⟩) M0.length M0.length) (.slice (some ⟨q2, 0, none⟩) X0.length X0.length) 30 _ rfl)
    have v2s : qw.heap.size < (qw.alloc (.cells #[.slice (some ⟨q1, 0, none⟩) M0.length M0.length, .slice (some ⟨q2, 0, none⟩) X0.length X0.length] 30)).heap.size := by simp
    generalize (qw.alloc (.cells #[.slice (some ⟨q1, 0, none⟩) M0.length M0.length, .slice (some ⟨q2, 0, none⟩) X0.length X0.length] 30)) = v2 at *
    have qC := impl_ChcLook M0 qY (some ⟨q1, 0, none⟩) (some ⟨q2, 0, none⟩) M0.length X0.length x1 v2 HV_8.out.src (few_lns HN.out qE.out.symm).few (Nat.le_refl _)
    unfold caV at qC
    rw [ql, qE.out, ht] at qC
    refine qC.mono ?_
    rintro e v3 ⟨rfl, f5⟩
    clear qC
    have F_10 := Lib.hid (Fr.trans F_8.out f5)
    have HA_10 := Lib.hid (HA_8.out.fr f5)
    have HV_10 := Lib.hid (HV_8.out.fr f5)
    have HX_10 := Lib.hid (HX_9.out.fr f5)
    clear F_8 HA_8 HV_8 HX_9
    clear f5
    go_wp2_with fail
    have KT := Lib.hid (fun v (f : Fr v3 v) => laws_toChc M0 X0 aM0 aL0 cM0 cL0 v (HS0.out.fr (Fr.trans F_10.out f)) FC.out)
    have KE := Lib.hid (fun v (f : Fr v3 v) => (HV_10.out.fr f).src)
    obtain ⟨_, c0, c1, _, _⟩ := HX_10.out
    obtain ⟨_, d0, d1, _, _⟩ := HA_10.out
    go_region_held3 (fun v => v.cell? ⟨qw.heap.size, 0, none⟩ = some (.slice (some ⟨q1, 0, none⟩) M0.length M0.length) ∧ v.cell? ⟨qw.heap.size, 1, none⟩ = some (.slice (some ⟨q2, 0, none⟩) X0.length X0.length) ∧ v.cell? ⟨w.heap.size, 0, none⟩ = some (.slice aM0 M0.length cM0) ∧ v.cell? ⟨w.heap.size, 1, none⟩ = some (.slice aL0 X0.length cL0))
      (first | (go_keep; done))
      (first
        | (go_at_call 20; refine (KT.out _ (Below.drew (Below.refl _ _))).mono ?_; rintro e v5a ⟨t1, t2, tY, rfl, tH, tV, tf⟩; unfold caV; have tE := Lib.hid tH; have tl : tY.length = X0.length := by {have e1 := congrArg List.length tH; simpa [lns] using e1}; rw [tl]; have FT := Lib.hid (show Fr v3 v5a from Fr.trans (Below.drew (Below.refl _ _)) tf); have VT := Lib.hid tV; have XT := Lib.hid (HX_10.out.fr FT.out); have AT := Lib.hid (HA_10.out.fr FT.out); obtain ⟨_, e0, e1, _, _⟩ := XT.out; obtain ⟨_, g0, g1, _, _⟩ := AT.out; clear tH tV tf)
        | (go_at_call 22; have KQ := laws_eqChc_same M0 qY tY (some ⟨q1, 0, none⟩) (some ⟨q2, 0, none⟩) (some ⟨t1, 0, none⟩) (some ⟨t2, 0, none⟩) M0.length X0.length M0.length X0.length _ (KE.out _ FT.out) VT.out.src (qE.out.trans tE.out.symm) (few_lns HN.out qE.out.symm).few; unfold caV at KQ; rw [ql, tl] at KQ; refine KQ.mono ?_; rintro e v5 ⟨rfl, tg⟩; clear KQ; have FS := Lib.hid (show Fr v3 v5 from Fr.trans FT.out tg); have XT2 := Lib.hid (HX_10.out.fr FS.out); have AT2 := Lib.hid (HA_10.out.fr FS.out); obtain ⟨_, i0, i1, _, _⟩ := XT2.out; obtain ⟨_, j0, j1, _, _⟩ := AT2.out; clear tg))
    clear KT KE c0 c1 d0 d1 XT AT XT2 AT2 e0 e1 g0 g1 i0 i1 j0 j1
    have F_11 := Lib.hid (Fr.trans F_10.out FS.out)
    have HA_11 := Lib.hid (HA_10.out.fr FS.out)
    have HV_11 := Lib.hid (HV_10.out.fr FS.out)
    have HX_11 := Lib.hid (HX_10.out.fr FS.out)
    clear F_10 HA_10 HV_10 HX_10
    go_wp2_with fail
    go_ret
    exact ⟨rfl, F_11.out⟩
  · go_wp2_with fail
    go_ret
    exact ⟨rfl, HF0.out.trans f1⟩

set_option maxRecDepth 100000 in
theorem lifted (os : Os) (started : os.Started) (H : Type) (enc : TypeId × Value → H) :
    ReturnsInHanded {} Try.checked os 3 .any (Rows.fnExactChcLookSpec.pre6 enc Try.prog Try.f3 Rows.fnExactChcLookRow.domain false) (Rows.fnExactChcLookSpec.post enc Try.prog Try.f3 false true false false) := by
  refine returnsInHanded_of_change (C := Try.checked) own started (by kernel_rfl) Try.func3
    (ChangeSpec.witness6 (enc := enc) (C := Try.checked) false ⟨#[], #[.agg #[.slice none 0 0, .slice none 0 0], .int .i64 0], []⟩ 8 (by kernel_rfl) (by kernel_rfl) (by kernel_rfl) (by kernel_rfl)) ?_
  intro W base args ds gs before hval0 hW hcnd _
  have hval : ∀ (j : Nat) t v, Try.f3.params[j]? = some t → args[j]? = some v → Value.okWide Try.prog W .any base t v := hval0
  have hW' := hW
  obtain ⟨p, q, hA0, hV, rfl, hfz, hnd⟩ := hW
  have hA : DataW.TrodAll enc Try.prog W 0 (fun _ => true) true Try.f3.params.toList args.toList ds p := hA0
  rw [Try.params3] at hA hval
  obtain ⟨v0, vs0, d0, ds0, p0, q0, hargs, rfl, rfl, h0, r0⟩ := trodAll_cons hA
  obtain ⟨v1, vs1, d1, ds1, p1, q1, rfl, rfl, rfl, h1, r1⟩ := trodAll_cons r0
  obtain ⟨rfl, rfl, rfl⟩ := trodAll_nil r1
  obtain rfl : args = #[v0, v1] := by cases args; simp_all
  obtain ⟨rfl, rfl⟩ := trodVars_none hV
  have k0 := h0
  have lt0 : ∀ x ∈ p0, x.block < W.heap.size := by obtain ⟨m, hm⟩ := k0; exact DataW.trod_lt m _ _ _ hm
  obtain ⟨M0, X0, aM0, aL0, cM0, cL0, rfl, hs0, hb0, hc0⟩ := open_chc (hval 0 25 v0 rfl rfl) h0
  have k1 := h1
  have lt1 : ∀ x ∈ p1, x.block < W.heap.size := by obtain ⟨m, hm⟩ := k1; exact DataW.trod_lt m _ _ _ hm
  obtain ⟨x1, rfl, rfl, rfl, wf1⟩ := open_int Try.underlying3 (hval 1 3 v1 rfl rfl) h1
  clear hA0 hval0
  refine (walk M0 X0 aM0 aL0 cM0 cL0 x1 W hs0 hb0 hc0 wf1).mono fun e W' ⟨he, bel⟩ => ?_
  subst he
  exact ⟨_, rfl, _, _, _, [], _, [], hW', trodAll_mk1 (shut_bool Try.underlying4 _), (trodAll_cons_mk (Below.trod laidOut (by kernel_rfl) (of_decide_eq_true (by kernel_rfl)) k0 bel lt0) (trodAll_cons_mk (Below.trod laidOut (by kernel_rfl) (of_decide_eq_true (by kernel_rfl)) k1 bel lt1) trodAll_mk0)), rfl, bel.frame _, fun h => by cases h⟩

theorem over : Rows.fnExactChcLookRow.holds Try.pinned (OpenSpec.ofChange Rows.fnExactChcLookSpec) :=
  OpenClaim.holds_of_wide 3 Try.f3 rfl rfl rfl rfl rfl rfl rfl ⟨rfl, rfl, rfl, rfl, rfl⟩ rfl rfl rfl rfl rfl (by kernel_rfl) Try.func3 (by kernel_rfl)
    (of_decide_eq_true (by kernel_rfl)) (by unfold Func.isWrapper; first | (rw [if_pos (by decide +kernel)]; kernel_rfl) | (rw [if_neg (by decide +kernel)]; exact ⟨rfl, rfl⟩))
    (fun os started H enc _ => lifted os started H enc)

/-- THE STATEMENT. -/
theorem proved : Rows.FnExactChcLookSaid := over
#print axioms proved
end Go.Proofs.Ytoacgjjpipdkjaa.fnExactChcLook
