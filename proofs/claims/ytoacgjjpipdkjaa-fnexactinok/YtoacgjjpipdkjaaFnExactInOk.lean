/- For every input of a cycle, InOk of the program returns what InOk of the model returns, and writes into no argument (no condition). -/
import Derived.Test.YtoacgjjpipdkjaaRows
import Derived.Test.YtoacgjjpipdkjaaJ3
import Derived.WalkKit
import Derived.ProofKit
import Derived.OpenShut
import Derived.ShutString
import Derived.ChangeOld
import Derived.Below
namespace Go.Proofs.Ytoacgjjpipdkjaa.fnExactInOk
open Go.ChangeShapes Go.WideShapes Go.ChangeAt Go.RowKit
set_option linter.unusedVariables false
set_option linter.unusedSimpArgs false

theorem own : ownKnob Try.prog.godebug = none := by kernel_rfl
theorem laidOut : laidOutB Try.prog = true := by kernel_rfl

set_option maxRecDepth 8000 in
set_option maxHeartbeats 4000000 in
theorem walk (r0 y0 : Bool) (t0 n0 : Int) (P0 : List Int) (a0 : Option Addr) (c0 : Nat) (w : World) (h0 : Src w P0.length (ivl P0) a0) (m0 : P0.length ≤ 9223372036854775807) :
    Calls Try.prog 8 #[.agg #[.bool r0, .bool y0, .int .i64 t0, .int .i64 n0, .slice a0 P0.length c0]] w fun e w' => e = .returned (.bool true) ∧ Below w.heap.size w w' := by
  have HS0 := Lib.hid h0
  have HB0 := Lib.hid m0
  have HF0 := Lib.hid (Fr.alloc w (.cells #[.bool r0, .bool y0, .int .i64 t0, .int .i64 n0, .slice a0 P0.length c0] 43))
  have HA0 := Lib.hid (Box5.new w (.bool r0) (.bool y0) (.int .i64 t0) (.int .i64 n0) (.slice a0 P0.length c0) 43 _ rfl)
  clear h0 m0
  go_enter Try.func8, Try.ntmps8
  go_wp2_with fail
  generalize (w.alloc (.cells #[.bool r0, .bool y0, .int .i64 t0, .int .i64 n0, .slice a0 P0.length c0] 43)) = u0 at *
  refine (laws_szIn r0 y0 t0 n0 P0 a0 c0 1048576 u0 HB0.out (by omega) (by omega)).mono ?_
  rintro e u1 ⟨⟨q, rfl, hq⟩, f1⟩
  rcases hq with ⟨q0, q1⟩ | rfl
  · have hq0 : ¬ q < 0 := by omega
    have FC := Lib.hid (show P0.length ≤ 1048576 by omega)
    clear q1
    have F_1 := Lib.hid (HF0.out.trans f1)
    have HA_2 := Lib.hid (HA0.out.fr f1)
    clear HF0 HA0 f1 HB0
    obtain ⟨_, zz0, zz1, zz2, zz3, zz4, _, _, _, _, _⟩ := HA_2.out
    go_wp2_with fail
    refine (laws_toIn r0 y0 t0 n0 P0 a0 c0 _ (HS0.out.fr F_1.out) FC.out).mono ?_
    rintro e yw ⟨y1, rfl, yg, yk, yV, yf⟩
    clear zz0 zz1 zz2 zz3 zz4
    have F_3 := Lib.hid (Fr.trans F_1.out yf)
    have HA_3 := Lib.hid (HA_2.out.fr yf)
    clear F_1 HA_2
    have VY_4 := Lib.hid (yV)
    have ys := yf.size
    clear yV yf
    go_wp2_with fail
    refine (spec_InOk r0 y0 t0 n0 P0 (some ⟨y1, 0, none⟩) P0.length yw VY_4.out.src FC.out).mono ?_
    rintro e v1 ⟨rfl, f3⟩
    clear VY_4
    have F_5 := Lib.hid (Fr.trans F_3.out f3)
    have HA_5 := Lib.hid (HA_3.out.fr f3)
    clear F_3 HA_3
    clear f3
    obtain ⟨_, zz0, zz1, zz2, zz3, zz4, _, _, _, _, _⟩ := HA_5.out
    go_wp2_with fail
    refine (laws_toIn r0 y0 t0 n0 P0 a0 c0 _ (HS0.out.fr F_5.out) FC.out).mono ?_
    rintro e qw ⟨q1, rfl, qg, qk, qV, qf⟩
    clear zz0 zz1 zz2 zz3 zz4
    have F_6 := Lib.hid (Fr.trans F_5.out qf)
    have HA_6 := Lib.hid (HA_5.out.fr qf)
    clear F_5 HA_5
    have HV_7 := Lib.hid (qV)
    have qs := qf.size
    clear qV qf
    go_wp2_with fail
    have F_8 := Lib.hid (Fr.trans F_6.out (Fr.alloc qw (.cells #[.bool r0, .bool y0, .int .i64 t0, .int .i64 n0, .slice (some ⟨q1, 0, none⟩) P0.length P0.length] 46)))
    have HA_8 := Lib.hid (HA_6.out.fr (Fr.alloc qw (.cells #[.bool r0, .bool y0, .int .i64 t0, .int .i64 n0, .slice (some ⟨q1, 0, none⟩) P0.length P0.length] 46)))
    have HV_8 := Lib.hid (HV_7.out.fr (Fr.alloc qw (.cells #[.bool r0, .bool y0, .int .i64 t0, .int .i64 n0, .slice (some ⟨q1, 0, none⟩) P0.length P0.length] 46)))
    clear F_6 HA_6 HV_7
    have HX_9 := Lib.hid (Box5.new qw (.bool r0) (.bool y0) (.int .i64 t0) (.int .i64 n0) (.slice (some ⟨q1, 0, none⟩) P0.length P0.length) 46 _ rfl)
    have v2s : qw.heap.size < (qw.alloc (.cells #[.bool r0, .bool y0, .int .i64 t0, .int .i64 n0, .slice (some ⟨q1, 0, none⟩) P0.length P0.length] 46)).heap.size := by simp
    generalize (qw.alloc (.cells #[.bool r0, .bool y0, .int .i64 t0, .int .i64 n0, .slice (some ⟨q1, 0, none⟩) P0.length P0.length] 46)) = v2 at *
    refine (impl_InOk r0 y0 t0 n0 P0 (some ⟨q1, 0, none⟩) P0.length v2 HV_8.out.src FC.out).mono ?_
    rintro e v3 ⟨rfl, f5⟩
    have F_10 := Lib.hid (Fr.trans F_8.out f5)
    have HA_10 := Lib.hid (HA_8.out.fr f5)
    have HV_10 := Lib.hid (HV_8.out.fr f5)
    have HX_10 := Lib.hid (HX_9.out.fr f5)
    clear F_8 HA_8 HV_8 HX_9
    clear f5
    have hq : (inB y0 t0 n0 P0 != inB y0 t0 n0 P0) = false := by simp
    generalize inB y0 t0 n0 P0 = oq at *
    go_wp2_with fail
    have KT := Lib.hid (fun v (f : Fr v3 v) => laws_toIn r0 y0 t0 n0 P0 a0 c0 v (HS0.out.fr (Fr.trans F_10.out f)) FC.out)
    have KE := Lib.hid (fun v (f : Fr v3 v) => (HV_10.out.fr f).src)
    obtain ⟨_, cx0, cx1, cx2, cx3, cx4, _, _, _, _, _⟩ := HX_10.out
    obtain ⟨_, dx0, dx1, dx2, dx3, dx4, _, _, _, _, _⟩ := HA_10.out
    go_region_held3 (fun v => v.cell? ⟨qw.heap.size, 0, none⟩ = some (.bool r0) ∧ v.cell? ⟨qw.heap.size, 1, none⟩ = some (.bool y0) ∧ v.cell? ⟨qw.heap.size, 2, none⟩ = some (.int .i64 t0) ∧ v.cell? ⟨qw.heap.size, 3, none⟩ = some (.int .i64 n0) ∧ v.cell? ⟨qw.heap.size, 4, none⟩ = some (.slice (some ⟨q1, 0, none⟩) P0.length P0.length) ∧ v.cell? ⟨w.heap.size, 0, none⟩ = some (.bool r0) ∧ v.cell? ⟨w.heap.size, 1, none⟩ = some (.bool y0) ∧ v.cell? ⟨w.heap.size, 2, none⟩ = some (.int .i64 t0) ∧ v.cell? ⟨w.heap.size, 3, none⟩ = some (.int .i64 n0) ∧ v.cell? ⟨w.heap.size, 4, none⟩ = some (.slice a0 P0.length c0))
      (first | (go_keep; done))
      (first
        | (go_at_call 38; refine (KT.out _ (Below.drew (Below.refl _ _))).mono ?_; rintro e va ⟨t1, rfl, tg, tk, tV, tf⟩; have FT := Lib.hid (show Fr v3 va from Fr.trans (Below.drew (Below.refl _ _)) tf); have VT := Lib.hid tV; have XT := Lib.hid (HX_10.out.fr FT.out); have AT := Lib.hid (HA_10.out.fr FT.out); obtain ⟨_, ex0, ex1, ex2, ex3, ex4, _, _, _, _, _⟩ := XT.out; obtain ⟨_, gx0, gx1, gx2, gx3, gx4, _, _, _, _, _⟩ := AT.out; clear tV tf)
        | (go_at_call 40; refine (laws_eqIn_same r0 y0 t0 n0 P0 _ _ _ _ _ (KE.out _ FT.out) VT.out.src FC.out).mono ?_; rintro e v5 ⟨rfl, tg2⟩; have FS := Lib.hid (show Fr v3 v5 from Fr.trans FT.out tg2); have XT2 := Lib.hid (HX_10.out.fr FS.out); have AT2 := Lib.hid (HA_10.out.fr FS.out); obtain ⟨_, ix0, ix1, ix2, ix3, ix4, _, _, _, _, _⟩ := XT2.out; obtain ⟨_, jx0, jx1, jx2, jx3, jx4, _, _, _, _, _⟩ := AT2.out; clear tg2))
    have F_11 := Lib.hid (Fr.trans F_10.out FS.out)
    have HA_11 := Lib.hid (HA_10.out.fr FS.out)
    have HV_11 := Lib.hid (HV_10.out.fr FS.out)
    have HX_11 := Lib.hid (HX_10.out.fr FS.out)
    clear F_10 HA_10 HV_10 HX_10
    go_wp2_with fail
    go_ret
    exact ⟨rfl, F_11.out⟩
  · go_wp2_with fail
    go_ret
    exact ⟨rfl, HF0.out.trans f1⟩

set_option maxRecDepth 100000 in
theorem lifted (os : Os) (started : os.Started) (H : Type) (enc : TypeId × Value → H) :
    ReturnsInHanded {} Try.checked os 8 .any (Rows.fnExactInOkSpec.pre6 enc Try.prog Try.f8 Rows.fnExactInOkRow.domain false) (Rows.fnExactInOkSpec.post enc Try.prog Try.f8 false true false false) := by
  refine returnsInHanded_of_change (C := Try.checked) own started (by kernel_rfl) Try.func8
    (ChangeSpec.witness6 (enc := enc) (C := Try.checked) false ⟨#[], #[.agg #[.bool false, .bool false, .int .i64 0, .int .i64 0, .slice none 0 0]], []⟩ 8 (by kernel_rfl) (by kernel_rfl) (by kernel_rfl) (by kernel_rfl)) ?_
  intro W base args ds gs before hval0 hW hcnd _
  have hval : ∀ (j : Nat) t v, Try.f8.params[j]? = some t → args[j]? = some v → Value.okWide Try.prog W .any base t v := hval0
  have hW' := hW
  obtain ⟨p, q, hA0, hV, rfl, hfz, hnd⟩ := hW
  have hA : DataW.TrodAll enc Try.prog W 0 (fun _ => true) true Try.f8.params.toList args.toList ds p := hA0
  rw [Try.params8] at hA hval
  obtain ⟨v0, vs0, d0, ds0, p0, q0, hargs, rfl, rfl, h0, r0⟩ := trodAll_cons hA
  obtain ⟨rfl, rfl, rfl⟩ := trodAll_nil r0
  obtain rfl : args = #[v0] := by cases args; simp_all
  obtain ⟨rfl, rfl⟩ := trodVars_none hV
  have k0 := h0
  have lt0 : ∀ x ∈ p0, x.block < W.heap.size := by obtain ⟨m, hm⟩ := k0; exact DataW.trod_lt m _ _ _ hm
  obtain ⟨r0, y0, t0, n0, P0, a0, c0, rfl, hs0, hb0⟩ := open_in (hval 0 43 v0 rfl rfl) h0
  clear hA0 hval0
  refine (walk r0 y0 t0 n0 P0 a0 c0 W hs0 hb0).mono fun e W' ⟨he, bel⟩ => ?_
  subst he
  exact ⟨_, rfl, _, _, _, [], _, [], hW', trodAll_mk1 (shut_bool Try.underlying4 _), (trodAll_cons_mk (Below.trod laidOut (by kernel_rfl) (of_decide_eq_true (by kernel_rfl)) k0 bel lt0) trodAll_mk0), rfl, bel.frame _, fun h => by cases h⟩

theorem over : Rows.fnExactInOkRow.holds Try.pinned (OpenSpec.ofChange Rows.fnExactInOkSpec) :=
  OpenClaim.holds_of_wide 8 Try.f8 rfl rfl rfl rfl rfl rfl rfl ⟨rfl, rfl, rfl, rfl, rfl⟩ rfl rfl rfl rfl rfl (by kernel_rfl) Try.func8 (by kernel_rfl)
    (of_decide_eq_true (by kernel_rfl)) (by unfold Func.isWrapper; first | (rw [if_pos (by decide +kernel)]; kernel_rfl) | (rw [if_neg (by decide +kernel)]; exact ⟨rfl, rfl⟩))
    (fun os started H enc _ => lifted os started H enc)

/-- THE STATEMENT. -/
theorem proved : Rows.FnExactInOkSaid := over
#print axioms proved
end Go.Proofs.Ytoacgjjpipdkjaa.fnExactInOk
