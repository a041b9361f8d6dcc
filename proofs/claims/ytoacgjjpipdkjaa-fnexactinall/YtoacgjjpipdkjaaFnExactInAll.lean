/- InAll of the program returns what InAll of the model returns, and its answer owns its memory (no condition). -/
import Derived.Test.YtoacgjjpipdkjaaRows
import Derived.Test.YtoacgjjpipdkjaaJ3
import Derived.WalkKit
import Derived.ProofKit
import Derived.OpenShut
import Derived.ShutString
import Derived.ChangeOld
import Derived.Below
namespace Go.Proofs.Ytoacgjjpipdkjaa.fnExactInAll
open Go.ChangeShapes Go.WideShapes Go.ChangeAt Go.RowKit
set_option linter.unusedVariables false
set_option linter.unusedSimpArgs false

theorem own : ownKnob Try.prog.godebug = none := by kernel_rfl
theorem laidOut : laidOutB Try.prog = true := by kernel_rfl

set_option maxRecDepth 8000 in
set_option maxHeartbeats 4000000 in
theorem walk  (w : World) :
    Calls Try.prog 9 #[] w fun e w' => e = .returned (.bool true) ∧ Below w.heap.size w w' := by
  go_enter Try.func9, Try.ntmps9
  go_wp2_with fail
  refine (spec_InAll w).mono ?_
  rintro e ku ⟨kg, rfl, kB, kV, kf⟩
  have ks := kf.size
  have kL := (kV.blk (by omega) kg rfl).2
  have F_1 := Lib.hid (kf)
  have Vk_2 := Lib.hid (kV)
  clear kV kf
  go_wp2_with fail
  have F_3 := Lib.hid (Fr.trans F_1.out (Fr.alloc ku (.cells #[.bool false, .bool false, .int .i64 0, .int .i64 0, .slice (some ⟨kg, 0, none⟩) 2 2] 46)))
  have Vk_3 := Lib.hid (Vk_2.out.fr (Fr.alloc ku (.cells #[.bool false, .bool false, .int .i64 0, .int .i64 0, .slice (some ⟨kg, 0, none⟩) 2 2] 46)))
  clear F_1 Vk_2
  have Hk_4 := Lib.hid (Box5.new ku (.bool false) (.bool false) (.int .i64 0) (.int .i64 0) (.slice (some ⟨kg, 0, none⟩) 2 2) 46 _ rfl)
  have kt : ku.heap.size < (ku.alloc (.cells #[.bool false, .bool false, .int .i64 0, .int .i64 0, .slice (some ⟨kg, 0, none⟩) 2 2] 46)).heap.size := by simp
  generalize (ku.alloc (.cells #[.bool false, .bool false, .int .i64 0, .int .i64 0, .slice (some ⟨kg, 0, none⟩) 2 2] 46)) = kv at *
  refine (impl_InAll kv).mono ?_
  rintro e gu ⟨gg, rfl, gB, gV, gf⟩
  have gs := gf.size
  have gL := (gV.blk (by omega) gg rfl).2
  have F_5 := Lib.hid (Fr.trans F_3.out gf)
  have Vk_5 := Lib.hid (Vk_3.out.fr gf)
  have Hk_5 := Lib.hid (Hk_4.out.fr gf)
  clear F_3 Vk_3 Hk_4
  have Vg_6 := Lib.hid (gV)
  clear gV gf
  obtain ⟨_, bx0, bx1, bx2, bx3, bx4, _, _, _, _, _⟩ := Hk_5.out
  have nA : ¬ ku.heap.size = gu.heap.size := by omega
  have nB : ¬ gu.heap.size = ku.heap.size := by omega
  go_wp2_with fail
  clear bx0 bx1 bx2 bx3 bx4 nA nB
  have F_7 := Lib.hid (Fr.trans F_5.out (Fr.alloc gu (.cells #[.bool false, .bool false, .int .i64 0, .int .i64 0, .slice (some ⟨gg, 0, none⟩) 2 2] 46)))
  have Vk_7 := Lib.hid (Vk_5.out.fr (Fr.alloc gu (.cells #[.bool false, .bool false, .int .i64 0, .int .i64 0, .slice (some ⟨gg, 0, none⟩) 2 2] 46)))
  have Hk_7 := Lib.hid (Hk_5.out.fr (Fr.alloc gu (.cells #[.bool false, .bool false, .int .i64 0, .int .i64 0, .slice (some ⟨gg, 0, none⟩) 2 2] 46)))
  have Vg_7 := Lib.hid (Vg_6.out.fr (Fr.alloc gu (.cells #[.bool false, .bool false, .int .i64 0, .int .i64 0, .slice (some ⟨gg, 0, none⟩) 2 2] 46)))
  clear F_5 Vk_5 Hk_5 Vg_6
  have Hg_8 := Lib.hid (Box5.new gu (.bool false) (.bool false) (.int .i64 0) (.int .i64 0) (.slice (some ⟨gg, 0, none⟩) 2 2) 46 _ rfl)
  have gt : gu.heap.size < (gu.alloc (.cells #[.bool false, .bool false, .int .i64 0, .int .i64 0, .slice (some ⟨gg, 0, none⟩) 2 2] 46)).heap.size := by simp
  generalize (gu.alloc (.cells #[.bool false, .bool false, .int .i64 0, .int .i64 0, .slice (some ⟨gg, 0, none⟩) 2 2] 46)) = gv at *
  refine (laws_eqIn_same false false 0 0 [0, 0] _ _ 2 2 _ Vg_7.out.src Vk_7.out.src (by decide)).mono ?_
  rintro e v4 ⟨rfl, v4f⟩
  have v4s := v4f.size
  have F_9 := Lib.hid (Fr.trans F_7.out v4f)
  have Vk_9 := Lib.hid (Vk_7.out.fr v4f)
  have Hk_9 := Lib.hid (Hk_7.out.fr v4f)
  have Vg_9 := Lib.hid (Vg_7.out.fr v4f)
  have Hg_9 := Lib.hid (Hg_8.out.fr v4f)
  clear F_7 Vk_7 Hk_7 Vg_7 Hg_8
  clear v4f
  obtain ⟨_, ax0, ax1, ax2, ax3, ax4, _, _, _, _, _⟩ := Hg_9.out
  go_wp2_with fail
  refine (laws_markIn _ false false 0 0 [0, 0] gg 2 1 _ Vg_9.out (by omega) (by decide) (by omega) (by omega)).mono ?_
  rintro e v7 ⟨rfl, K7, m7⟩
  clear ax0 ax1 ax2 ax3 ax4
  clear Vg_9
  have F_10 := Lib.hid (fr_but F_9.out m7 (fun m hm => by simp at hm; omega))
  have Vk_10 := Lib.hid (Vk_9.out.but m7 (fun b e => by cases e; simp; omega))
  have Hk_10 := Lib.hid (Hk_9.out.but m7 (fun hm => by simp at hm; omega))
  have Hg_10 := Lib.hid (Hg_9.out.but m7 (fun hm => by simp at hm; omega))
  clear F_9 Vk_9 Hk_9 Hg_9
  have KG_11 := Lib.hid (K7)
  have v7s := m7.size
  clear m7 K7
  obtain ⟨_, ax0, ax1, ax2, ax3, ax4, _, _, _, _, _⟩ := Hg_10.out
  go_wp2_with fail
  refine (laws_heldIn _ false false 0 0 2 _ 2 1 _ KG_11.out (by decide) (by omega) (by omega)).mono ?_
  rintro e v8 ⟨rfl, v8f⟩
  clear ax0 ax1 ax2 ax3 ax4
  have v8s := v8f.size
  have F_12 := Lib.hid (Fr.trans F_10.out v8f)
  have Vk_12 := Lib.hid (Vk_10.out.fr v8f)
  have Hk_12 := Lib.hid (Hk_10.out.fr v8f)
  have Hg_12 := Lib.hid (Hg_10.out.fr v8f)
  have KG_12 := Lib.hid (KG_11.out.fr v8f)
  clear F_10 Vk_10 Hk_10 Hg_10 KG_11
  clear v8f
  go_wp2_with fail
  refine (impl_InAll v8).mono ?_
  rintro e pu ⟨pg, rfl, pB, pV, pf⟩
  have ps := pf.size
  have pL := (pV.blk (by omega) pg rfl).2
  have F_13 := Lib.hid (Fr.trans F_12.out pf)
  have Vk_13 := Lib.hid (Vk_12.out.fr pf)
  have Hk_13 := Lib.hid (Hk_12.out.fr pf)
  have Hg_13 := Lib.hid (Hg_12.out.fr pf)
  have KG_13 := Lib.hid (KG_12.out.fr pf)
  clear F_12 Vk_12 Hk_12 Hg_12 KG_12
  have Vp_14 := Lib.hid (pV)
  clear pV pf
  obtain ⟨_, bx0, bx1, bx2, bx3, bx4, _, _, _, _, _⟩ := Hk_13.out
  have nA : ¬ ku.heap.size = pu.heap.size := by omega
  have nB : ¬ pu.heap.size = ku.heap.size := by omega
  go_wp2_with fail
  clear bx0 bx1 bx2 bx3 bx4 nA nB
  have F_15 := Lib.hid (Fr.trans F_13.out (Fr.alloc pu (.cells #[.bool false, .bool false, .int .i64 0, .int .i64 0, .slice (some ⟨pg, 0, none⟩) 2 2] 46)))
  have Vk_15 := Lib.hid (Vk_13.out.fr (Fr.alloc pu (.cells #[.bool false, .bool false, .int .i64 0, .int .i64 0, .slice (some ⟨pg, 0, none⟩) 2 2] 46)))
  have Hk_15 := Lib.hid (Hk_13.out.fr (Fr.alloc pu (.cells #[.bool false, .bool false, .int .i64 0, .int .i64 0, .slice (some ⟨pg, 0, none⟩) 2 2] 46)))
  have Hg_15 := Lib.hid (Hg_13.out.fr (Fr.alloc pu (.cells #[.bool false, .bool false, .int .i64 0, .int .i64 0, .slice (some ⟨pg, 0, none⟩) 2 2] 46)))
  have KG_15 := Lib.hid (KG_13.out.fr (Fr.alloc pu (.cells #[.bool false, .bool false, .int .i64 0, .int .i64 0, .slice (some ⟨pg, 0, none⟩) 2 2] 46)))
  have Vp_15 := Lib.hid (Vp_14.out.fr (Fr.alloc pu (.cells #[.bool false, .bool false, .int .i64 0, .int .i64 0, .slice (some ⟨pg, 0, none⟩) 2 2] 46)))
  clear F_13 Vk_13 Hk_13 Hg_13 KG_13 Vp_14
  have Hp_16 := Lib.hid (Box5.new pu (.bool false) (.bool false) (.int .i64 0) (.int .i64 0) (.slice (some ⟨pg, 0, none⟩) 2 2) 46 _ rfl)
  have pt : pu.heap.size < (pu.alloc (.cells #[.bool false, .bool false, .int .i64 0, .int .i64 0, .slice (some ⟨pg, 0, none⟩) 2 2] 46)).heap.size := by simp
  generalize (pu.alloc (.cells #[.bool false, .bool false, .int .i64 0, .int .i64 0, .slice (some ⟨pg, 0, none⟩) 2 2] 46)) = pv at *
  refine (laws_eqIn_same false false 0 0 [0, 0] _ _ 2 2 _ Vp_15.out.src Vk_15.out.src (by decide)).mono ?_
  rintro e v9 ⟨rfl, v9f⟩
  have v9s := v9f.size
  have F_17 := Lib.hid (Fr.trans F_15.out v9f)
  have Vk_17 := Lib.hid (Vk_15.out.fr v9f)
  have Hk_17 := Lib.hid (Hk_15.out.fr v9f)
  have Hg_17 := Lib.hid (Hg_15.out.fr v9f)
  have KG_17 := Lib.hid (KG_15.out.fr v9f)
  have Vp_17 := Lib.hid (Vp_15.out.fr v9f)
  have Hp_17 := Lib.hid (Hp_16.out.fr v9f)
  clear F_15 Vk_15 Hk_15 Hg_15 KG_15 Vp_15 Hp_16
  clear v9f
  obtain ⟨_, ax0, ax1, ax2, ax3, ax4, _, _, _, _, _⟩ := Hg_17.out
  go_wp2_with fail
  refine (laws_heldIn _ false false 0 0 2 _ 2 1 _ KG_17.out (by decide) (by omega) (by omega)).mono ?_
  rintro e v10 ⟨rfl, v10f⟩
  clear ax0 ax1 ax2 ax3 ax4
  have v10s := v10f.size
  have F_18 := Lib.hid (Fr.trans F_17.out v10f)
  have Vk_18 := Lib.hid (Vk_17.out.fr v10f)
  have Hk_18 := Lib.hid (Hk_17.out.fr v10f)
  have Hg_18 := Lib.hid (Hg_17.out.fr v10f)
  have KG_18 := Lib.hid (KG_17.out.fr v10f)
  have Vp_18 := Lib.hid (Vp_17.out.fr v10f)
  have Hp_18 := Lib.hid (Hp_17.out.fr v10f)
  clear F_17 Vk_17 Hk_17 Hg_17 KG_17 Vp_17 Hp_17
  clear v10f
  go_wp2_with fail
  go_ret
  exact ⟨rfl, F_18.out⟩

set_option maxRecDepth 100000 in
theorem lifted (os : Os) (started : os.Started) (H : Type) (enc : TypeId × Value → H) :
    ReturnsInHanded {} Try.checked os 9 .any (Rows.fnExactInAllSpec.pre6 enc Try.prog Try.f9 Rows.fnExactInAllRow.domain false) (Rows.fnExactInAllSpec.post enc Try.prog Try.f9 false true false false) := by
  refine returnsInHanded_of_change (C := Try.checked) own started (by kernel_rfl) Try.func9
    (ChangeSpec.witness6 (enc := enc) (C := Try.checked) false ⟨#[], #[], []⟩ 8 (by kernel_rfl) (by kernel_rfl) (by kernel_rfl) (by kernel_rfl)) ?_
  intro W base args ds gs before hval0 hW hcnd _
  have hval : ∀ (j : Nat) t v, Try.f9.params[j]? = some t → args[j]? = some v → Value.okWide Try.prog W .any base t v := hval0
  have hW' := hW
  obtain ⟨p, q, hA0, hV, rfl, hfz, hnd⟩ := hW
  have hA : DataW.TrodAll enc Try.prog W 0 (fun _ => true) true Try.f9.params.toList args.toList ds p := hA0
  rw [Try.params9] at hA hval
  obtain ⟨hargs, rfl, rfl⟩ := trodAll_nil hA
  obtain rfl : args = #[] := by cases args; simp_all
  obtain ⟨rfl, rfl⟩ := trodVars_none hV
  clear hA0 hval0
  refine (walk  W ).mono fun e W' ⟨he, bel⟩ => ?_
  subst he
  exact ⟨_, rfl, _, _, _, [], _, [], hW', trodAll_mk1 (shut_bool Try.underlying4 _), trodAll_mk0, rfl, bel.frame _, fun h => by cases h⟩

theorem over : Rows.fnExactInAllRow.holds Try.pinned (OpenSpec.ofChange Rows.fnExactInAllSpec) :=
  OpenClaim.holds_of_wide 9 Try.f9 rfl rfl rfl rfl rfl rfl rfl ⟨rfl, rfl, rfl, rfl, rfl⟩ rfl rfl rfl rfl rfl (by kernel_rfl) Try.func9 (by kernel_rfl)
    (of_decide_eq_true (by kernel_rfl)) (by unfold Func.isWrapper; first | (rw [if_pos (by decide +kernel)]; kernel_rfl) | (rw [if_neg (by decide +kernel)]; exact ⟨rfl, rfl⟩))
    (fun os started H enc _ => lifted os started H enc)

/-- THE STATEMENT. -/
theorem proved : Rows.FnExactInAllSaid := over
#print axioms proved
end Go.Proofs.Ytoacgjjpipdkjaa.fnExactInAll
