/- GueNew of the program returns what GueNew of the model returns, and its answer owns its memory (no condition). -/
import Derived.Test.YtpdlcjjmhcfkjaaRows
import Derived.Test.YtpdlcjjmhcfkjaaGu2
import Derived.Test.YtpdlcjjmhcfkjaaGh3
import Derived.WalkKit
import Derived.ProofKit
import Derived.OpenShut
import Derived.ShutString
import Derived.ChangeOld
import Derived.Below
namespace Go.Proofs.Ytpdlcjjmhcfkjaa.fnExactGueNew
open Go.ChangeShapes Go.WideShapes Go.ChangeAt Go.RowKit
set_option linter.unusedVariables false
set_option linter.unusedSimpArgs false

theorem own : ownKnob Try.prog.godebug = none := by kernel_rfl
theorem laidOut : laidOutB Try.prog = true := by kernel_rfl

set_option maxRecDepth 8000 in
set_option maxHeartbeats 4000000 in
theorem walk  (w : World) :
    Calls Try.prog 3 #[] w fun e w' => e = .returned (.bool true) ∧ Below w.heap.size w w' := by
  go_enter Try.func3, Try.ntmps3
  have HT : Hid (Few5 newG) := Lib.hid ⟨by simp, by simp⟩
  go_wp2_with fail
  refine (spec_GueNew _).mono ?_
  rintro e ku ⟨k1, rfl, kB, kR, kf⟩
  have kl := kR.lt
  have kz := kf.size
  have F_1 := Lib.hid (kf)
  have Vk_2 := Lib.hid ((⟨kR.vc kB, Vc.nil _ _ _ _, fun _ h => absurd h (by simp)⟩ : VcG _ ku newG (some ⟨k1, 0, none⟩) none))
  clear kR kf
  go_wp2_with fail
  have F_3 := Lib.hid (Fr.trans F_1.out (Fr.alloc ku (.cells #[.slice (some ⟨k1, 0, none⟩) 8 8, .slice none 0 0] 25)))
  have Vk_3 := Lib.hid (Vk_2.out.fr (Fr.alloc ku (.cells #[.slice (some ⟨k1, 0, none⟩) 8 8, .slice none 0 0] 25)))
  clear F_1 Vk_2
  have Hk_4 := Lib.hid (Box2.new ku (.slice (some ⟨k1, 0, none⟩) 8 8) (.slice none 0 0) 25 _ rfl)
  have ks : ku.heap.size < (ku.alloc (.cells #[.slice (some ⟨k1, 0, none⟩) 8 8, .slice none 0 0] 25)).heap.size := by simp
  generalize (ku.alloc (.cells #[.slice (some ⟨k1, 0, none⟩) 8 8, .slice none 0 0] 25)) = kv at *
  refine (impl_GueNew _).mono ?_
  rintro e gu ⟨g1, rfl, gB, gR, gf⟩
  have gl := gR.lt
  have gz := gf.size
  have F_5 := Lib.hid (Fr.trans F_3.out gf)
  have Vk_5 := Lib.hid (Vk_3.out.fr gf)
  have Hk_5 := Lib.hid (Hk_4.out.fr gf)
  clear F_3 Vk_3 Hk_4
  have Vg_6 := Lib.hid ((⟨gR.vc gB, Vc.nil _ _ _ _, fun _ h => absurd h (by simp)⟩ : VcG _ gu newG (some ⟨g1, 0, none⟩) none))
  clear gR gf
  obtain ⟨_, b0, b1, _, _⟩ := Hk_5.out
  have nA : ¬ ku.heap.size = gu.heap.size := by omega
  have nB : ¬ gu.heap.size = ku.heap.size := by omega
  go_wp2_with fail
  clear b0 b1 nA nB
  have F_7 := Lib.hid (Fr.trans F_5.out (Fr.alloc gu (.cells #[.slice (some ⟨g1, 0, none⟩) 8 8, .slice none 0 0] 25)))
  have Vk_7 := Lib.hid (Vk_5.out.fr (Fr.alloc gu (.cells #[.slice (some ⟨g1, 0, none⟩) 8 8, .slice none 0 0] 25)))
  have Hk_7 := Lib.hid (Hk_5.out.fr (Fr.alloc gu (.cells #[.slice (some ⟨g1, 0, none⟩) 8 8, .slice none 0 0] 25)))
  have Vg_7 := Lib.hid (Vg_6.out.fr (Fr.alloc gu (.cells #[.slice (some ⟨g1, 0, none⟩) 8 8, .slice none 0 0] 25)))
  clear F_5 Vk_5 Hk_5 Vg_6
  have Hg_8 := Lib.hid (Box2.new gu (.slice (some ⟨g1, 0, none⟩) 8 8) (.slice none 0 0) 25 _ rfl)
  have gs : gu.heap.size < (gu.alloc (.cells #[.slice (some ⟨g1, 0, none⟩) 8 8, .slice none 0 0] 25)).heap.size := by simp
  generalize (gu.alloc (.cells #[.slice (some ⟨g1, 0, none⟩) 8 8, .slice none 0 0] 25)) = gv at *
  refine (laws_eqGue_same _ _ _ newG _ _ _ _ _ _ _ _ Vg_7.out Vk_7.out HT.out).mono ?_
  rintro e v4 ⟨rfl, v4f⟩
  have F_9 := Lib.hid (Fr.trans F_7.out v4f)
  have Vk_9 := Lib.hid (Vk_7.out.fr v4f)
  have Hk_9 := Lib.hid (Hk_7.out.fr v4f)
  have Vg_9 := Lib.hid (Vg_7.out.fr v4f)
  have Hg_9 := Lib.hid (Hg_8.out.fr v4f)
  clear F_7 Vk_7 Hk_7 Vg_7 Hg_8
  have v4s := v4f.size
  clear v4f
  obtain ⟨_, a0, a1, _, _⟩ := Hg_9.out
  go_wp2_with fail
  refine (laws_markGue _ newG _ _ _ _ 1 v4 Vg_9.out (by omega) HT.out (by omega) (by omega)).mono ?_
  rintro e v7 ⟨rfl, K7, m7, l7⟩
  clear a0 a1
  have gB : ∀ k, k ∈ blk5 newG (some ⟨g1, 0, none⟩) none → k = g1 := fun k hk => by simpa [blk5, bkS] using hk
  clear Vg_9
  have F_10 := Lib.hid (Below.trans F_9.out (l7.mono (by omega)))
  have Vk_10 := Lib.hid (Vk_9.out.but m7 (fun j hj hm => by have := gB _ hm; have hj2 : j = k1 := (by simpa [blk5, bkS] using hj); omega))
  have Hk_10 := Lib.hid (Hk_9.out.but m7 (fun hm => by have := gB _ hm; omega))
  have Hg_10 := Lib.hid (Hg_9.out.but m7 (fun hm => by have := gB _ hm; omega))
  clear F_9 Vk_9 Hk_9 Hg_9
  have KG_11 := Lib.hid (K7)
  have v7s := m7.size
  clear m7 l7 K7
  have hk7 : ¬ (1 : Int) + 4 * (List.replicate 8 sl0).length + ([] : List Int).length < 0 := by omega
  obtain ⟨_, a0, a1, _, _⟩ := Hg_10.out
  go_wp2_with fail
  refine (laws_heldGue _ newG _ _ _ _ 1 _ KG_11.out HT.out (by omega) (by omega)).mono ?_
  rintro e v8 ⟨rfl, v8f⟩
  clear a0 a1
  have v8s := v8f.size
  have F_12 := Lib.hid (Fr.trans F_10.out v8f)
  have Vk_12 := Lib.hid (Vk_10.out.fr v8f)
  have Hk_12 := Lib.hid (Hk_10.out.fr v8f)
  have Hg_12 := Lib.hid (Hg_10.out.fr v8f)
  have KG_12 := Lib.hid (KG_11.out.fr v8f)
  clear F_10 Vk_10 Hk_10 Hg_10 KG_11
  clear v8f
  go_wp2_with fail
  refine (impl_GueNew _).mono ?_
  rintro e pu ⟨p1, rfl, pB, pR, pf⟩
  have pl := pR.lt
  have pz := pf.size
  have F_13 := Lib.hid (Fr.trans F_12.out pf)
  have Vk_13 := Lib.hid (Vk_12.out.fr pf)
  have Hk_13 := Lib.hid (Hk_12.out.fr pf)
  have Hg_13 := Lib.hid (Hg_12.out.fr pf)
  have KG_13 := Lib.hid (KG_12.out.fr pf)
  clear F_12 Vk_12 Hk_12 Hg_12 KG_12
  have Vp_14 := Lib.hid ((⟨pR.vc pB, Vc.nil _ _ _ _, fun _ h => absurd h (by simp)⟩ : VcG _ pu newG (some ⟨p1, 0, none⟩) none))
  clear pR pf
  obtain ⟨_, b0, b1, _, _⟩ := Hk_13.out
  have nA : ¬ ku.heap.size = pu.heap.size := by omega
  have nB : ¬ pu.heap.size = ku.heap.size := by omega
  go_wp2_with fail
  clear b0 b1 nA nB
  have F_15 := Lib.hid (Fr.trans F_13.out (Fr.alloc pu (.cells #[.slice (some ⟨p1, 0, none⟩) 8 8, .slice none 0 0] 25)))
  have Vk_15 := Lib.hid (Vk_13.out.fr (Fr.alloc pu (.cells #[.slice (some ⟨p1, 0, none⟩) 8 8, .slice none 0 0] 25)))
  have Hk_15 := Lib.hid (Hk_13.out.fr (Fr.alloc pu (.cells #[.slice (some ⟨p1, 0, none⟩) 8 8, .slice none 0 0] 25)))
  have Hg_15 := Lib.hid (Hg_13.out.fr (Fr.alloc pu (.cells #[.slice (some ⟨p1, 0, none⟩) 8 8, .slice none 0 0] 25)))
  have KG_15 := Lib.hid (KG_13.out.fr (Fr.alloc pu (.cells #[.slice (some ⟨p1, 0, none⟩) 8 8, .slice none 0 0] 25)))
  have Vp_15 := Lib.hid (Vp_14.out.fr (Fr.alloc pu (.cells #[.slice (some ⟨p1, 0, none⟩) 8 8, .slice none 0 0] 25)))
  clear F_13 Vk_13 Hk_13 Hg_13 KG_13 Vp_14
  have Hp_16 := Lib.hid (Box2.new pu (.slice (some ⟨p1, 0, none⟩) 8 8) (.slice none 0 0) 25 _ rfl)
  have ps : pu.heap.size < (pu.alloc (.cells #[.slice (some ⟨p1, 0, none⟩) 8 8, .slice none 0 0] 25)).heap.size := by simp
  generalize (pu.alloc (.cells #[.slice (some ⟨p1, 0, none⟩) 8 8, .slice none 0 0] 25)) = pv at *
  refine (laws_eqGue_same _ _ _ newG _ _ _ _ _ _ _ _ Vp_15.out Vk_15.out HT.out).mono ?_
  rintro e v9 ⟨rfl, v9f⟩
  have F_17 := Lib.hid (Fr.trans F_15.out v9f)
  have Vk_17 := Lib.hid (Vk_15.out.fr v9f)
  have Hk_17 := Lib.hid (Hk_15.out.fr v9f)
  have Hg_17 := Lib.hid (Hg_15.out.fr v9f)
  have KG_17 := Lib.hid (KG_15.out.fr v9f)
  have Vp_17 := Lib.hid (Vp_15.out.fr v9f)
  have Hp_17 := Lib.hid (Hp_16.out.fr v9f)
  clear F_15 Vk_15 Hk_15 Hg_15 KG_15 Vp_15 Hp_16
  clear v9f
  obtain ⟨_, a0, a1, _, _⟩ := Hg_17.out
  go_wp2_with fail
  refine (laws_heldGue _ newG _ _ _ _ 1 _ KG_17.out HT.out (by omega) (by omega)).mono ?_
  rintro e v10 ⟨rfl, v10f⟩
  clear a0 a1
  have v10s := v10f.size
  have F_18 := Lib.hid (Fr.trans F_17.out v10f)
  have Vk_18 := Lib.hid (Vk_17.out.fr v10f)
  have Hk_18 := Lib.hid (Hk_17.out.fr v10f)
  have Hg_18 := Lib.hid (Hg_17.out.fr v10f)
  have KG_18 := Lib.hid (KG_17.out.fr v10f)
  have Vp_18 := Lib.hid (Vp_17.out.fr v10f)
  have Hp_18 := Lib.hid (Hp_17.out.fr v10f)
  clear F_17 Vk_17 Hk_17 Hg_17 KG_17 Vp_17 Hp_17
  clear v10f
  go_wp2_with fail
  go_ret
  exact ⟨rfl, F_18.out⟩

set_option maxRecDepth 100000 in
theorem lifted (os : Os) (started : os.Started) (H : Type) (enc : TypeId × Value → H) :
    ReturnsInHanded {} Try.checked os 3 .any (Rows.fnExactGueNewSpec.pre6 enc Try.prog Try.f3 Rows.fnExactGueNewRow.domain false) (Rows.fnExactGueNewSpec.post enc Try.prog Try.f3 false true false false) := by
  refine returnsInHanded_of_change (C := Try.checked) own started (by kernel_rfl) Try.func3
    (ChangeSpec.witness6 (enc := enc) (C := Try.checked) false ⟨#[], #[], []⟩ 8 (by kernel_rfl) (by kernel_rfl) (by kernel_rfl) (by kernel_rfl)) ?_
  intro W base args ds gs before hval0 hW hcnd _
  have hval : ∀ (j : Nat) t v, Try.f3.params[j]? = some t → args[j]? = some v → Value.okWide Try.prog W .any base t v := hval0
  have hW' := hW
  obtain ⟨p, q, hA0, hV, rfl, hfz, hnd⟩ := hW
  have hA : DataW.TrodAll enc Try.prog W 0 (fun _ => true) true Try.f3.params.toList args.toList ds p := hA0
  rw [Try.params3] at hA hval
  obtain ⟨hargs, rfl, rfl⟩ := trodAll_nil hA
  obtain rfl : args = #[] := by cases args; simp_all
  obtain ⟨rfl, rfl⟩ := trodVars_none hV
  clear hA0 hval0
  refine (walk  W ).mono fun e W' ⟨he, bel⟩ => ?_
  subst he
  exact ⟨_, rfl, _, _, _, [], _, [], hW', trodAll_mk1 (shut_bool Try.underlying4 _), trodAll_mk0, rfl, bel.frame _, fun h => by cases h⟩

theorem over : Rows.fnExactGueNewRow.holds Try.pinned (OpenSpec.ofChange Rows.fnExactGueNewSpec) :=
  OpenClaim.holds_of_wide 3 Try.f3 rfl rfl rfl rfl rfl rfl rfl ⟨rfl, rfl, rfl, rfl, rfl⟩ rfl rfl rfl rfl rfl (by kernel_rfl) Try.func3 (by kernel_rfl)
    (of_decide_eq_true (by kernel_rfl)) (by unfold Func.isWrapper; first | (rw [if_pos (by decide +kernel)]; kernel_rfl) | (rw [if_neg (by decide +kernel)]; exact ⟨rfl, rfl⟩))
    (fun os started H enc _ => lifted os started H enc)

/-- THE STATEMENT. -/
theorem proved : Rows.FnExactGueNewSaid := over
#print axioms proved
end Go.Proofs.Ytpdlcjjmhcfkjaa.fnExactGueNew
