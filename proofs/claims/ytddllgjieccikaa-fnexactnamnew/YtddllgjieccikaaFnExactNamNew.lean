/- NamNew of the program returns what NamNew of the model returns, and its answer owns its memory (no condition). -/
import Derived.Test.YtddllgjieccikaaRows
import Derived.Test.YtddllgjieccikaaN20
import Derived.Test.YtddllgjieccikaaNh2
import Derived.Test.YtddllgjieccikaaNres
import Derived.Test.YtddllgjieccikaaRegion4
import Derived.WalkKit
import Derived.ProofKit
import Derived.OpenShut
import Derived.ShutString
import Derived.ChangeOld
import Derived.Below
namespace Go.Proofs.Ytddllgjieccikaa.fnExactNamNew
open Go.ChangeShapes Go.WideShapes Go.ChangeAt Go.RowKit
set_option linter.unusedVariables false
set_option linter.unusedSimpArgs false

theorem own : ownKnob Try.prog.godebug = none := by kernel_rfl
theorem laidOut : laidOutB Try.prog = true := by kernel_rfl

set_option maxRecDepth 8000 in
set_option maxHeartbeats 4000000 in
theorem walk  (w : World) :
    Calls Try.prog 3 #[] w fun e w' => e = .returned (.bool true) ∧ Below w.heap.size w w' := by
  obtain ⟨t, ht⟩ : ∃ t, newN = t := ⟨_, rfl⟩
  have HT : Hid (FewN t) := by rw [← ht]; exact Lib.hid ⟨by decide, by decide, by decide, by decide⟩
  go_enter Try.func3, Try.ntmps3
  go_wp2_with fail
  refine (spec_NamNew _).mono ?_
  rintro e ku hk
  rw [ht] at hk
  obtain ⟨kM, kF, kV, kH, kcM, kcF, kcV, kcH, rfl, kV, kf⟩ := hk
  have kB := kV.blk
  have kz := kf.size
  have F_1 := Lib.hid (kf)
  have VW_2 := Lib.hid (kV)
  clear kV kf
  go_wp2_with fail
  have F_3 := Lib.hid (Fr.trans F_1.out (Fr.alloc ku (.cells #[.slice kM t.M.length kcM, .slice kF t.F.length kcF, .slice kV t.V.length kcV, .slice kH t.H.length kcH] 25)))
  have VW_3 := Lib.hid (VW_2.out.fr (Fr.alloc ku (.cells #[.slice kM t.M.length kcM, .slice kF t.F.length kcF, .slice kV t.V.length kcV, .slice kH t.H.length kcH] 25)))
  clear F_1 VW_2
  have HW_4 := Lib.hid (Box4.new ku (.slice kM t.M.length kcM) (.slice kF t.F.length kcF) (.slice kV t.V.length kcV) (.slice kH t.H.length kcH) 25 _ rfl)
  have ks : ku.heap.size < (ku.alloc (.cells #[.slice kM t.M.length kcM, .slice kF t.F.length kcF, .slice kV t.V.length kcV, .slice kH t.H.length kcH] 25)).heap.size := by simp
  generalize (ku.alloc (.cells #[.slice kM t.M.length kcM, .slice kF t.F.length kcF, .slice kV t.V.length kcV, .slice kH t.H.length kcH] 25)) = kv at *
  refine (impl_NamNew _).mono ?_
  rintro e gu hg
  rw [ht] at hg
  obtain ⟨gM, gF, gV, gH, gcM, gcF, gcV, gcH, rfl, gV, gf⟩ := hg
  have gB := gV.blk
  have gz := gf.size
  have F_5 := Lib.hid (Fr.trans F_3.out gf)
  have VW_5 := Lib.hid (VW_3.out.fr gf)
  have HW_5 := Lib.hid (HW_4.out.fr gf)
  clear F_3 VW_3 HW_4
  have VG_6 := Lib.hid (gV)
  clear gV gf
  obtain ⟨_, b0, b1, b2, b3, _, _, _, _⟩ := HW_5.out
  have nA : ¬ ku.heap.size = gu.heap.size := by omega
  have nB : ¬ gu.heap.size = ku.heap.size := by omega
  go_wp2_with fail
  clear b0 b1 b2 b3
  clear nA nB
  have F_7 := Lib.hid (Fr.trans F_5.out (Fr.alloc gu (.cells #[.slice gM t.M.length gcM, .slice gF t.F.length gcF, .slice gV t.V.length gcV, .slice gH t.H.length gcH] 25)))
  have VW_7 := Lib.hid (VW_5.out.fr (Fr.alloc gu (.cells #[.slice gM t.M.length gcM, .slice gF t.F.length gcF, .slice gV t.V.length gcV, .slice gH t.H.length gcH] 25)))
  have HW_7 := Lib.hid (HW_5.out.fr (Fr.alloc gu (.cells #[.slice gM t.M.length gcM, .slice gF t.F.length gcF, .slice gV t.V.length gcV, .slice gH t.H.length gcH] 25)))
  have VG_7 := Lib.hid (VG_6.out.fr (Fr.alloc gu (.cells #[.slice gM t.M.length gcM, .slice gF t.F.length gcF, .slice gV t.V.length gcV, .slice gH t.H.length gcH] 25)))
  clear F_5 VW_5 HW_5 VG_6
  have HG_8 := Lib.hid (Box4.new gu (.slice gM t.M.length gcM) (.slice gF t.F.length gcF) (.slice gV t.V.length gcV) (.slice gH t.H.length gcH) 25 _ rfl)
  have gs : gu.heap.size < (gu.alloc (.cells #[.slice gM t.M.length gcM, .slice gF t.F.length gcF, .slice gV t.V.length gcV, .slice gH t.H.length gcH] 25)).heap.size := by simp
  generalize (gu.alloc (.cells #[.slice gM t.M.length gcM, .slice gF t.F.length gcF, .slice gV t.V.length gcV, .slice gH t.H.length gcH] 25)) = gv at *
  refine (laws_eqNam_same _ t _ _ _ _ _ _ _ _ _ _ _ _ _ _ _ _ (VcNm.src VG_7.out) (VcNm.src VW_7.out) HT.out).mono ?_
  rintro e v4 ⟨rfl, v4f⟩
  have F_9 := Lib.hid (Fr.trans F_7.out v4f)
  have VW_9 := Lib.hid (VW_7.out.fr v4f)
  have HW_9 := Lib.hid (HW_7.out.fr v4f)
  have VG_9 := Lib.hid (VG_7.out.fr v4f)
  have HG_9 := Lib.hid (HG_8.out.fr v4f)
  clear F_7 VW_7 HW_7 VG_7 HG_8
  have v4s := v4f.size
  clear v4f
  obtain ⟨_, a0, a1, a2, a3, _, _, _, _⟩ := HG_9.out
  go_wp2_with fail
  refine (laws_markNam _ t _ _ _ _ _ _ _ _ 1 v4 VG_9.out (by omega) HT.out (by omega) (by omega)).mono ?_
  rintro e v7 ⟨rfl, K7, m7, l7⟩
  clear a0 a1 a2 a3
  clear VG_9
  have F_10 := Lib.hid (Below.trans F_9.out (l7.mono (by omega)))
  have VW_10 := Lib.hid (VW_9.out.but m7 (fun j hj hm => by have := gB _ hm; have := kB j hj; omega))
  have HW_10 := Lib.hid (HW_9.out.but m7 (fun hm => by have := gB _ hm; omega))
  have HG_10 := Lib.hid (HG_9.out.but m7 (fun hm => by have := gB _ hm; omega))
  clear F_9 VW_9 HW_9 HG_9
  have KG_11 := Lib.hid (K7)
  have v7s := m7.size
  clear m7 l7 K7
  have h1 := HT.out.M
  have h2 := HT.out.F
  have h3 := HT.out.V
  have h4 := HT.out.H
  have hk7 : ¬ (1 : Int) + t.M.length + t.F.length + t.V.length + t.H.length < 0 := by omega
  obtain ⟨_, a0, a1, a2, a3, _, _, _, _⟩ := HG_10.out
  go_wp2_with fail
  refine (laws_heldNam _ t _ _ _ _ _ _ _ _ 1 _ KG_11.out HT.out (by omega) (by omega)).mono ?_
  rintro e v8 ⟨rfl, v8f⟩
  clear a0 a1 a2 a3
  have v8s := v8f.size
  have F_12 := Lib.hid (Fr.trans F_10.out v8f)
  have VW_12 := Lib.hid (VW_10.out.fr v8f)
  have HW_12 := Lib.hid (HW_10.out.fr v8f)
  have HG_12 := Lib.hid (HG_10.out.fr v8f)
  have KG_12 := Lib.hid (KG_11.out.fr v8f)
  clear F_10 VW_10 HW_10 HG_10 KG_11
  clear v8f
  go_wp2_with fail
  refine (impl_NamNew _).mono ?_
  rintro e pu hp
  rw [ht] at hp
  obtain ⟨pM, pF, pV, pH, pcM, pcF, pcV, pcH, rfl, pV, pf⟩ := hp
  have pB := pV.blk
  have pz := pf.size
  have F_13 := Lib.hid (Fr.trans F_12.out pf)
  have VW_13 := Lib.hid (VW_12.out.fr pf)
  have HW_13 := Lib.hid (HW_12.out.fr pf)
  have HG_13 := Lib.hid (HG_12.out.fr pf)
  have KG_13 := Lib.hid (KG_12.out.fr pf)
  clear F_12 VW_12 HW_12 HG_12 KG_12
  have VP_14 := Lib.hid (pV)
  clear pV pf
  obtain ⟨_, b0, b1, b2, b3, _, _, _, _⟩ := HW_13.out
  have nA : ¬ ku.heap.size = pu.heap.size := by omega
  have nB : ¬ pu.heap.size = ku.heap.size := by omega
  go_wp2_with fail
  clear b0 b1 b2 b3
  clear nA nB
  have F_15 := Lib.hid (Fr.trans F_13.out (Fr.alloc pu (.cells #[.slice pM t.M.length pcM, .slice pF t.F.length pcF, .slice pV t.V.length pcV, .slice pH t.H.length pcH] 25)))
  have VW_15 := Lib.hid (VW_13.out.fr (Fr.alloc pu (.cells #[.slice pM t.M.length pcM, .slice pF t.F.length pcF, .slice pV t.V.length pcV, .slice pH t.H.length pcH] 25)))
  have HW_15 := Lib.hid (HW_13.out.fr (Fr.alloc pu (.cells #[.slice pM t.M.length pcM, .slice pF t.F.length pcF, .slice pV t.V.length pcV, .slice pH t.H.length pcH] 25)))
  have HG_15 := Lib.hid (HG_13.out.fr (Fr.alloc pu (.cells #[.slice pM t.M.length pcM, .slice pF t.F.length pcF, .slice pV t.V.length pcV, .slice pH t.H.length pcH] 25)))
  have KG_15 := Lib.hid (KG_13.out.fr (Fr.alloc pu (.cells #[.slice pM t.M.length pcM, .slice pF t.F.length pcF, .slice pV t.V.length pcV, .slice pH t.H.length pcH] 25)))
  have VP_15 := Lib.hid (VP_14.out.fr (Fr.alloc pu (.cells #[.slice pM t.M.length pcM, .slice pF t.F.length pcF, .slice pV t.V.length pcV, .slice pH t.H.length pcH] 25)))
  clear F_13 VW_13 HW_13 HG_13 KG_13 VP_14
  have HP_16 := Lib.hid (Box4.new pu (.slice pM t.M.length pcM) (.slice pF t.F.length pcF) (.slice pV t.V.length pcV) (.slice pH t.H.length pcH) 25 _ rfl)
  have ps : pu.heap.size < (pu.alloc (.cells #[.slice pM t.M.length pcM, .slice pF t.F.length pcF, .slice pV t.V.length pcV, .slice pH t.H.length pcH] 25)).heap.size := by simp
  generalize (pu.alloc (.cells #[.slice pM t.M.length pcM, .slice pF t.F.length pcF, .slice pV t.V.length pcV, .slice pH t.H.length pcH] 25)) = pv at *
  refine (laws_eqNam_same _ t _ _ _ _ _ _ _ _ _ _ _ _ _ _ _ _ (VcNm.src VP_15.out) (VcNm.src VW_15.out) HT.out).mono ?_
  rintro e v9 ⟨rfl, v9f⟩
  have F_17 := Lib.hid (Fr.trans F_15.out v9f)
  have VW_17 := Lib.hid (VW_15.out.fr v9f)
  have HW_17 := Lib.hid (HW_15.out.fr v9f)
  have HG_17 := Lib.hid (HG_15.out.fr v9f)
  have KG_17 := Lib.hid (KG_15.out.fr v9f)
  have VP_17 := Lib.hid (VP_15.out.fr v9f)
  have HP_17 := Lib.hid (HP_16.out.fr v9f)
  clear F_15 VW_15 HW_15 HG_15 KG_15 VP_15 HP_16
  clear v9f
  obtain ⟨_, a0, a1, a2, a3, _, _, _, _⟩ := HG_17.out
  go_wp2_with fail
  refine (laws_heldNam _ t _ _ _ _ _ _ _ _ 1 _ KG_17.out HT.out (by omega) (by omega)).mono ?_
  rintro e v10 ⟨rfl, v10f⟩
  clear a0 a1 a2 a3
  have v10s := v10f.size
  have F_18 := Lib.hid (Fr.trans F_17.out v10f)
  have VW_18 := Lib.hid (VW_17.out.fr v10f)
  have HW_18 := Lib.hid (HW_17.out.fr v10f)
  have HG_18 := Lib.hid (HG_17.out.fr v10f)
  have KG_18 := Lib.hid (KG_17.out.fr v10f)
  have VP_18 := Lib.hid (VP_17.out.fr v10f)
  have HP_18 := Lib.hid (HP_17.out.fr v10f)
  clear F_17 VW_17 HW_17 HG_17 KG_17 VP_17 HP_17
  clear v10f
  go_wp2_with fail
  go_ret
  exact ⟨rfl, F_18.out⟩

set_option maxRecDepth 100000 in
theorem lifted (os : Os) (started : os.Started) (H : Type) (enc : TypeId × Value → H) :
    ReturnsInHanded {} Try.checked os 3 .any (Rows.fnExactNamNewSpec.pre6 enc Try.prog Try.f3 Rows.fnExactNamNewRow.domain false) (Rows.fnExactNamNewSpec.post enc Try.prog Try.f3 false true false false) := by
  refine returnsInHanded_of_change (C := Try.checked) own started (by kernel_rfl) Try.func3
    (ChangeSpec.witness6 (enc := enc) (C := Try.checked) false ⟨#[], #[], []⟩ 8 (by kernel_rfl) (by kernel_rfl) (by kernel_rfl) (by kernel_rfl)) ?_
  intro W base args ds gs before hval0 hW hcnd _
  have hval : ∀ (j : Nat) t v, Try.f3.params[j]? = some t → args[j]? = some v → Value.okWide Try.prog W .any base t v := hval0
  have hW' := hW
  obtain ⟨p, q, hA0, hV, rfl, hfz, hnd⟩ := hW
  have hA : DataW.TrodAll enc Try.prog W 0 (fun _ => true) true Try.f3.params.toList args.toList ds p := hA0
  rw [Try.params3] at hA hval
  obtain ⟨hargs, rfl, rfl⟩ := trodAll_nil hA
  obtain rfl : args = #[] := by cases args; simp_all
  obtain ⟨rfl, rfl⟩ := trodVars_none hV
  clear hA0 hval0
  refine (walk  W ).mono fun e W' ⟨he, bel⟩ => ?_
  subst he
  exact ⟨_, rfl, _, _, _, [], _, [], hW', trodAll_mk1 (shut_bool Try.underlying4 _), trodAll_mk0, rfl, bel.frame _, fun h => by cases h⟩

theorem over : Rows.fnExactNamNewRow.holds Try.pinned (OpenSpec.ofChange Rows.fnExactNamNewSpec) :=
  OpenClaim.holds_of_wide 3 Try.f3 rfl rfl rfl rfl rfl rfl rfl ⟨rfl, rfl, rfl, rfl, rfl⟩ rfl rfl rfl rfl rfl (by kernel_rfl) Try.func3 (by kernel_rfl)
    (of_decide_eq_true (by kernel_rfl)) (by unfold Func.isWrapper; first | (rw [if_pos (by decide +kernel)]; kernel_rfl) | (rw [if_neg (by decide +kernel)]; exact ⟨rfl, rfl⟩))
    (fun os started H enc _ => lifted os started H enc)

/-- THE STATEMENT. -/
theorem proved : Rows.FnExactNamNewSaid := over
#print axioms proved
end Go.Proofs.Ytddllgjieccikaa.fnExactNamNew
