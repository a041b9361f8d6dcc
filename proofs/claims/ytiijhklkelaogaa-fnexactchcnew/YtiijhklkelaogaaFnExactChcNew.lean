/- For every slice of ints, ChcNew of the program returns what ChcNew of the model returns, writes into no argument, and its answer owns its memory (no condition). -/
import Derived.Test.YtiijhklkelaogaaRows
import Derived.Test.YtiijhklkelaogaaK25
import Derived.WalkKit
import Derived.ProofKit
import Derived.OpenShut
import Derived.ShutString
import Derived.ChangeOld
import Derived.Below
namespace Go.Proofs.Ytiijhklkelaogaa.fnExactChcNew
open Go.ChangeShapes Go.WideShapes Go.ChangeAt Go.RowKit
set_option linter.unusedVariables false
set_option linter.unusedSimpArgs false

theorem own : ownKnob Try.prog.godebug = none := by kernel_rfl
theorem laidOut : laidOutB Try.prog = true := by kernel_rfl

def IsRow (k : IntKind) (w : World) (a : Option Addr) (len cap : Nat) (zs : List Int) : Prop :=
  (a = none ∧ len = 0 ∧ cap = 0 ∧ zs = []) ∨
  ∃ x, a = some x ∧ len ≤ cap ∧ cap ≤ maxLen ∧ zs.length = cap ∧ (∀ i, i < zs.length → w.cell? (x.add i) = some (.int k (zs.getD i 0))) ∧ ∀ n ∈ zs, (Lit.int k n).wf = true

set_option maxRecDepth 8000 in
set_option maxHeartbeats 4000000 in
theorem walk (a0 : Option Addr) (len0 cap0 : Nat) (z0 : List Int) (w : World) (w0 : IsRow .i64 w a0 len0 cap0 z0) :
    Calls Try.prog 3 #[.slice a0 len0 cap0] w fun e w' => e = .returned (.bool true) ∧ Below w.heap.size w w' := by
  obtain ⟨xs, rfl, hs⟩ : ∃ xs : List Int, xs.length = len0 ∧ Src w xs.length (ivl xs) a0 := by
    rcases w0 with ⟨rfl, rfl, rfl, rfl⟩ | ⟨x, rfl, hl, hm, hz, hcell, hwz⟩
    · exact ⟨[], rfl, fun h => by simp at h⟩
    · refine ⟨z0.take len0, by simp; omega, src_of_row fun i hi => ?_⟩
      have hi' : i < len0 := by simp at hi; omega
      rw [hcell i (by omega)]
      simp only [ivl, List.getD_eq_getElem?_getD, List.getElem?_take_of_lt hi']
  clear w0 z0
  have HS0 := Lib.hid hs
  clear hs
  go_enter Try.func3, Try.ntmps3
  by_cases hl : xs.length ≤ 1048576
  · have hl' : ¬ (1048576 : Int) < (xs.length : Int) := by omega
    have hok := okA_new xs
    generalize ht : newC7 xs = t at *
    go_wp2_with fail
    refine (laws_toIntS _ _ _ _ (fun i => xs.getD i 0) (HS0.out) hl).mono ?_
    rintro e yw ⟨y1, rfl, yb, yl, yV, yf⟩
    have ys := yf.size
    have F_1 := Lib.hid (yf)
    have Vy_2 := Lib.hid (yV)
    clear yV yf
    go_wp2_with fail
    refine (ht ▸ spec_ChcNew xs (some ⟨y1, 0, none⟩) xs.length yw Vy_2.out.src hl).mono ?_
    rintro e ku ⟨kM, kX, ka, kb, kc, kd, rfl, kH, kV, kq, kf⟩
    unfold caV
    have kz := kf.size
    have kB := kV.bl
    have HT : Hid (FewT kM kX) := Lib.hid (okA_few hok kH)
    have HH := Lib.hid kH
    clear kH
    clear Vy_2
    have F_3 := Lib.hid (Fr.trans F_1.out kf)
    clear F_1
    have Vk_4 := Lib.hid (kV)
    clear kV kf
    go_wp2_with fail
    have F_5 := Lib.hid (Fr.trans F_3.out (Fr.alloc ku (.cells #[.slice ka kM.length kc, .slice kb kX.length kd] 25)))
    have Vk_5 := Lib.hid (Vk_4.out.fr (Fr.alloc ku (.cells #[.slice ka kM.length kc, .slice kb kX.length kd] 25)))
    clear F_3 Vk_4
    have Hk_6 := Lib.hid (Box2.new ku (.slice ka kM.length kc) (.slice kb kX.length kd) 25 _ rfl)
    have ks : ku.heap.size < (ku.alloc (.cells #[.slice ka kM.length kc, .slice kb kX.length kd] 25)).heap.size := by simp
    generalize (ku.alloc (.cells #[.slice ka kM.length kc, .slice kb kX.length kd] 25)) = kv at *
    refine (laws_toIntS _ _ _ _ (fun i => xs.getD i 0) (HS0.out.fr F_5.out) hl).mono ?_
    rintro e qw ⟨q1, rfl, qb, ql, qV, qf⟩
    have qs := qf.size
    have F_7 := Lib.hid (Fr.trans F_5.out qf)
    have Vk_7 := Lib.hid (Vk_5.out.fr qf)
    have Hk_7 := Lib.hid (Hk_6.out.fr qf)
    clear F_5 Vk_5 Hk_6
    have HV_8 := Lib.hid (qV)
    clear qV qf
    go_wp2_with fail
    refine (ht ▸ impl_ChcNew xs (some ⟨q1, 0, none⟩) xs.length qw HV_8.out.src hl).mono ?_
    rintro e gu ⟨gM, gX, ga, gb, gc, gd, rfl, gH, gV, gq, gf⟩
    unfold caV
    have gz := gf.size
    have gB := gV.bl
    obtain ⟨ge, gE0⟩ := ch_inj HH.out gH
    subst ge
    have gE := Lib.hid gE0.symm
    have gT := Lib.hid (few_lns HT.out gE0)
    clear gH gE0
    have F_9 := Lib.hid (Fr.trans F_7.out gf)
    have Vk_9 := Lib.hid (Vk_7.out.fr gf)
    have Hk_9 := Lib.hid (Hk_7.out.fr gf)
    have HV_9 := Lib.hid (HV_8.out.fr gf)
    clear F_7 Vk_7 Hk_7 HV_8
    have Vg_10 := Lib.hid (gV)
    clear gV gf
    obtain ⟨_, b0, b1, _, _⟩ := Hk_9.out
    have nA : ¬ ku.heap.size = gu.heap.size := by omega
    have nB : ¬ gu.heap.size = ku.heap.size := by omega
    go_wp2_with fail
    clear b0 b1 nA nB
    have F_11 := Lib.hid (Fr.trans F_9.out (Fr.alloc gu (.cells #[.slice ga kM.length gc, .slice gb gX.length gd] 25)))
    have Vk_11 := Lib.hid (Vk_9.out.fr (Fr.alloc gu (.cells #[.slice ga kM.length gc, .slice gb gX.length gd] 25)))
    have Hk_11 := Lib.hid (Hk_9.out.fr (Fr.alloc gu (.cells #[.slice ga kM.length gc, .slice gb gX.length gd] 25)))
    have HV_11 := Lib.hid (HV_9.out.fr (Fr.alloc gu (.cells #[.slice ga kM.length gc, .slice gb gX.length gd] 25)))
    have Vg_11 := Lib.hid (Vg_10.out.fr (Fr.alloc gu (.cells #[.slice ga kM.length gc, .slice gb gX.length gd] 25)))
    clear F_9 Vk_9 Hk_9 HV_9 Vg_10
    have Hg_12 := Lib.hid (Box2.new gu (.slice ga kM.length gc) (.slice gb gX.length gd) 25 _ rfl)
    have gs : gu.heap.size < (gu.alloc (.cells #[.slice ga kM.length gc, .slice gb gX.length gd] 25)).heap.size := by simp
    generalize (gu.alloc (.cells #[.slice ga kM.length gc, .slice gb gX.length gd] 25)) = gv at *
    refine (laws_eqChc_same kM gX kX _ _ _ _ _ _ _ _ _ Vg_11.out.src Vk_11.out.src gE.out gT.out.few).mono ?_
    rintro e v4 ⟨rfl, v4f⟩
    have F_13 := Lib.hid (Fr.trans F_11.out v4f)
    have Vk_13 := Lib.hid (Vk_11.out.fr v4f)
    have Hk_13 := Lib.hid (Hk_11.out.fr v4f)
    have HV_13 := Lib.hid (HV_11.out.fr v4f)
    have Vg_13 := Lib.hid (Vg_11.out.fr v4f)
    have Hg_13 := Lib.hid (Hg_12.out.fr v4f)
    clear F_11 Vk_11 Hk_11 HV_11 Vg_11 Hg_12
    have v4s := v4f.size
    clear v4f
    go_wp2_with fail
    refine (laws_toIntS _ _ _ _ (fun i => xs.getD i 0) (HS0.out.fr F_13.out) hl).mono ?_
    rintro e zw ⟨z1, rfl, zb, zl, zV, zf⟩
    have zs := zf.size
    have F_14 := Lib.hid (Fr.trans F_13.out zf)
    have Vk_14 := Lib.hid (Vk_13.out.fr zf)
    have Hk_14 := Lib.hid (Hk_13.out.fr zf)
    have HV_14 := Lib.hid (HV_13.out.fr zf)
    have Vg_14 := Lib.hid (Vg_13.out.fr zf)
    have Hg_14 := Lib.hid (Hg_13.out.fr zf)
    clear F_13 Vk_13 Hk_13 HV_13 Vg_13 Hg_13
    have Vz_15 := Lib.hid (zV)
    clear zV zf
    go_wp2_with fail
    refine (laws_eqIntS_same _ _ _ _ (fun i => xs.getD i 0) _ _ _ _ HV_14.out Vz_15.out hl).mono ?_
    rintro e u ⟨rfl, mu, hmu⟩
    have uf : Fr zw u := by rw [← hmu]; exact Below.drewN (Below.refl _ _) _
    have us := uf.size
    clear hmu
    clear Vz_15
    have F_16 := Lib.hid (Fr.trans F_14.out uf)
    have Vk_16 := Lib.hid (Vk_14.out.fr uf)
    have Hk_16 := Lib.hid (Hk_14.out.fr uf)
    have HV_16 := Lib.hid (HV_14.out.fr uf)
    have Vg_16 := Lib.hid (Vg_14.out.fr uf)
    have Hg_16 := Lib.hid (Hg_14.out.fr uf)
    clear F_14 Vk_14 Hk_14 HV_14 Vg_14 Hg_14
    clear uf
    go_wp2_with fail
    refine (laws_markIntS _ _ _ (fun i => xs.getD i 0) _ _ 1 HV_16.out (by omega) hl (by omega) (by omega)).mono ?_
    rintro e v5 ⟨rfl, _, r5, l5⟩
    have m5 := but_row r5
    have nb5 : ∀ k, k ∈ ((some (⟨q1, 0, none⟩ : Addr)).map (·.block)).toList → k = q1 := fun k hk => by simpa using hk
    clear HV_16
    have F_17 := Lib.hid (Below.trans F_16.out (l5.mono (by omega)))
    have Vk_17 := Lib.hid (Vk_16.out.apart m5 (fun m hm hx => by have := nb5 _ hx; have := kB _ hm; omega))
    have Hk_17 := Lib.hid (Hk_16.out.but m5 (fun hm => by have := nb5 _ hm; omega))
    have Vg_17 := Lib.hid (Vg_16.out.apart m5 (fun m hm hx => by have := nb5 _ hx; have := gB _ hm; omega))
    have Hg_17 := Lib.hid (Hg_16.out.but m5 (fun hm => by have := nb5 _ hm; omega))
    clear F_16 Vk_16 Hk_16 Vg_16 Hg_16
    have v5s := m5.size
    clear m5 l5 nb5 r5
    have hk5 : ¬ (1 : Int) + xs.length < 0 := by omega
    obtain ⟨_, a0, a1, _, _⟩ := Hg_17.out
    obtain ⟨_, b0, b1, _, _⟩ := Hk_17.out
    go_wp2_with fail
    refine (laws_eqChc_same kM gX kX _ _ _ _ _ _ _ _ _ Vg_17.out.src Vk_17.out.src gE.out gT.out.few).mono ?_
    rintro e v6 ⟨rfl, v6f⟩
    clear a0 a1 b0 b1
    have F_18 := Lib.hid (Fr.trans F_17.out v6f)
    have Vk_18 := Lib.hid (Vk_17.out.fr v6f)
    have Hk_18 := Lib.hid (Hk_17.out.fr v6f)
    have Vg_18 := Lib.hid (Vg_17.out.fr v6f)
    have Hg_18 := Lib.hid (Hg_17.out.fr v6f)
    clear F_17 Vk_17 Hk_17 Vg_17 Hg_17
    have v6s := v6f.size
    clear v6f
    obtain ⟨_, a0, a1, _, _⟩ := Hg_18.out
    go_wp2_with fail
    refine (laws_markChc _ kM gX _ _ _ _ 1 _ Vg_18.out (by omega) gT.out (by omega) (by omega)).mono ?_
    rintro e v7 ⟨rfl, K7, m7⟩
    clear a0 a1
    clear Vg_18
    have F_19 := Lib.hid (fr_but F_18.out m7 (fun m hm => by have := gB _ hm; omega))
    have Vk_19 := Lib.hid (Vk_18.out.apart m7 (fun m hm hx => by have := gB _ hx; have := kB _ hm; omega))
    have Hk_19 := Lib.hid (Hk_18.out.but m7 (fun hm => by have := gB _ hm; omega))
    have Hg_19 := Lib.hid (Hg_18.out.but m7 (fun hm => by have := gB _ hm; omega))
    clear F_18 Vk_18 Hk_18 Hg_18
    have KG_20 := Lib.hid (K7)
    have v7s := m7.size
    clear m7 K7
    have hk7 : ¬ (1 : Int) + kM.length + 3 * gX.length + sumW gX gX.length < 0 := by omega
    obtain ⟨_, a0, a1, _, _⟩ := Hg_19.out
    go_wp2_with fail
    refine (laws_heldChc _ kM gX _ _ _ _ 1 _ KG_20.out gT.out (by omega) (by omega)).mono ?_
    rintro e v8 ⟨rfl, v8f⟩
    clear a0 a1
    have v8s := v8f.size
    have F_21 := Lib.hid (Fr.trans F_19.out v8f)
    have Vk_21 := Lib.hid (Vk_19.out.fr v8f)
    have Hk_21 := Lib.hid (Hk_19.out.fr v8f)
    have Hg_21 := Lib.hid (Hg_19.out.fr v8f)
    have KG_21 := Lib.hid (KG_20.out.fr v8f)
    clear F_19 Vk_19 Hk_19 Hg_19 KG_20
    clear v8f
    go_wp2_with fail
    refine (laws_toIntS _ _ _ _ (fun i => xs.getD i 0) (HS0.out.fr F_21.out) hl).mono ?_
    rintro e ow ⟨o1, rfl, ob, ol, oV, of⟩
    have os := of.size
    have F_22 := Lib.hid (Fr.trans F_21.out of)
    have Vk_22 := Lib.hid (Vk_21.out.fr of)
    have Hk_22 := Lib.hid (Hk_21.out.fr of)
    have Hg_22 := Lib.hid (Hg_21.out.fr of)
    have KG_22 := Lib.hid (KG_21.out.fr of)
    clear F_21 Vk_21 Hk_21 Hg_21 KG_21
    have Vo_23 := Lib.hid (oV)
    clear oV of
    go_wp2_with fail
    refine (ht ▸ impl_ChcNew xs (some ⟨o1, 0, none⟩) xs.length ow Vo_23.out.src hl).mono ?_
    rintro e pu ⟨pM, pX, pa, pb, pc, pd, rfl, pH, pV, pq, pf⟩
    unfold caV
    have pz := pf.size
    have pB := pV.bl
    obtain ⟨pe, pE0⟩ := ch_inj HH.out pH
    subst pe
    have pE := Lib.hid pE0.symm
    have pT := Lib.hid (few_lns HT.out pE0)
    clear pH pE0
    clear Vo_23
    have F_24 := Lib.hid (Fr.trans F_22.out pf)
    have Vk_24 := Lib.hid (Vk_22.out.fr pf)
    have Hk_24 := Lib.hid (Hk_22.out.fr pf)
    have Hg_24 := Lib.hid (Hg_22.out.fr pf)
    have KG_24 := Lib.hid (KG_22.out.fr pf)
    clear F_22 Vk_22 Hk_22 Hg_22 KG_22
    have Vp_25 := Lib.hid (pV)
    clear pV pf
    obtain ⟨_, b0, b1, _, _⟩ := Hk_24.out
    have nA : ¬ ku.heap.size = pu.heap.size := by omega
    have nB : ¬ pu.heap.size = ku.heap.size := by omega
    go_wp2_with fail
    clear b0 b1 nA nB
    have F_26 := Lib.hid (Fr.trans F_24.out (Fr.alloc pu (.cells #[.slice pa kM.length pc, .slice pb pX.length pd] 25)))
    have Vk_26 := Lib.hid (Vk_24.out.fr (Fr.alloc pu (.cells #[.slice pa kM.length pc, .slice pb pX.length pd] 25)))
    have Hk_26 := Lib.hid (Hk_24.out.fr (Fr.alloc pu (.cells #[.slice pa kM.length pc, .slice pb pX.length pd] 25)))
    have Hg_26 := Lib.hid (Hg_24.out.fr (Fr.alloc pu (.cells #[.slice pa kM.length pc, .slice pb pX.length pd] 25)))
    have KG_26 := Lib.hid (KG_24.out.fr (Fr.alloc pu (.cells #[.slice pa kM.length pc, .slice pb pX.length pd] 25)))
    have Vp_26 := Lib.hid (Vp_25.out.fr (Fr.alloc pu (.cells #[.slice pa kM.length pc, .slice pb pX.length pd] 25)))
    clear F_24 Vk_24 Hk_24 Hg_24 KG_24 Vp_25
    have Hp_27 := Lib.hid (Box2.new pu (.slice pa kM.length pc) (.slice pb pX.length pd) 25 _ rfl)
    have ps : pu.heap.size < (pu.alloc (.cells #[.slice pa kM.length pc, .slice pb pX.length pd] 25)).heap.size := by simp
    generalize (pu.alloc (.cells #[.slice pa kM.length pc, .slice pb pX.length pd] 25)) = pv at *
    refine (laws_eqChc_same kM pX kX _ _ _ _ _ _ _ _ _ Vp_26.out.src Vk_26.out.src pE.out pT.out.few).mono ?_
    rintro e v9 ⟨rfl, v9f⟩
    have F_28 := Lib.hid (Fr.trans F_26.out v9f)
    have Vk_28 := Lib.hid (Vk_26.out.fr v9f)
    have Hk_28 := Lib.hid (Hk_26.out.fr v9f)
    have Hg_28 := Lib.hid (Hg_26.out.fr v9f)
    have KG_28 := Lib.hid (KG_26.out.fr v9f)
    have Vp_28 := Lib.hid (Vp_26.out.fr v9f)
    have Hp_28 := Lib.hid (Hp_27.out.fr v9f)
    clear F_26 Vk_26 Hk_26 Hg_26 KG_26 Vp_26 Hp_27
    have v9s := v9f.size
    clear v9f
    obtain ⟨_, a0, a1, _, _⟩ := Hg_28.out
    go_wp2_with fail
    refine (laws_heldChc _ kM gX _ _ _ _ 1 _ KG_28.out gT.out (by omega) (by omega)).mono ?_
    rintro e v10 ⟨rfl, v10f⟩
    clear a0 a1
    have v10s := v10f.size
    have F_29 := Lib.hid (Fr.trans F_28.out v10f)
    have Vk_29 := Lib.hid (Vk_28.out.fr v10f)
    have Hk_29 := Lib.hid (Hk_28.out.fr v10f)
    have Hg_29 := Lib.hid (Hg_28.out.fr v10f)
    have KG_29 := Lib.hid (KG_28.out.fr v10f)
    have Vp_29 := Lib.hid (Vp_28.out.fr v10f)
    have Hp_29 := Lib.hid (Hp_28.out.fr v10f)
    clear F_28 Vk_28 Hk_28 Hg_28 KG_28 Vp_28 Hp_28
    clear v10f
    go_wp2_with fail
    go_ret
    exact ⟨rfl, F_29.out⟩
  · go_wp2
    go_ret
    exact ⟨rfl, Below.refl _ _⟩

set_option maxRecDepth 100000 in
theorem lifted (os : Os) (started : os.Started) (H : Type) (enc : TypeId × Value → H) :
    ReturnsInHanded {} Try.checked os 3 .any (Rows.fnExactChcNewSpec.pre6 enc Try.prog Try.f3 Rows.fnExactChcNewRow.domain false) (Rows.fnExactChcNewSpec.post enc Try.prog Try.f3 false true false false) := by
  refine returnsInHanded_of_change (C := Try.checked) own started (by kernel_rfl) Try.func3
    (ChangeSpec.witness6 (enc := enc) (C := Try.checked) false ⟨#[], #[.slice none 0 0], []⟩ 8 (by kernel_rfl) (by kernel_rfl) (by kernel_rfl) (by kernel_rfl)) ?_
  intro W base args ds gs before hval0 hW hcnd _
  have hval : ∀ (j : Nat) t v, Try.f3.params[j]? = some t → args[j]? = some v → Value.okWide Try.prog W .any base t v := hval0
  have hW' := hW
  obtain ⟨p, q, hA0, hV, rfl, hfz, hnd⟩ := hW
  have hA : DataW.TrodAll enc Try.prog W 0 (fun _ => true) true Try.f3.params.toList args.toList ds p := hA0
  rw [Try.params3] at hA hval
  obtain ⟨v0, vs0, d0, ds0, p0, q0, hargs, rfl, rfl, h0, r0⟩ := trodAll_cons hA
  obtain ⟨rfl, rfl, rfl⟩ := trodAll_nil r0
  obtain rfl : args = #[v0] := by cases args; simp_all
  obtain ⟨rfl, rfl⟩ := trodVars_none hV
  obtain ⟨a0, len0, cap0, rfl⟩ := okWide_slice Try.underlying22 (hval 0 22 v0 rfl rfl)
  have k0 := h0
  have lt0 : ∀ x ∈ p0, x.block < W.heap.size := by obtain ⟨m, hm⟩ := k0; exact DataW.trod_lt m _ _ _ hm
  obtain ⟨z0, w0⟩ : ∃ zs, IsRow .i64 W a0 len0 cap0 zs := by
    obtain ⟨fuel, hf⟩ := h0
    rcases open_ints Try.underlying22 Try.underlying3 (by kernel_rfl) hf with ⟨hcs, _⟩ | ⟨x, l, c, zs, hcs, _, hl, hm, hz, _, hcell, hwz⟩
    · simp [Value.cells] at hcs
      obtain ⟨rfl, rfl, rfl⟩ := hcs
      exact ⟨[], .inl ⟨rfl, rfl, rfl, rfl⟩⟩
    · simp [Value.cells] at hcs
      obtain ⟨rfl, rfl, rfl⟩ := hcs
      exact ⟨zs, .inr ⟨_, rfl, hl, hm, by simpa using hz, hcell, hwz⟩⟩
  clear hA0 hval0
  refine (walk a0 len0 cap0 z0 W w0).mono fun e W' ⟨he, bel⟩ => ?_
  subst he
  exact ⟨_, rfl, _, _, _, [], _, [], hW', trodAll_mk1 (shut_bool Try.underlying4 _), (trodAll_cons_mk (Below.trod laidOut (by kernel_rfl) (of_decide_eq_true (by kernel_rfl)) k0 bel lt0) trodAll_mk0), rfl, bel.frame _, fun h => by cases h⟩

theorem over : Rows.fnExactChcNewRow.holds Try.pinned (OpenSpec.ofChange Rows.fnExactChcNewSpec) :=
  OpenClaim.holds_of_wide 3 Try.f3 rfl rfl rfl rfl rfl rfl rfl ⟨rfl, rfl, rfl, rfl, rfl⟩ rfl rfl rfl rfl rfl (by kernel_rfl) Try.func3 (by kernel_rfl)
    (of_decide_eq_true (by kernel_rfl)) (by unfold Func.isWrapper; first | (rw [if_pos (by decide +kernel)]; kernel_rfl) | (rw [if_neg (by decide +kernel)]; exact ⟨rfl, rfl⟩))
    (fun os started H enc _ => lifted os started H enc)

/-- THE STATEMENT. -/
theorem proved : Rows.FnExactChcNewSaid := over
#print axioms proved
end Go.Proofs.Ytiijhklkelaogaa.fnExactChcNew
