/- For every slice of ints, PlnNew of the program returns what PlnNew of the model returns, writes into no argument, and its answer owns its memory (no condition). -/
import Derived.Test.YtddmkicpmegnoaaRows
import Derived.Test.YtddmkicpmegnoaaPl5
import Derived.Test.YtddmkicpmegnoaaPh
import Derived.Test.YtddmkicpmegnoaaPres
import Derived.WalkKit
import Derived.ProofKit
import Derived.OpenShut
import Derived.ShutString
import Derived.ChangeOld
import Derived.Below
namespace Go.Proofs.Ytddmkicpmegnoaa.fnExactPlnNew
open Go.ChangeShapes Go.WideShapes Go.ChangeAt Go.RowKit
set_option linter.unusedVariables false
set_option linter.unusedSimpArgs false

theorem own : ownKnob Try.prog.godebug = none := by kernel_rfl
theorem laidOut : laidOutB Try.prog = true := by kernel_rfl

def IsRow (k : IntKind) (w : World) (a : Option Addr) (len cap : Nat) (zs : List Int) : Prop :=
  (a = none ∧ len = 0 ∧ cap = 0 ∧ zs = []) ∨
  ∃ x, a = some x ∧ len ≤ cap ∧ cap ≤ maxLen ∧ zs.length = cap ∧ (∀ i, i < zs.length → w.cell? (x.add i) = some (.int k (zs.getD i 0))) ∧ ∀ n ∈ zs, (Lit.int k n).wf = true

set_option maxRecDepth 8000 in
set_option maxHeartbeats 4000000 in
theorem walk (a0 : Option Addr) (len0 cap0 : Nat) (z0 : List Int) (w : World) (w0 : IsRow .i64 w a0 len0 cap0 z0) :
    Calls Try.prog 4 #[.slice a0 len0 cap0] w fun e w' => e = .returned (.bool true) ∧ Below w.heap.size w w' := by
  obtain ⟨xs, rfl, hs⟩ : ∃ xs : List Int, xs.length = len0 ∧ Src w xs.length (ivl xs) a0 := by
    rcases w0 with ⟨rfl, rfl, rfl, rfl⟩ | ⟨x, rfl, hl, hm, hz, hcell, hwz⟩
    · exact ⟨[], rfl, fun h => by simp at h⟩
    · refine ⟨z0.take len0, by simp; omega, src_of_row fun i hi => ?_⟩
      have hi' : i < len0 := by simp at hi; omega
      rw [hcell i (by omega)]
      simp only [ivl, List.getD_eq_getElem?_getD, List.getElem?_take_of_lt hi']
  clear w0 z0
  have HS0 := Lib.hid hs
  clear hs
  go_enter Try.func4, Try.ntmps4
  by_cases hl : xs.length ≤ 1048576
  · have hl' : ¬ (1048576 : Int) < (xs.length : Int) := by omega
    generalize ht : begD xs = t at *
    have HT : Hid (Few20 t) := by rw [← ht]; exact few_beg _
    go_wp2_with fail
    refine (laws_toIntS _ _ _ _ (fun i => xs.getD i 0) HS0.out hl).mono ?_
    rintro e yw ⟨y1, rfl, yb, yl, yV, yf⟩
    have ys := yf.size
    have F_1 := Lib.hid (yf)
    have Vy_2 := Lib.hid (yV)
    clear yV yf
    go_wp2_with fail
    refine (spec_PlnNew xs _ _ _ Vy_2.out.src (by omega)).mono ?_
    rintro e ku hk
    obtain ⟨kR, kC, kM, kr, kc, km, rfl, kV, kB, kf⟩ := beg_res ht hk
    clear hk
    have kz := kf.size
    clear Vy_2
    have F_3 := Lib.hid (Fr.trans F_1.out kf)
    clear F_1
    have VW_4 := Lib.hid (kV)
    clear kV kf
    go_wp2_with fail
    have F_5 := Lib.hid (Fr.trans F_3.out (Fr.alloc ku (.cells #[.int .i64 t.pc, .slice kR t.R.length kr, .slice kC t.C.length kc, .slice kM t.M.length km] 27)))
    have VW_5 := Lib.hid (VW_4.out.fr (Fr.alloc ku (.cells #[.int .i64 t.pc, .slice kR t.R.length kr, .slice kC t.C.length kc, .slice kM t.M.length km] 27)))
    clear F_3 VW_4
    have HW_6 := Lib.hid (Box4.new ku (.int .i64 t.pc) (.slice kR t.R.length kr) (.slice kC t.C.length kc) (.slice kM t.M.length km) 27 _ rfl)
    have ks : ku.heap.size < (ku.alloc (.cells #[.int .i64 t.pc, .slice kR t.R.length kr, .slice kC t.C.length kc, .slice kM t.M.length km] 27)).heap.size := by simp
    generalize (ku.alloc (.cells #[.int .i64 t.pc, .slice kR t.R.length kr, .slice kC t.C.length kc, .slice kM t.M.length km] 27)) = kv at *
    refine (laws_toIntS _ _ _ _ (fun i => xs.getD i 0) (HS0.out.fr F_5.out) hl).mono ?_
    rintro e qw ⟨q1, rfl, qb, ql, qV, qf⟩
    have qs := qf.size
    have F_7 := Lib.hid (Fr.trans F_5.out qf)
    have VW_7 := Lib.hid (VW_5.out.fr qf)
    have HW_7 := Lib.hid (HW_6.out.fr qf)
    clear F_5 VW_5 HW_6
    have HV_8 := Lib.hid (qV)
    clear qV qf
    go_wp2_with fail
    refine (impl_PlnNew xs _ _ _ HV_8.out.src (by omega)).mono ?_
    rintro e gu hg
    obtain ⟨gR, gC, gM, gr, gc, gm, rfl, gV, gB, gf⟩ := beg_res ht hg
    clear hg
    have gz := gf.size
    have F_9 := Lib.hid (Fr.trans F_7.out gf)
    have VW_9 := Lib.hid (VW_7.out.fr gf)
    have HW_9 := Lib.hid (HW_7.out.fr gf)
    have HV_9 := Lib.hid (HV_8.out.fr gf)
    clear F_7 VW_7 HW_7 HV_8
    have VG_10 := Lib.hid (gV)
    clear gV gf
    obtain ⟨_, b0, b1, b2, b3, _, _, _, _⟩ := HW_9.out
    have nA : ¬ ku.heap.size = gu.heap.size := by omega
    have nB : ¬ gu.heap.size = ku.heap.size := by omega
    go_wp2_with fail
    clear b0 b1 b2 b3 nA nB
    have F_11 := Lib.hid (Fr.trans F_9.out (Fr.alloc gu (.cells #[.int .i64 t.pc, .slice gR t.R.length gr, .slice gC t.C.length gc, .slice gM t.M.length gm] 27)))
    have VW_11 := Lib.hid (VW_9.out.fr (Fr.alloc gu (.cells #[.int .i64 t.pc, .slice gR t.R.length gr, .slice gC t.C.length gc, .slice gM t.M.length gm] 27)))
    have HW_11 := Lib.hid (HW_9.out.fr (Fr.alloc gu (.cells #[.int .i64 t.pc, .slice gR t.R.length gr, .slice gC t.C.length gc, .slice gM t.M.length gm] 27)))
    have HV_11 := Lib.hid (HV_9.out.fr (Fr.alloc gu (.cells #[.int .i64 t.pc, .slice gR t.R.length gr, .slice gC t.C.length gc, .slice gM t.M.length gm] 27)))
    have VG_11 := Lib.hid (VG_10.out.fr (Fr.alloc gu (.cells #[.int .i64 t.pc, .slice gR t.R.length gr, .slice gC t.C.length gc, .slice gM t.M.length gm] 27)))
    clear F_9 VW_9 HW_9 HV_9 VG_10
    have HG_12 := Lib.hid (Box4.new gu (.int .i64 t.pc) (.slice gR t.R.length gr) (.slice gC t.C.length gc) (.slice gM t.M.length gm) 27 _ rfl)
    have gs : gu.heap.size < (gu.alloc (.cells #[.int .i64 t.pc, .slice gR t.R.length gr, .slice gC t.C.length gc, .slice gM t.M.length gm] 27)).heap.size := by simp
    generalize (gu.alloc (.cells #[.int .i64 t.pc, .slice gR t.R.length gr, .slice gC t.C.length gc, .slice gM t.M.length gm] 27)) = gv at *
    refine (laws_eqPln_same _ _ _ t _ _ _ _ _ _ _ _ _ _ _ _ VG_11.out VW_11.out HT.out).mono ?_
    rintro e v4 ⟨rfl, v4f⟩
    have F_13 := Lib.hid (Fr.trans F_11.out v4f)
    have VW_13 := Lib.hid (VW_11.out.fr v4f)
    have HW_13 := Lib.hid (HW_11.out.fr v4f)
    have HV_13 := Lib.hid (HV_11.out.fr v4f)
    have VG_13 := Lib.hid (VG_11.out.fr v4f)
    have HG_13 := Lib.hid (HG_12.out.fr v4f)
    clear F_11 VW_11 HW_11 HV_11 VG_11 HG_12
    have v4s := v4f.size
    clear v4f
    go_wp2_with fail
    refine (laws_toIntS _ _ _ _ (fun i => xs.getD i 0) (HS0.out.fr F_13.out) hl).mono ?_
    rintro e zw ⟨z1, rfl, zb, zl, zV, zf⟩
    have zs := zf.size
    have F_14 := Lib.hid (Fr.trans F_13.out zf)
    have VW_14 := Lib.hid (VW_13.out.fr zf)
    have HW_14 := Lib.hid (HW_13.out.fr zf)
    have HV_14 := Lib.hid (HV_13.out.fr zf)
    have VG_14 := Lib.hid (VG_13.out.fr zf)
    have HG_14 := Lib.hid (HG_13.out.fr zf)
    clear F_13 VW_13 HW_13 HV_13 VG_13 HG_13
    have Vz_15 := Lib.hid (zV)
    clear zV zf
    go_wp2_with fail
    refine (laws_eqIntS_same _ _ _ _ (fun i => xs.getD i 0) _ _ _ _ HV_14.out Vz_15.out hl).mono ?_
    rintro e u ⟨rfl, mu, hmu⟩
    have uf : Fr zw u := by rw [← hmu]; exact Below.drewN (Below.refl _ _) _
    have us := uf.size
    clear hmu
    clear Vz_15
    have F_16 := Lib.hid (Fr.trans F_14.out uf)
    have VW_16 := Lib.hid (VW_14.out.fr uf)
    have HW_16 := Lib.hid (HW_14.out.fr uf)
    have HV_16 := Lib.hid (HV_14.out.fr uf)
    have VG_16 := Lib.hid (VG_14.out.fr uf)
    have HG_16 := Lib.hid (HG_14.out.fr uf)
    clear F_14 VW_14 HW_14 HV_14 VG_14 HG_14
    clear uf
    go_wp2_with fail
    refine (laws_markIntS _ _ _ (fun i => xs.getD i 0) _ _ 1 HV_16.out (by omega) hl (by omega) (by omega)).mono ?_
    rintro e v5 ⟨rfl, _, r5, l5⟩
    have m5 := but_row r5
    have nb5 : ∀ k, k ∈ ((some (⟨q1, 0, none⟩ : Addr)).map (·.block)).toList → k = q1 := fun k hk => by simpa using hk
    clear HV_16
    have F_17 := Lib.hid (Below.trans F_16.out (l5.mono (by omega)))
    have VW_17 := Lib.hid (VW_16.out.but m5 (fun b hb hm => by have := kB b hb; have := nb5 _ hm; omega))
    have HW_17 := Lib.hid (HW_16.out.but m5 (fun hm => by have := nb5 _ hm; omega))
    have VG_17 := Lib.hid (VG_16.out.but m5 (fun b hb hm => by have := gB b hb; have := nb5 _ hm; omega))
    have HG_17 := Lib.hid (HG_16.out.but m5 (fun hm => by have := nb5 _ hm; omega))
    clear F_16 VW_16 HW_16 VG_16 HG_16
    have v5s := m5.size
    clear m5 l5 nb5 r5
    have hk5 : ¬ (1 : Int) + xs.length < 0 := by omega
    obtain ⟨_, a0, a1, a2, a3, _, _, _, _⟩ := HG_17.out
    obtain ⟨_, b0, b1, b2, b3, _, _, _, _⟩ := HW_17.out
    go_wp2_with fail
    refine (laws_eqPln_same _ _ _ t _ _ _ _ _ _ _ _ _ _ _ _ VG_17.out VW_17.out HT.out).mono ?_
    rintro e v6 ⟨rfl, v6f⟩
    clear a0 a1 a2 a3 b0 b1 b2 b3
    have F_18 := Lib.hid (Fr.trans F_17.out v6f)
    have VW_18 := Lib.hid (VW_17.out.fr v6f)
    have HW_18 := Lib.hid (HW_17.out.fr v6f)
    have VG_18 := Lib.hid (VG_17.out.fr v6f)
    have HG_18 := Lib.hid (HG_17.out.fr v6f)
    clear F_17 VW_17 HW_17 VG_17 HG_17
    have v6s := v6f.size
    clear v6f
    obtain ⟨_, a0, a1, a2, a3, _, _, _, _⟩ := HG_18.out
    go_wp2_with fail
    refine (laws_markPln _ t _ _ _ _ _ _ 1 v6 VG_18.out (by omega) HT.out (by omega) (by omega) (fun b hb => by have := gB b (.inl hb); omega) (fun b hb => by have := gB b (.inr (.inl hb)); omega)).mono ?_
    rintro e v7 ⟨rfl, K7, m7, l7⟩
    clear a0 a1 a2 a3
    clear VG_18
    have F_19 := Lib.hid (Below.trans F_18.out (l7.mono (by omega)))
    have VW_19 := Lib.hid (VW_18.out.but m7 (fun b hb hm => by obtain ⟨b2, hb1, hb2⟩ := mem_blks hm; have := gB b2 hb2; have := kB b hb; omega))
    have HW_19 := Lib.hid (HW_18.out.but m7 (fun hm => by obtain ⟨b, hb1, hb2⟩ := mem_blks hm; have := gB b hb2; omega))
    have HG_19 := Lib.hid (HG_18.out.but m7 (fun hm => by obtain ⟨b, hb1, hb2⟩ := mem_blks hm; have := gB b hb2; omega))
    clear F_18 VW_18 HW_18 HG_18
    have KG_20 := Lib.hid (K7)
    have v7s := m7.size
    clear m7 l7 K7
    have h1 := HT.out.R
    have h2 := HT.out.C
    have h3 := HT.out.M
    have hk7 : ¬ (1 : Int) + t.R.length + t.C.length + t.M.length < 0 := by omega
    obtain ⟨_, a0, a1, a2, a3, _, _, _, _⟩ := HG_19.out
    go_wp2_with fail
    refine (laws_heldPln _ t _ _ _ _ _ _ 1 _ KG_20.out HT.out (by omega) (by omega) _).mono ?_
    rintro e v8 ⟨rfl, v8f⟩
    clear a0 a1 a2 a3
    have v8s := v8f.size
    have F_21 := Lib.hid (Fr.trans F_19.out v8f)
    have VW_21 := Lib.hid (VW_19.out.fr v8f)
    have HW_21 := Lib.hid (HW_19.out.fr v8f)
    have HG_21 := Lib.hid (HG_19.out.fr v8f)
    have KG_21 := Lib.hid (KG_20.out.fr v8f)
    clear F_19 VW_19 HW_19 HG_19 KG_20
    clear v8f
    go_wp2_with fail
    refine (laws_toIntS _ _ _ _ (fun i => xs.getD i 0) (HS0.out.fr F_21.out) hl).mono ?_
    rintro e ow ⟨o1, rfl, ob, ol, oV, of⟩
    have os := of.size
    have F_22 := Lib.hid (Fr.trans F_21.out of)
    have VW_22 := Lib.hid (VW_21.out.fr of)
    have HW_22 := Lib.hid (HW_21.out.fr of)
    have HG_22 := Lib.hid (HG_21.out.fr of)
    have KG_22 := Lib.hid (KG_21.out.fr of)
    clear F_21 VW_21 HW_21 HG_21 KG_21
    have Vo_23 := Lib.hid (oV)
    clear oV of
    go_wp2_with fail
    refine (impl_PlnNew xs _ _ _ Vo_23.out.src (by omega)).mono ?_
    rintro e pu hp
    obtain ⟨pR, pC, pM, pr, pc, pm, rfl, pV, pB, pf⟩ := beg_res ht hp
    clear hp
    have pz := pf.size
    clear Vo_23
    have F_24 := Lib.hid (Fr.trans F_22.out pf)
    have VW_24 := Lib.hid (VW_22.out.fr pf)
    have HW_24 := Lib.hid (HW_22.out.fr pf)
    have HG_24 := Lib.hid (HG_22.out.fr pf)
    have KG_24 := Lib.hid (KG_22.out.fr pf)
    clear F_22 VW_22 HW_22 HG_22 KG_22
    have VP_25 := Lib.hid (pV)
    clear pV pf
    obtain ⟨_, b0, b1, b2, b3, _, _, _, _⟩ := HW_24.out
    have nA : ¬ ku.heap.size = pu.heap.size := by omega
    have nB : ¬ pu.heap.size = ku.heap.size := by omega
    go_wp2_with fail
    clear b0 b1 b2 b3 nA nB
    have F_26 := Lib.hid (Fr.trans F_24.out (Fr.alloc pu (.cells #[.int .i64 t.pc, .slice pR t.R.length pr, .slice pC t.C.length pc, .slice pM t.M.length pm] 27)))
    have VW_26 := Lib.hid (VW_24.out.fr (Fr.alloc pu (.cells #[.int .i64 t.pc, .slice pR t.R.length pr, .slice pC t.C.length pc, .slice pM t.M.length pm] 27)))
    have HW_26 := Lib.hid (HW_24.out.fr (Fr.alloc pu (.cells #[.int .i64 t.pc, .slice pR t.R.length pr, .slice pC t.C.length pc, .slice pM t.M.length pm] 27)))
    have HG_26 := Lib.hid (HG_24.out.fr (Fr.alloc pu (.cells #[.int .i64 t.pc, .slice pR t.R.length pr, .slice pC t.C.length pc, .slice pM t.M.length pm] 27)))
    have KG_26 := Lib.hid (KG_24.out.fr (Fr.alloc pu (.cells #[.int .i64 t.pc, .slice pR t.R.length pr, .slice pC t.C.length pc, .slice pM t.M.length pm] 27)))
    have VP_26 := Lib.hid (VP_25.out.fr (Fr.alloc pu (.cells #[.int .i64 t.pc, .slice pR t.R.length pr, .slice pC t.C.length pc, .slice pM t.M.length pm] 27)))
    clear F_24 VW_24 HW_24 HG_24 KG_24 VP_25
    have HP_27 := Lib.hid (Box4.new pu (.int .i64 t.pc) (.slice pR t.R.length pr) (.slice pC t.C.length pc) (.slice pM t.M.length pm) 27 _ rfl)
    have ps : pu.heap.size < (pu.alloc (.cells #[.int .i64 t.pc, .slice pR t.R.length pr, .slice pC t.C.length pc, .slice pM t.M.length pm] 27)).heap.size := by simp
    generalize (pu.alloc (.cells #[.int .i64 t.pc, .slice pR t.R.length pr, .slice pC t.C.length pc, .slice pM t.M.length pm] 27)) = pv at *
    refine (laws_eqPln_same _ _ _ t _ _ _ _ _ _ _ _ _ _ _ _ VP_26.out VW_26.out HT.out).mono ?_
    rintro e v9 ⟨rfl, v9f⟩
    have F_28 := Lib.hid (Fr.trans F_26.out v9f)
    have VW_28 := Lib.hid (VW_26.out.fr v9f)
    have HW_28 := Lib.hid (HW_26.out.fr v9f)
    have HG_28 := Lib.hid (HG_26.out.fr v9f)
    have KG_28 := Lib.hid (KG_26.out.fr v9f)
    have VP_28 := Lib.hid (VP_26.out.fr v9f)
    have HP_28 := Lib.hid (HP_27.out.fr v9f)
    clear F_26 VW_26 HW_26 HG_26 KG_26 VP_26 HP_27
    clear v9f
    obtain ⟨_, a0, a1, a2, a3, _, _, _, _⟩ := HG_28.out
    go_wp2_with fail
    refine (laws_heldPln _ t _ _ _ _ _ _ 1 _ KG_28.out HT.out (by omega) (by omega) _).mono ?_
    rintro e v10 ⟨rfl, v10f⟩
    clear a0 a1 a2 a3
    have v10s := v10f.size
    have F_29 := Lib.hid (Fr.trans F_28.out v10f)
    have VW_29 := Lib.hid (VW_28.out.fr v10f)
    have HW_29 := Lib.hid (HW_28.out.fr v10f)
    have HG_29 := Lib.hid (HG_28.out.fr v10f)
    have KG_29 := Lib.hid (KG_28.out.fr v10f)
    have VP_29 := Lib.hid (VP_28.out.fr v10f)
    have HP_29 := Lib.hid (HP_28.out.fr v10f)
    clear F_28 VW_28 HW_28 HG_28 KG_28 VP_28 HP_28
    clear v10f
    go_wp2_with fail
    go_ret
    exact ⟨rfl, F_29.out⟩
  · go_wp2
    go_ret
    exact ⟨rfl, Below.refl _ _⟩

set_option maxRecDepth 100000 in
theorem lifted (os : Os) (started : os.Started) (H : Type) (enc : TypeId × Value → H) :
    ReturnsInHanded {} Try.checked os 4 .any (Rows.fnExactPlnNewSpec.pre6 enc Try.prog Try.f4 Rows.fnExactPlnNewRow.domain false) (Rows.fnExactPlnNewSpec.post enc Try.prog Try.f4 false true false false) := by
  refine returnsInHanded_of_change (C := Try.checked) own started (by kernel_rfl) Try.func4
    (ChangeSpec.witness6 (enc := enc) (C := Try.checked) false ⟨#[], #[.slice none 0 0], []⟩ 8 (by kernel_rfl) (by kernel_rfl) (by kernel_rfl) (by kernel_rfl)) ?_
  intro W base args ds gs before hval0 hW hcnd _
  have hval : ∀ (j : Nat) t v, Try.f4.params[j]? = some t → args[j]? = some v → Value.okWide Try.prog W .any base t v := hval0
  have hW' := hW
  obtain ⟨p, q, hA0, hV, rfl, hfz, hnd⟩ := hW
  have hA : DataW.TrodAll enc Try.prog W 0 (fun _ => true) true Try.f4.params.toList args.toList ds p := hA0
  rw [Try.params4] at hA hval
  obtain ⟨v0, vs0, d0, ds0, p0, q0, hargs, rfl, rfl, h0, r0⟩ := trodAll_cons hA
  obtain ⟨rfl, rfl, rfl⟩ := trodAll_nil r0
  obtain rfl : args = #[v0] := by cases args; simp_all
  obtain ⟨rfl, rfl⟩ := trodVars_none hV
  obtain ⟨a0, len0, cap0, rfl⟩ := okWide_slice Try.underlying22 (hval 0 22 v0 rfl rfl)
  have k0 := h0
  have lt0 : ∀ x ∈ p0, x.block < W.heap.size := by obtain ⟨m, hm⟩ := k0; exact DataW.trod_lt m _ _ _ hm
  obtain ⟨z0, w0⟩ : ∃ zs, IsRow .i64 W a0 len0 cap0 zs := by
    obtain ⟨fuel, hf⟩ := h0
    rcases open_ints Try.underlying22 Try.underlying3 (by kernel_rfl) hf with ⟨hcs, _⟩ | ⟨x, l, c, zs, hcs, _, hl, hm, hz, _, hcell, hwz⟩
    · simp [Value.cells] at hcs
      obtain ⟨rfl, rfl, rfl⟩ := hcs
      exact ⟨[], .inl ⟨rfl, rfl, rfl, rfl⟩⟩
    · simp [Value.cells] at hcs
      obtain ⟨rfl, rfl, rfl⟩ := hcs
      exact ⟨zs, .inr ⟨_, rfl, hl, hm, by simpa using hz, hcell, hwz⟩⟩
  clear hA0 hval0
  refine (walk a0 len0 cap0 z0 W w0).mono fun e W' ⟨he, bel⟩ => ?_
  subst he
  exact ⟨_, rfl, _, _, _, [], _, [], hW', trodAll_mk1 (shut_bool Try.underlying4 _), (trodAll_cons_mk (Below.trod laidOut (by kernel_rfl) (of_decide_eq_true (by kernel_rfl)) k0 bel lt0) trodAll_mk0), rfl, bel.frame _, fun h => by cases h⟩

theorem over : Rows.fnExactPlnNewRow.holds Try.pinned (OpenSpec.ofChange Rows.fnExactPlnNewSpec) :=
  OpenClaim.holds_of_wide 4 Try.f4 rfl rfl rfl rfl rfl rfl rfl ⟨rfl, rfl, rfl, rfl, rfl⟩ rfl rfl rfl rfl rfl (by kernel_rfl) Try.func4 (by kernel_rfl)
    (of_decide_eq_true (by kernel_rfl)) (by unfold Func.isWrapper; first | (rw [if_pos (by decide +kernel)]; kernel_rfl) | (rw [if_neg (by decide +kernel)]; exact ⟨rfl, rfl⟩))
    (fun os started H enc _ => lifted os started H enc)

/-- THE STATEMENT. -/
theorem proved : Rows.FnExactPlnNewSaid := over
#print axioms proved
end Go.Proofs.Ytddmkicpmegnoaa.fnExactPlnNew
