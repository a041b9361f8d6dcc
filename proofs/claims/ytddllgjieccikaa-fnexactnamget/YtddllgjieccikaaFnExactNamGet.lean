/- For all places and every register, NamGet of the program returns what NamGet of the model returns, and writes into no argument (no condition). -/
import Derived.Test.YtddllgjieccikaaRows
import Derived.Test.YtddllgjieccikaaN11
import Derived.Test.YtddllgjieccikaaNh2
import Derived.Test.YtddllgjieccikaaNres
import Derived.Test.YtddllgjieccikaaRegion4
import Derived.WalkKit
import Derived.ProofKit
import Derived.OpenShut
import Derived.ShutString
import Derived.ChangeOld
import Derived.Below
namespace Go.Proofs.Ytddllgjieccikaa.fnExactNamGet
open Go.ChangeShapes Go.WideShapes Go.ChangeAt Go.RowKit
set_option linter.unusedVariables false
set_option linter.unusedSimpArgs false

theorem own : ownKnob Try.prog.godebug = none := by kernel_rfl
theorem laidOut : laidOutB Try.prog = true := by kernel_rfl

set_option maxRecDepth 8000 in
set_option maxHeartbeats 4000000 in
theorem walk (s0 : Nm) (aM0 aF0 aV0 aH0 : Option Addr) (cM0 cF0 cV0 cH0 : Nat) (x1 : Int) (w : World) (h0 : SrcN w s0 aM0 aF0 aV0 aH0) (m0 : BigN s0) (wf1 : (Lit.int .i64 x1).wf = true) :
    Calls Try.prog 9 #[.agg #[.slice aM0 s0.M.length cM0, .slice aF0 s0.F.length cF0, .slice aV0 s0.V.length cV0, .slice aH0 s0.H.length cH0], .int .i64 x1] w fun e w' => e = .returned (.bool true) ∧ Below w.heap.size w w' := by
  have HS0 := Lib.hid h0
  have HM0 := Lib.hid m0
  have HF0 := Lib.hid (Fr.alloc w (.cells #[.slice aM0 s0.M.length cM0, .slice aF0 s0.F.length cF0, .slice aV0 s0.V.length cV0, .slice aH0 s0.H.length cH0] 30))
  have HA0 := Lib.hid (Box4.new w (.slice aM0 s0.M.length cM0) (.slice aF0 s0.F.length cF0) (.slice aV0 s0.V.length cV0) (.slice aH0 s0.H.length cH0) 30 _ rfl)
  clear h0 m0
  go_enter Try.func9, Try.ntmps9
  go_wp2_with fail
  generalize (w.alloc (.cells #[.slice aM0 s0.M.length cM0, .slice aF0 s0.F.length cF0, .slice aV0 s0.V.length cV0, .slice aH0 s0.H.length cH0] 30)) = u0 at *
  refine (laws_szNam s0 _ _ _ _ _ _ _ _ 1048576 u0 HM0.out (by omega) (by omega)).mono ?_
  rintro e u1 ⟨⟨r, rfl, hr⟩, f1⟩
  rcases hr with ⟨r0, hn⟩ | rfl
  · have hr0 : ¬ r < 0 := by omega
    have HW6 := Lib.hid hn.few6
    have F_1 := Lib.hid (HF0.out.trans f1)
    have HA_2 := Lib.hid (HA0.out.fr f1)
    clear HF0 HA0 f1 HM0
    obtain ⟨_, a0, a1, a2, a3, _, _, _, _⟩ := HA_2.out
    go_wp2_with fail
    refine (laws_toNam s0 _ _ _ _ _ _ _ _ _ (HS0.out.fr F_1.out) hn).mono ?_
    rintro e yw ⟨y1, y2, y3, y4, rfl, yV, yf⟩
    clear a0 a1 a2 a3
    have yKB := Lib.hid yV.blk
    have F_3 := Lib.hid (Fr.trans F_1.out yf)
    have HA_3 := Lib.hid (HA_2.out.fr yf)
    clear F_1 HA_2
    have VY_4 := Lib.hid (yV)
    have ys := yf.size
    clear yV yf
    go_wp2_with fail
    refine (spec_NamGet s0 _ _ _ _ _ _ _ _ x1 _ (VcNm.src VY_4.out) HW6.out).mono ?_
    rintro e v1 ⟨rfl, f3⟩
    clear VY_4
    have F_5 := Lib.hid (Fr.trans F_3.out f3)
    have HA_5 := Lib.hid (HA_3.out.fr f3)
    clear F_3 HA_3
    clear f3
    obtain ⟨_, a0, a1, a2, a3, _, _, _, _⟩ := HA_5.out
    go_wp2_with fail
    refine (laws_toNam s0 _ _ _ _ _ _ _ _ _ (HS0.out.fr F_5.out) hn).mono ?_
    rintro e qw ⟨q1, q2, q3, q4, rfl, qV, qf⟩
    clear a0 a1 a2 a3
    have qKB := Lib.hid qV.blk
    have F_6 := Lib.hid (Fr.trans F_5.out qf)
    have HA_6 := Lib.hid (HA_5.out.fr qf)
    clear F_5 HA_5
    have HV_7 := Lib.hid (qV)
    have qs := qf.size
    clear qV qf
    go_wp2_with fail
    have F_8 := Lib.hid (Fr.trans F_6.out (Fr.alloc qw (.cells #[.slice (some ⟨q1, 0, none⟩) s0.M.length s0.M.length, .slice (some ⟨q2, 0, none⟩) s0.F.length s0.F.length, .slice (some ⟨q3, 0, none⟩) s0.V.length s0.V.length, .slice (some ⟨q4, 0, none⟩) s0.H.length s0.H.length] 25)))
    have HA_8 := Lib.hid (HA_6.out.fr (Fr.alloc qw (.cells #[.slice (some ⟨q1, 0, none⟩) s0.M.length s0.M.length, .slice (some ⟨q2, 0, none⟩) s0.F.length s0.F.length, .slice (some ⟨q3, 0, none⟩) s0.V.length s0.V.length, .slice (some ⟨q4, 0, none⟩) s0.H.length s0.H.length] 25)))
    have HV_8 := Lib.hid (HV_7.out.fr (Fr.alloc qw (.cells #[.slice (some ⟨q1, 0, none⟩) s0.M.length s0.M.length, .slice (some ⟨q2, 0, none⟩) s0.F.length s0.F.length, .slice (some ⟨q3, 0, none⟩) s0.V.length s0.V.length, .slice (some ⟨q4, 0, none⟩) s0.H.length s0.H.length] 25)))
    clear F_6 HA_6 HV_7
    have HX_9 := Lib.hid (Box4.new qw (.slice (some ⟨q1, 0, none⟩) s0.M.length s0.M.length) (.slice (some ⟨q2, 0, none⟩) s0.F.length s0.F.length) (.slice (some ⟨q3, 0, none⟩) s0.V.length s0.V.length) (.slice (some ⟨q4, 0, none⟩) s0.H.length s0.H.length) 25 _ rfl)
    have v2s : qw.heap.size < (qw.alloc (.cells #[.slice (some ⟨q1, 0, none⟩) s0.M.length s0.M.length, .slice (some ⟨q2, 0, none⟩) s0.F.length s0.F.length, .slice (some ⟨q3, 0, none⟩) s0.V.length s0.V.length, .slice (some ⟨q4, 0, none⟩) s0.H.length s0.H.length] 25)).heap.size := by simp
    generalize (qw.alloc (.cells #[.slice (some ⟨q1, 0, none⟩) s0.M.length s0.M.length, .slice (some ⟨q2, 0, none⟩) s0.F.length s0.F.length, .slice (some ⟨q3, 0, none⟩) s0.V.length s0.V.length, .slice (some ⟨q4, 0, none⟩) s0.H.length s0.H.length] 25)) = v2 at *
    refine (impl_NamGet s0 _ _ _ _ _ _ _ _ x1 _ (VcNm.src HV_8.out) HW6.out).mono ?_
    rintro e v3 ⟨rfl, f5⟩
    have F_10 := Lib.hid (Fr.trans F_8.out f5)
    have HA_10 := Lib.hid (HA_8.out.fr f5)
    have HV_10 := Lib.hid (HV_8.out.fr f5)
    have HX_10 := Lib.hid (HX_9.out.fr f5)
    clear F_8 HA_8 HV_8 HX_9
    clear f5
    have hq0 : ((getA s0 x1).1 != (getA s0 x1).1) = false := by simp
    generalize (getA s0 x1).1 = oq0 at *
    have hq1 : ((getA s0 x1).2 != (getA s0 x1).2) = false := by simp
    generalize (getA s0 x1).2 = oq1 at *
    go_wp2_with fail
    refine wp_region_lots 44 (fun i => []) (fun _ _ => True) (fun i v u => match i with | 0 => v = .agg #[.slice (some ⟨q1, 0, none⟩) s0.M.length s0.M.length, .slice (some ⟨q2, 0, none⟩) s0.F.length s0.F.length, .slice (some ⟨q3, 0, none⟩) s0.V.length s0.V.length, .slice (some ⟨q4, 0, none⟩) s0.H.length s0.H.length] | 1 => v = .agg #[.slice aM0 s0.M.length cM0, .slice aF0 s0.F.length cF0, .slice aV0 s0.V.length cV0, .slice aH0 s0.H.length cH0] | 2 => ToNH s0 v u | 3 => v = .bool true | _ => v = .bool false) ?mono (by kernel_rfl) (by kernel_rfl) rfl (by kernel_rfl) trivial ?step ?fin
    case mono =>
      intro i j v u u' hij hsz h hB
      rcases j with _ | _ | _ | _ | j
      · exact h
      · exact h
      · exact ToNH.but h hB
      · exact h
      · exact h
    case step =>
      intro i o ho
      rcases i with _ | _ | _ | _ | _ | i
      · cases ho
        intro fu act u hW hB hsz hL hdep
        replace hB := hB [] (fun j hj hd k hk => by
          cases hk)
        obtain ⟨ysl, ha, hy⟩ := hL.puts [39, 40, 41, 42, 43] (by kernel_rfl)
        clear hdep hL hy
        simp only [List.foldl, List.setIfInBounds_toArray, List.set_cons_succ, List.set_cons_zero] at ha
        subst ha
        obtain ⟨_, c0, c1, c2, c3, _, _, _, _⟩ := (HX_10.out.but hB (by simp))
        refine wpOp_step rfl (fun K hK => ?_)
        go_simp
        exact hK _ _ ⟨_, rfl, (fun h => by cases h), rfl, But.refl _ _, trivial⟩
      · cases ho
        intro fu act u hW hB hsz hL hdep
        replace hB := hB [] (fun j hj hd k hk => by
          cases hk)
        obtain ⟨ysl, ha, hy⟩ := hL.puts [39, 40, 41, 42, 43] (by kernel_rfl)
        clear hdep hL hy
        simp only [List.foldl, List.setIfInBounds_toArray, List.set_cons_succ, List.set_cons_zero] at ha
        subst ha
        obtain ⟨_, c0, c1, c2, c3, _, _, _, _⟩ := (HA_10.out.but hB (by simp))
        refine wpOp_step rfl (fun K hK => ?_)
        go_simp
        exact hK _ _ ⟨_, rfl, (fun h => by cases h), rfl, But.refl _ _, trivial⟩
      · cases ho
        intro fu act u hW hB hsz hL hdep
        replace hB := hB [] (fun j hj hd k hk => by
          cases hk)
        have d1 := hdep { on := 1, ground := .data } (by simp) rfl _ rfl
        obtain ⟨ysl, ha, hy⟩ := hL.puts [39, 40, 41, 42, 43] (by kernel_rfl)
        have e1 : ysl 40 = _ := (hy 40).symm.trans d1
        clear hdep hL hy d1
        simp only [List.foldl, List.setIfInBounds_toArray, List.set_cons_succ, List.set_cons_zero, e1] at ha
        subst ha
        clear e1
        refine wpOp_step rfl (fun K hK => ?_)
        go_simp
        refine (laws_toNam s0 _ _ _ _ _ _ _ _ u ((HS0.out.fr F_10.out).fr (fr_but (L := []) (Below.refl v3.heap.size v3) hB (fun k hk => by cases hk))) hn).mono ?_
        rintro e u' ⟨t1, t2, t3, t4, rfl, V, f⟩
        go_simp
        exact hK _ _ ⟨_, rfl, (fun h => by cases h), ⟨t1, t2, t3, t4, rfl, VcNm.src V⟩, But.of f, trivial⟩
      · cases ho
        intro fu act u hW hB hsz hL hdep
        replace hB := hB [] (fun j hj hd k hk => by
          cases hk)
        have d0 := hdep { on := 0, ground := .data } (by simp) rfl _ rfl
        have d2 := hdep { on := 2, ground := .data } (by simp) rfl _ rfl
        obtain ⟨ysl, ha, hy⟩ := hL.puts [39, 40, 41, 42, 43] (by kernel_rfl)
        have e0 : ysl 39 = _ := (hy 39).symm.trans d0
        obtain ⟨t1, t2, t3, t4, h2, V2⟩ := d2
        have e2 : ysl 41 = .agg #[.slice (some ⟨t1, 0, none⟩) s0.M.length s0.M.length, .slice (some ⟨t2, 0, none⟩) s0.F.length s0.F.length, .slice (some ⟨t3, 0, none⟩) s0.V.length s0.V.length, .slice (some ⟨t4, 0, none⟩) s0.H.length s0.H.length] := (hy 41).symm.trans h2
        clear hdep hL hy d0 h2
        simp only [List.foldl, List.setIfInBounds_toArray, List.set_cons_succ, List.set_cons_zero, e0, e2] at ha
        subst ha
        clear e0 e2
        refine wpOp_step rfl (fun K hK => ?_)
        go_simp
        refine (laws_eqNam_same u s0 _ _ _ _ _ _ _ _ _ _ _ _ _ _ _ _ (VcNm.src (HV_10.out.fr (fr_but (L := []) (Below.refl v3.heap.size v3) hB (fun k hk => by cases hk)))) V2 hn).mono ?_
        rintro e u' ⟨rfl, f⟩
        go_simp
        exact hK _ _ ⟨_, rfl, (fun h => by cases h), rfl, But.of f, trivial⟩
      · cases ho
        intro fu act u hW hB hsz hL hdep
        replace hB := hB [] (fun j hj hd k hk => by
          cases hk)
        have d3 := hdep { on := 3, ground := .data } (by simp) rfl _ rfl
        obtain ⟨ysl, ha, hy⟩ := hL.puts [39, 40, 41, 42, 43] (by kernel_rfl)
        have e3 : ysl 42 = _ := (hy 42).symm.trans d3
        clear hdep hL hy d3
        simp only [List.foldl, List.setIfInBounds_toArray, List.set_cons_succ, List.set_cons_zero, e3] at ha
        subst ha
        clear e3
        refine wpOp_step rfl (fun K hK => ?_)
        go_simp
        exact hK _ _ ⟨_, rfl, (fun h => by cases h), rfl, But.refl _ _, trivial⟩
      · exact absurd ho (by simp)
    case fin =>
      intro act u hW hsz hB hL hsf
      replace hB := hB [] (fun j k hk => by
        cases hk)
      have d4 := hsf 4 _ rfl
      obtain ⟨ysl, ha, hy⟩ := hL.puts [39, 40, 41, 42, 43] (by kernel_rfl)
      have e4 : ysl 43 = _ := (hy 43).symm.trans d4
      clear hL hsf hy d4
      simp only [List.foldl, List.setIfInBounds_toArray, List.set_cons_succ, List.set_cons_zero, e4] at ha
      subst ha
      clear e4
      have fB : Fr v3 u := (fr_but (L := []) (Below.refl v3.heap.size v3) hB (fun k hk => by cases hk))
      clear hB hW
      clear hsz
      have F_11 := Lib.hid (Fr.trans F_10.out fB)
      have HA_11 := Lib.hid (HA_10.out.fr fB)
      have HV_11 := Lib.hid (HV_10.out.fr fB)
      have HX_11 := Lib.hid (HX_10.out.fr fB)
      clear F_10 HA_10 HV_10 HX_10
      clear fB
      go_wp2_with fail
      go_ret
      exact ⟨rfl, F_11.out⟩
  · go_wp2_with fail
    go_ret
    exact ⟨rfl, HF0.out.trans f1⟩

set_option maxRecDepth 100000 in
theorem lifted (os : Os) (started : os.Started) (H : Type) (enc : TypeId × Value → H) :
    ReturnsInHanded {} Try.checked os 9 .any (Rows.fnExactNamGetSpec.pre6 enc Try.prog Try.f9 Rows.fnExactNamGetRow.domain false) (Rows.fnExactNamGetSpec.post enc Try.prog Try.f9 false true false false) := by
  refine returnsInHanded_of_change (C := Try.checked) own started (by kernel_rfl) Try.func9
    (ChangeSpec.witness6 (enc := enc) (C := Try.checked) false ⟨#[], #[.agg #[.slice none 0 0, .slice none 0 0, .slice none 0 0, .slice none 0 0], .int .i64 0], []⟩ 8 (by kernel_rfl) (by kernel_rfl) (by kernel_rfl) (by kernel_rfl)) ?_
  intro W base args ds gs before hval0 hW hcnd _
  have hval : ∀ (j : Nat) t v, Try.f9.params[j]? = some t → args[j]? = some v → Value.okWide Try.prog W .any base t v := hval0
  have hW' := hW
  obtain ⟨p, q, hA0, hV, rfl, hfz, hnd⟩ := hW
  have hA : DataW.TrodAll enc Try.prog W 0 (fun _ => true) true Try.f9.params.toList args.toList ds p := hA0
  rw [Try.params9] at hA hval
  obtain ⟨v0, vs0, d0, ds0, p0, q0, hargs, rfl, rfl, h0, r0⟩ := trodAll_cons hA
  obtain ⟨v1, vs1, d1, ds1, p1, q1, rfl, rfl, rfl, h1, r1⟩ := trodAll_cons r0
  obtain ⟨rfl, rfl, rfl⟩ := trodAll_nil r1
  obtain rfl : args = #[v0, v1] := by cases args; simp_all
  obtain ⟨rfl, rfl⟩ := trodVars_none hV
  have k0 := h0
  have lt0 : ∀ x ∈ p0, x.block < W.heap.size := by obtain ⟨m, hm⟩ := k0; exact DataW.trod_lt m _ _ _ hm
  obtain ⟨s0, aM0, aF0, aV0, aH0, cM0, cF0, cV0, cH0, rfl, hs0, hb0⟩ := open_nam (hval 0 30 v0 rfl rfl) h0
  have k1 := h1
  have lt1 : ∀ x ∈ p1, x.block < W.heap.size := by obtain ⟨m, hm⟩ := k1; exact DataW.trod_lt m _ _ _ hm
  obtain ⟨x1, rfl, rfl, rfl, wf1⟩ := open_int Try.underlying3 (hval 1 3 v1 rfl rfl) h1
  clear hA0 hval0
  refine (walk s0 aM0 aF0 aV0 aH0 cM0 cF0 cV0 cH0 x1 W hs0 hb0 wf1).mono fun e W' ⟨he, bel⟩ => ?_
  subst he
  exact ⟨_, rfl, _, _, _, [], _, [], hW', trodAll_mk1 (shut_bool Try.underlying4 _), (trodAll_cons_mk (Below.trod laidOut (by kernel_rfl) (of_decide_eq_true (by kernel_rfl)) k0 bel lt0) (trodAll_cons_mk (Below.trod laidOut (by kernel_rfl) (of_decide_eq_true (by kernel_rfl)) k1 bel lt1) trodAll_mk0)), rfl, bel.frame _, fun h => by cases h⟩

theorem over : Rows.fnExactNamGetRow.holds Try.pinned (OpenSpec.ofChange Rows.fnExactNamGetSpec) :=
  OpenClaim.holds_of_wide 9 Try.f9 rfl rfl rfl rfl rfl rfl rfl ⟨rfl, rfl, rfl, rfl, rfl⟩ rfl rfl rfl rfl rfl (by kernel_rfl) Try.func9 (by kernel_rfl)
    (of_decide_eq_true (by kernel_rfl)) (by unfold Func.isWrapper; first | (rw [if_pos (by decide +kernel)]; kernel_rfl) | (rw [if_neg (by decide +kernel)]; exact ⟨rfl, rfl⟩))
    (fun os started H enc _ => lifted os started H enc)

/-- THE STATEMENT. -/
theorem proved : Rows.FnExactNamGetSaid := over
#print axioms proved
end Go.Proofs.Ytddllgjieccikaa.fnExactNamGet
