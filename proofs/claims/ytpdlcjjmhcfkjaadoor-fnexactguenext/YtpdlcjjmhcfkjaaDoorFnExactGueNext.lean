/- For every guesser, place and word, GueNext of the program returns what GueNext of the model returns, and writes into no argument (no condition but the laid tables that the card ties). -/
import Derived.Test.YtpdlcjjmhcfkjaaDoorCards
import Derived.Test.YtpdlcjjmhcfkjaaDoorTie
import Derived.Test.YtpdlcjjmhcfkjaaDoorLaid
import Derived.Test.YtpdlcjjmhcfkjaaDoorOpenGue
import Derived.Test.YtpdlcjjmhcfkjaaDoorGn2
import Derived.Test.YtpdlcjjmhcfkjaaDoorRegion4
import Derived.Test.YtpdlcjjmhcfkjaaDoorGh3
import Derived.WalkKit
import Derived.ProofKit
import Derived.OpenShut
import Derived.ShutString
import Derived.SliceStrings
import Derived.ChangeOld
import Derived.Below
import Derived.SevenTiedAt
namespace Go.Proofs.YtpdlcjjmhcfkjaaDoor.fnExactGueNext
open Go.ChangeShapes Go.WideShapes Go.ChangeAt Go.RowKit
set_option linter.unusedVariables false

set_option maxRecDepth 8000 in
set_option maxHeartbeats 4000000 in
theorem walk (s0 : Gu) (aS0 aC0 : Option Addr) (cS0 cC0 : Nat) (x1 : Int) (x2 : Int) (w : World) (ht : Tabs w) (h0 : Src4 w s0.S aS0) (k0 : Src w s0.C.length (ivl s0.C) aC0) (m0 : Big5 s0) (wf1 : (Lit.int .i64 x1).wf = true) (wf2 : (Lit.int .i64 x2).wf = true) :
    Calls Tryd.prog 3 #[.agg #[.slice aS0 s0.S.length cS0, .slice aC0 s0.C.length cC0], .int .i64 x1, .int .i64 x2] w fun e w' => e = .returned (.bool true) ∧ Below w.heap.size w w' := by
  have hb1 := m0.S
  have hb2 := m0.C
  have HS0 := Lib.hid h0
  have HC0 := Lib.hid k0
  have HF0 := Lib.hid (Fr.alloc w (.cells #[.slice aS0 s0.S.length cS0, .slice aC0 s0.C.length cC0] 25))
  have HA0 := Lib.hid (Box2.new w (.slice aS0 s0.S.length cS0) (.slice aC0 s0.C.length cC0) 25 _ rfl)
  clear h0 k0 m0
  have T0 := Lib.hid ht
  clear ht
  go_enter Tryd.func3, Tryd.ntmps3
  go_wp2_with fail
  generalize (w.alloc (.cells #[.slice aS0 s0.S.length cS0, .slice aC0 s0.C.length cC0] 25)) = u0 at *
  refine (laws_szGue s0 _ _ _ _ 1048576 u0 hb1 hb2 (by omega) (by omega)).mono ?_
  rintro e u1 ⟨⟨r, rfl, hr⟩, f1⟩
  rcases hr with ⟨r0, hn⟩ | rfl
  · have hr0 : ¬ r < 0 := by omega
    have hf1 : s0.S.length ≤ 100000000 := by have := hn.S; omega
    have hf2 : s0.C.length ≤ 100000000 := by have := hn.C; omega
    have F_1 := Lib.hid (HF0.out.trans f1)
    have HA_2 := Lib.hid (HA0.out.fr f1)
    have TB_3 := Lib.hid (T0.out.fr (HF0.out.trans f1))
    clear HF0 HA0 f1 hb1 hb2
    obtain ⟨_, a0, a1, _, _⟩ := HA_2.out
    go_wp2_with fail
    refine (laws_toGue s0 _ _ _ _ _ (HS0.out.fr F_1.out) (HC0.out.fr F_1.out) hn).mono ?_
    rintro e yw ⟨y1, y2, rfl, yV, yb1, yb2, yl1, yl2, yf⟩
    clear a0 a1
    have F_4 := Lib.hid (Fr.trans F_1.out yf)
    have HA_4 := Lib.hid (HA_2.out.fr yf)
    have TB_4 := Lib.hid (TB_3.out.fr yf)
    clear F_1 HA_2 TB_3
    have VY_5 := Lib.hid (yV)
    have ys := yf.size
    clear yV yf
    go_wp2_with fail
    refine (spec_GueNext s0 _ _ _ _ x1 x2 _ VY_5.out.S.src VY_5.out.C.src hf1 hf2).mono ?_
    rintro e v1 ⟨rfl, f3⟩
    clear VY_5
    have F_6 := Lib.hid (Fr.trans F_4.out f3)
    have HA_6 := Lib.hid (HA_4.out.fr f3)
    have TB_6 := Lib.hid (TB_4.out.fr f3)
    clear F_4 HA_4 TB_4
    clear f3
    obtain ⟨_, a0, a1, _, _⟩ := HA_6.out
    go_wp2_with fail
    refine (laws_toGue s0 _ _ _ _ _ (HS0.out.fr F_6.out) (HC0.out.fr F_6.out) hn).mono ?_
    rintro e qw ⟨q1, q2, rfl, qV, qb1, qb2, ql1, ql2, qf⟩
    clear a0 a1
    have F_7 := Lib.hid (Fr.trans F_6.out qf)
    have HA_7 := Lib.hid (HA_6.out.fr qf)
    have TB_7 := Lib.hid (TB_6.out.fr qf)
    clear F_6 HA_6 TB_6
    have HV_8 := Lib.hid (qV)
    have qs := qf.size
    clear qV qf
    go_wp2_with fail
    have F_9 := Lib.hid (Fr.trans F_7.out (Fr.alloc qw (.cells #[.slice (some ⟨q1, 0, none⟩) s0.S.length s0.S.length, .slice (some ⟨q2, 0, none⟩) s0.C.length s0.C.length] 30)))
    have HA_9 := Lib.hid (HA_7.out.fr (Fr.alloc qw (.cells #[.slice (some ⟨q1, 0, none⟩) s0.S.length s0.S.length, .slice (some ⟨q2, 0, none⟩) s0.C.length s0.C.length] 30)))
    have TB_9 := Lib.hid (TB_7.out.fr (Fr.alloc qw (.cells #[.slice (some ⟨q1, 0, none⟩) s0.S.length s0.S.length, .slice (some ⟨q2, 0, none⟩) s0.C.length s0.C.length] 30)))
    have HV_9 := Lib.hid (HV_8.out.fr (Fr.alloc qw (.cells #[.slice (some ⟨q1, 0, none⟩) s0.S.length s0.S.length, .slice (some ⟨q2, 0, none⟩) s0.C.length s0.C.length] 30)))
    clear F_7 HA_7 TB_7 HV_8
    have HX_10 := Lib.hid (Box2.new qw (.slice (some ⟨q1, 0, none⟩) s0.S.length s0.S.length) (.slice (some ⟨q2, 0, none⟩) s0.C.length s0.C.length) 30 _ rfl)
    have v2s : qw.heap.size < (qw.alloc (.cells #[.slice (some ⟨q1, 0, none⟩) s0.S.length s0.S.length, .slice (some ⟨q2, 0, none⟩) s0.C.length s0.C.length] 30)).heap.size := by simp
    generalize (qw.alloc (.cells #[.slice (some ⟨q1, 0, none⟩) s0.S.length s0.S.length, .slice (some ⟨q2, 0, none⟩) s0.C.length s0.C.length] 30)) = v2 at *
    refine (impl_GueNext s0 _ _ _ _ x1 x2 _ TB_9.out HV_9.out.S.src HV_9.out.C.src hf1 hf2).mono ?_
    rintro e v3 ⟨rfl, f5⟩
    have F_11 := Lib.hid (Fr.trans F_9.out f5)
    have HA_11 := Lib.hid (HA_9.out.fr f5)
    have TB_11 := Lib.hid (TB_9.out.fr f5)
    have HV_11 := Lib.hid (HV_9.out.fr f5)
    have HX_11 := Lib.hid (HX_10.out.fr f5)
    clear F_9 HA_9 TB_9 HV_9 HX_10
    clear f5
    have hq : (nextA s0 x1 x2 != nextA s0 x1 x2) = false := by simp
    generalize nextA s0 x1 x2 = oq at *
    go_wp2_with fail
    refine wp_region_lots 35 (fun i => []) (fun _ _ => True) (fun i v u => match i with | 0 => v = .agg #[.slice (some ⟨q1, 0, none⟩) s0.S.length s0.S.length, .slice (some ⟨q2, 0, none⟩) s0.C.length s0.C.length] | 1 => v = .agg #[.slice aS0 s0.S.length cS0, .slice aC0 s0.C.length cC0] | 2 => ToH s0 v u | 3 => v = .bool true | _ => v = .bool false) ?mono (by kernel_rfl) (by kernel_rfl) rfl (by kernel_rfl) trivial ?step ?fin
    case mono =>
      intro i j v u u' hij hsz h hB
      rcases j with _ | _ | _ | _ | j
      · exact h
      · exact h
      · exact ToH.but h hB
      · exact h
      · exact h
    case step =>
      intro i o ho
      rcases i with _ | _ | _ | _ | _ | i
      · cases ho
        intro fu act u hW hB hsz hL hdep
        replace hB := hB [] (fun j hj hd k hk => by
          cases hk)
        obtain ⟨ysl, ha, hy⟩ := hL.puts [30, 31, 32, 33, 34] (by kernel_rfl)
        clear hdep hL hy
        simp only [List.foldl, List.setIfInBounds_toArray, List.set_cons_succ, List.set_cons_zero] at ha
        subst ha
        obtain ⟨_, c0, c1, _, _⟩ := (HX_11.out.but hB (by simp))
        refine wpOp_step rfl (fun K hK => ?_)
        go_simp
        exact hK _ _ ⟨_, rfl, (fun h => by cases h), rfl, But.refl _ _, trivial⟩
      · cases ho
        intro fu act u hW hB hsz hL hdep
        replace hB := hB [] (fun j hj hd k hk => by
          cases hk)
        obtain ⟨ysl, ha, hy⟩ := hL.puts [30, 31, 32, 33, 34] (by kernel_rfl)
        clear hdep hL hy
        simp only [List.foldl, List.setIfInBounds_toArray, List.set_cons_succ, List.set_cons_zero] at ha
        subst ha
        obtain ⟨_, c0, c1, _, _⟩ := (HA_11.out.but hB (by simp))
        refine wpOp_step rfl (fun K hK => ?_)
        go_simp
        exact hK _ _ ⟨_, rfl, (fun h => by cases h), rfl, But.refl _ _, trivial⟩
      · cases ho
        intro fu act u hW hB hsz hL hdep
        replace hB := hB [] (fun j hj hd k hk => by
          cases hk)
        have d1 := hdep { on := 1, ground := .data } (by simp) rfl _ rfl
        obtain ⟨ysl, ha, hy⟩ := hL.puts [30, 31, 32, 33, 34] (by kernel_rfl)
        have e1 : ysl 31 = _ := (hy 31).symm.trans d1
        clear hdep hL hy d1
        simp only [List.foldl, List.setIfInBounds_toArray, List.set_cons_succ, List.set_cons_zero, e1] at ha
        subst ha
        clear e1
        refine wpOp_step rfl (fun K hK => ?_)
        go_simp
        refine (laws_toGue s0 _ _ _ _ u ((HS0.out.fr F_11.out).fr (fr_but (L := []) (Below.refl v3.heap.size v3) hB (fun k hk => by cases hk))) ((HC0.out.fr F_11.out).fr (fr_but (L := []) (Below.refl v3.heap.size v3) hB (fun k hk => by cases hk))) hn).mono ?_
        rintro e u' ⟨t1, t2, rfl, V, _, _, _, _, f⟩
        go_simp
        exact hK _ _ ⟨_, rfl, (fun h => by cases h), ⟨t1, t2, _, rfl, V⟩, But.of f, trivial⟩
      · cases ho
        intro fu act u hW hB hsz hL hdep
        replace hB := hB [] (fun j hj hd k hk => by
          cases hk)
        have d0 := hdep { on := 0, ground := .data } (by simp) rfl _ rfl
        have d2 := hdep { on := 2, ground := .data } (by simp) rfl _ rfl
        obtain ⟨ysl, ha, hy⟩ := hL.puts [30, 31, 32, 33, 34] (by kernel_rfl)
        have e0 : ysl 30 = _ := (hy 30).symm.trans d0
        obtain ⟨t1, t2, B2, h2, V2⟩ := d2
        have e2 : ysl 32 = .agg #[.slice (some ⟨t1, 0, none⟩) s0.S.length s0.S.length, .slice (some ⟨t2, 0, none⟩) s0.C.length s0.C.length] := (hy 32).symm.trans h2
        clear hdep hL hy d0 h2
        simp only [List.foldl, List.setIfInBounds_toArray, List.set_cons_succ, List.set_cons_zero, e0, e2] at ha
        subst ha
        clear e0 e2
        refine wpOp_step rfl (fun K hK => ?_)
        go_simp
        refine (laws_eqGue_same _ B2 u s0 _ _ _ _ _ _ _ _ (HV_11.out.fr (fr_but (L := []) (Below.refl v3.heap.size v3) hB (fun k hk => by cases hk))) V2 hn).mono ?_
        rintro e u' ⟨rfl, f⟩
        go_simp
        exact hK _ _ ⟨_, rfl, (fun h => by cases h), rfl, But.of f, trivial⟩
      · cases ho
        intro fu act u hW hB hsz hL hdep
        replace hB := hB [] (fun j hj hd k hk => by
          cases hk)
        have d3 := hdep { on := 3, ground := .data } (by simp) rfl _ rfl
        obtain ⟨ysl, ha, hy⟩ := hL.puts [30, 31, 32, 33, 34] (by kernel_rfl)
        have e3 : ysl 33 = _ := (hy 33).symm.trans d3
        clear hdep hL hy d3
        simp only [List.foldl, List.setIfInBounds_toArray, List.set_cons_succ, List.set_cons_zero, e3] at ha
        subst ha
        clear e3
        refine wpOp_step rfl (fun K hK => ?_)
        go_simp
        exact hK _ _ ⟨_, rfl, (fun h => by cases h), rfl, But.refl _ _, trivial⟩
      · exact absurd ho (by simp)
    case fin =>
      intro act u hW hsz hB hL hsf
      replace hB := hB [] (fun j k hk => by
        cases hk)
      have d4 := hsf 4 _ rfl
      obtain ⟨ysl, ha, hy⟩ := hL.puts [30, 31, 32, 33, 34] (by kernel_rfl)
      have e4 : ysl 34 = _ := (hy 34).symm.trans d4
      clear hL hsf hy d4
      simp only [List.foldl, List.setIfInBounds_toArray, List.set_cons_succ, List.set_cons_zero, e4] at ha
      subst ha
      clear e4
      have fB : Fr v3 u := (fr_but (L := []) (Below.refl v3.heap.size v3) hB (fun k hk => by cases hk))
      clear hB hW
      clear hsz
      have F_12 := Lib.hid (Fr.trans F_11.out fB)
      have HA_12 := Lib.hid (HA_11.out.fr fB)
      have TB_12 := Lib.hid (TB_11.out.fr fB)
      have HV_12 := Lib.hid (HV_11.out.fr fB)
      have HX_12 := Lib.hid (HX_11.out.fr fB)
      clear F_11 HA_11 TB_11 HV_11 HX_11
      clear fB
      go_wp2_with fail
      go_ret
      exact ⟨rfl, F_12.out⟩
  · go_wp2_with fail
    go_ret
    exact ⟨rfl, HF0.out.trans f1⟩

set_option maxRecDepth 100000 in
theorem lifted (os : Os) (started : os.Started) (H : Type) (enc : TypeId × Value → H) :
    ReturnsInHanded {} Tryd.checked os 3 .any (fun w args => (Rows.fnExactGueNextSpec.pre enc Tryd.prog Tryd.f3 [] false w args ∧ laidMetH Tryd.prog laidAll w) ∧ sizedMet enc Tryd.prog Tryd.f3 (OpenSpec.ofChange Rows.fnExactGueNextSpec) false w args)
      (Rows.fnExactGueNextSpec.post enc Tryd.prog Tryd.f3 false true false false) := by
  refine returnsInHanded_of_change_and (C := Tryd.checked) (X := fun w _ => laidMetH Tryd.prog laidAll w) (fun _ _ _ hh h => h.of_heap hh) own started (by kernel_rfl) Tryd.func3
    (ChangeSpec.witness_shaped (enc := enc) (C := Tryd.checked) (os := os) (X := fun w _ => laidMetH Tryd.prog laidAll w) false (World.doorLaid Tryd.prog 400 os) #[.agg #[.slice none 0 0, .slice none 0 0], .int .i64 0, .int .i64 0] 8 rfl (World.shaped_of_RefB (by kernel_rfl) (by kernel_rfl)) (by kernel_rfl) (by kernel_rfl) (by kernel_rfl) (door_met os _)) ?_
  intro W base args ds gs before hval0 hW _ _ hL _
  have hval : ∀ (j : Nat) t v, Tryd.f3.params[j]? = some t → args[j]? = some v → Value.okWide Tryd.prog W .any base t v := hval0
  have hW' := hW
  obtain ⟨p, q, hA0, hV0, rfl, hfz, hnd⟩ := hW
  have hA : DataW.TrodAll enc Tryd.prog W 0 (fun _ => true) true Tryd.f3.params.toList args.toList ds p := hA0
  have hV : DataW.TrodVars enc Tryd.prog W (fun _ => true) laidNames gs q := hV0
  rw [Tryd.params3] at hA hval
  obtain ⟨v0, vs0, d0, ds0, p0, q0, hargs, rfl, rfl, h0, r0⟩ := trodAll_cons hA
  obtain ⟨v1, vs1, d1, ds1, p1, q1, rfl, rfl, rfl, h1, r1⟩ := trodAll_cons r0
  obtain ⟨v2, vs2, d2, ds2, p2, q2, rfl, rfl, rfl, h2, r2⟩ := trodAll_cons r1
  obtain ⟨rfl, rfl, rfl⟩ := trodAll_nil r2
  obtain rfl : args = #[v0, v1, v2] := by cases args; simp_all
  have hV1 := hV
  obtain ⟨g0, t0, cs0, f0, e0, s0, g1, t1, cs1, f1, e1, s1, rfl, _⟩ := trodVars_two hV1
  have k0 := h0
  have lt0 : ∀ x ∈ p0, x.block < W.heap.size := by obtain ⟨m, hm⟩ := k0; exact DataW.trod_lt m _ _ _ hm
  obtain ⟨s0, aS0, aC0, cS0, cC0, rfl, hs0, hc0, hb0⟩ := open_gue (hval 0 25 v0 rfl rfl) h0
  have k1 := h1
  have lt1 : ∀ x ∈ p1, x.block < W.heap.size := by obtain ⟨m, hm⟩ := k1; exact DataW.trod_lt m _ _ _ hm
  obtain ⟨x1, rfl, rfl, rfl, wf1⟩ := open_int Tryd.underlying3 (hval 1 3 v1 rfl rfl) h1
  have k2 := h2
  have lt2 : ∀ x ∈ p2, x.block < W.heap.size := by obtain ⟨m, hm⟩ := k2; exact DataW.trod_lt m _ _ _ hm
  obtain ⟨x2, rfl, rfl, rfl, wf2⟩ := open_int Tryd.underlying3 (hval 2 3 v2 rfl rfl) h2
  clear hA0 hval0 hV1
  refine (walk s0 aS0 aC0 cS0 cC0 x1 x2 W (tabs_of_laid hL) hs0 hc0 hb0 wf1 wf2).mono fun e W' ⟨he, bel⟩ => ?_
  subst he
  exact ⟨_, rfl, _, _, _, [], _, _, hW', trodAll_mk1 (shut_bool Tryd.underlying4 _), (trodAll_cons_mk (Below.trod laidOut (by kernel_rfl) (of_decide_eq_true (by kernel_rfl)) k0 bel lt0) (trodAll_cons_mk (Below.trod laidOut (by kernel_rfl) (of_decide_eq_true (by kernel_rfl)) k1 bel lt1) (trodAll_cons_mk (Below.trod laidOut (by kernel_rfl) (of_decide_eq_true (by kernel_rfl)) k2 bel lt2) trodAll_mk0))), bel.trodVars laidOut (by kernel_rfl) hV, bel.frame _, fun h => by cases h⟩

theorem over : Rows.fnExactGueNextRow.holds Tryd.pinned (OpenSpec.ofChange Rows.fnExactGueNextSpec) :=
  OpenClaim.holds_of_wide 3 Tryd.f3 rfl rfl rfl rfl rfl rfl rfl ⟨rfl, rfl, rfl, rfl, rfl⟩ rfl rfl rfl rfl rfl (by kernel_rfl) Tryd.func3 (by kernel_rfl)
    (of_decide_eq_true (by kernel_rfl)) (by unfold Func.isWrapper; first | (rw [if_pos (by decide +kernel)]; kernel_rfl) | (rw [if_neg (by decide +kernel)]; exact ⟨rfl, rfl⟩))
    (fun os started H enc _ => lifted os started H enc)

/-- THE STATEMENT: the tied card. -/
theorem proved : Rows.FnExactGueNextCardSaid :=
  Claim7.holds_tied_plain_at .later [] [.wider, .data] true (true, "28d99e4bb5833289285c2c429367b0fb1fb952ebfb3705a8c1c83c2f0ebee928") false
    over (fun _ h => by cases h) (by kernel_rfl) (fun _ h => by cases h) fnExactGueNext_row_tie rfl ⟨rfl, rfl⟩ (by kernel_rfl) rfl
    (fun f fn hf hfn => by
      obtain rfl : f = 3 := Option.some.inj ((show Tryd.prog.funcNamed "loop.example/harbinger/laws.FnExactGueNext" = some 3 by kernel_rfl).symm.trans hf) |>.symm
      obtain rfl : fn = Tryd.f3 := (Option.some.inj (Tryd.func3.symm.trans hfn)).symm
      exact ⟨by kernel_rfl, fun j t ht => by
        rw [Tryd.params3] at ht
        have hm : t ∈ [25, 3, 3] := by simpa using Array.mem_of_getElem? ht
        have hall : ([25, 3, 3].all fun u => !Tryd.prog.wantsStandIn u) = true := by kernel_rfl
        exact (show Tryd.prog.wantsStandIn t = false by simpa using List.all_eq_true.1 hall t hm)⟩)
    (by kernel_rfl)
#print axioms proved
end Go.Proofs.YtpdlcjjmhcfkjaaDoor.fnExactGueNext
