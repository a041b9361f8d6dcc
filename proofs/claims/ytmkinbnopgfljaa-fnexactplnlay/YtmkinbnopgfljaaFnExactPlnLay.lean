/- For every machine, place and word, PlnLay of the program returns what PlnLay of the model returns, writes into no argument, and its answer owns its memory (no condition). -/
import Derived.Test.YtmkinbnopgfljaaRows
import Derived.Test.YtmkinbnopgfljaaOpenPln
import Derived.Test.YtmkinbnopgfljaaPl7
import Derived.Test.YtmkinbnopgfljaaRegion4
import Derived.Test.YtmkinbnopgfljaaPh
import Derived.Test.YtmkinbnopgfljaaPres
import Derived.WalkKit
import Derived.ProofKit
import Derived.OpenShut
import Derived.ShutString
import Derived.ChangeOld
import Derived.Below
namespace Go.Proofs.Ytmkinbnopgfljaa.fnExactPlnLay
open Go.ChangeShapes Go.WideShapes Go.ChangeAt Go.RowKit
set_option linter.unusedVariables false
set_option linter.unusedSimpArgs false

theorem own : ownKnob Try.prog.godebug = none := by kernel_rfl
theorem laidOut : laidOutB Try.prog = true := by kernel_rfl

set_option maxRecDepth 8000 in
set_option maxHeartbeats 4000000 in
theorem walk (s0 : St) (aR0 aC0 aM0 : Option Addr) (cR0 cC0 cM0 : Nat) (x1 : Int) (x2 : Int) (w : World) (h0 : SrcS w s0 aR0 aC0 aM0) (m0 : Big s0) (wf1 : (Lit.int .i64 x1).wf = true) (wf2 : (Lit.int .i64 x2).wf = true) :
    Calls Try.prog 3 #[.agg #[.int .i64 s0.pc, .slice aR0 s0.R.length cR0, .slice aC0 s0.C.length cC0, .slice aM0 s0.M.length cM0], .int .i64 x1, .int .i64 x2] w fun e w' => e = .returned (.bool true) ∧ Below w.heap.size w w' := by
  have hb1 := m0.R
  have hb2 := m0.C
  have hb3 := m0.M
  have HS0 := Lib.hid h0
  have HF0 := Lib.hid (Fr.alloc w (.cells #[.int .i64 s0.pc, .slice aR0 s0.R.length cR0, .slice aC0 s0.C.length cC0, .slice aM0 s0.M.length cM0] 24))
  have HA0 := Lib.hid (Box4.new w (.int .i64 s0.pc) (.slice aR0 s0.R.length cR0) (.slice aC0 s0.C.length cC0) (.slice aM0 s0.M.length cM0) 24 _ rfl)
  clear h0 m0
  go_enter Try.func3, Try.ntmps3
  go_wp2_with fail
  generalize (w.alloc (.cells #[.int .i64 s0.pc, .slice aR0 s0.R.length cR0, .slice aC0 s0.C.length cC0, .slice aM0 s0.M.length cM0] 24)) = u0 at *
  refine (laws_szPln s0 _ _ _ _ _ _ 1048576 u0 hb1 hb2 hb3 (by omega) (by omega)).mono ?_
  rintro e u1 ⟨⟨r, rfl, hr⟩, f1⟩
  rcases hr with ⟨r0, hn⟩ | rfl
  · have hr0 : ¬ r < 0 := by omega
    have F_1 := Lib.hid (HF0.out.trans f1)
    have HA_2 := Lib.hid (HA0.out.fr f1)
    clear HF0 HA0 f1 hb1 hb2 hb3
    have hw1 := F_1.out.size
    have hwA := HA_2.out.lt
    generalize ht : layD s0 x1 x2 = t at *
    have HT : Hid (Few20 t) := by rw [← ht]; exact few_lay _ _ _ hn
    obtain ⟨_, a0, a1, a2, a3, _, _, _, _⟩ := HA_2.out
    go_wp2_with fail
    refine (laws_toPln s0 _ _ _ _ _ _ _ (HS0.out.fr F_1.out) hn).mono ?_
    rintro e yw ⟨y1, y2, y3, rfl, yV, yb1, yb2, yb3, yl1, yl2, yl3, yf⟩
    clear a0 a1 a2 a3
    have F_3 := Lib.hid (Fr.trans F_1.out yf)
    have HA_3 := Lib.hid (HA_2.out.fr yf)
    clear F_1 HA_2
    have VY_4 := Lib.hid (yV)
    have ys := yf.size
    clear yV yf
    go_wp2_with fail
    refine (spec_PlnLay s0 _ _ _ _ _ _ x1 x2 _ VY_4.out.src hn.few).mono ?_
    rintro e ku hk
    obtain ⟨kR, kC, kM, kr, kc, km, rfl, kV, kB, kf⟩ := lay_res ht hk
    clear hk
    have kz := kf.size
    clear VY_4
    have F_5 := Lib.hid (Fr.trans F_3.out kf)
    have HA_5 := Lib.hid (HA_3.out.fr kf)
    clear F_3 HA_3
    have VW_6 := Lib.hid (kV)
    clear kV kf
    obtain ⟨_, a0, a1, a2, a3, _, _, _, _⟩ := HA_5.out
    have nA : ¬ w.heap.size = ku.heap.size := by omega
    have nB : ¬ ku.heap.size = w.heap.size := by omega
    go_wp2_with fail
    clear a0 a1 a2 a3 nA nB
    have F_7 := Lib.hid (Fr.trans F_5.out (Fr.alloc ku (.cells #[.int .i64 t.pc, .slice kR t.R.length kr, .slice kC t.C.length kc, .slice kM t.M.length km] 26)))
    have HA_7 := Lib.hid (HA_5.out.fr (Fr.alloc ku (.cells #[.int .i64 t.pc, .slice kR t.R.length kr, .slice kC t.C.length kc, .slice kM t.M.length km] 26)))
    have VW_7 := Lib.hid (VW_6.out.fr (Fr.alloc ku (.cells #[.int .i64 t.pc, .slice kR t.R.length kr, .slice kC t.C.length kc, .slice kM t.M.length km] 26)))
    clear F_5 HA_5 VW_6
    have HW_8 := Lib.hid (Box4.new ku (.int .i64 t.pc) (.slice kR t.R.length kr) (.slice kC t.C.length kc) (.slice kM t.M.length km) 26 _ rfl)
    have ks : ku.heap.size < (ku.alloc (.cells #[.int .i64 t.pc, .slice kR t.R.length kr, .slice kC t.C.length kc, .slice kM t.M.length km] 26)).heap.size := by simp
    generalize (ku.alloc (.cells #[.int .i64 t.pc, .slice kR t.R.length kr, .slice kC t.C.length kc, .slice kM t.M.length km] 26)) = kv at *
    refine (laws_toPln s0 _ _ _ _ _ _ _ (HS0.out.fr F_7.out) hn).mono ?_
    rintro e qw ⟨q1, q2, q3, rfl, qV, qb1, qb2, qb3, ql1, ql2, ql3, qf⟩
    have F_9 := Lib.hid (Fr.trans F_7.out qf)
    have HA_9 := Lib.hid (HA_7.out.fr qf)
    have VW_9 := Lib.hid (VW_7.out.fr qf)
    have HW_9 := Lib.hid (HW_8.out.fr qf)
    clear F_7 HA_7 VW_7 HW_8
    have HV_10 := Lib.hid (qV)
    have qs := qf.size
    clear qV qf
    go_wp2_with fail
    have F_11 := Lib.hid (Fr.trans F_9.out (Fr.alloc qw (.cells #[.int .i64 s0.pc, .slice (some ⟨q1, 0, none⟩) s0.R.length s0.R.length, .slice (some ⟨q2, 0, none⟩) s0.C.length s0.C.length, .slice (some ⟨q3, 0, none⟩) s0.M.length s0.M.length] 26)))
    have HA_11 := Lib.hid (HA_9.out.fr (Fr.alloc qw (.cells #[.int .i64 s0.pc, .slice (some ⟨q1, 0, none⟩) s0.R.length s0.R.length, .slice (some ⟨q2, 0, none⟩) s0.C.length s0.C.length, .slice (some ⟨q3, 0, none⟩) s0.M.length s0.M.length] 26)))
    have VW_11 := Lib.hid (VW_9.out.fr (Fr.alloc qw (.cells #[.int .i64 s0.pc, .slice (some ⟨q1, 0, none⟩) s0.R.length s0.R.length, .slice (some ⟨q2, 0, none⟩) s0.C.length s0.C.length, .slice (some ⟨q3, 0, none⟩) s0.M.length s0.M.length] 26)))
    have HW_11 := Lib.hid (HW_9.out.fr (Fr.alloc qw (.cells #[.int .i64 s0.pc, .slice (some ⟨q1, 0, none⟩) s0.R.length s0.R.length, .slice (some ⟨q2, 0, none⟩) s0.C.length s0.C.length, .slice (some ⟨q3, 0, none⟩) s0.M.length s0.M.length] 26)))
    have HV_11 := Lib.hid (HV_10.out.fr (Fr.alloc qw (.cells #[.int .i64 s0.pc, .slice (some ⟨q1, 0, none⟩) s0.R.length s0.R.length, .slice (some ⟨q2, 0, none⟩) s0.C.length s0.C.length, .slice (some ⟨q3, 0, none⟩) s0.M.length s0.M.length] 26)))
    clear F_9 HA_9 VW_9 HW_9 HV_10
    have HX_12 := Lib.hid (Box4.new qw (.int .i64 s0.pc) (.slice (some ⟨q1, 0, none⟩) s0.R.length s0.R.length) (.slice (some ⟨q2, 0, none⟩) s0.C.length s0.C.length) (.slice (some ⟨q3, 0, none⟩) s0.M.length s0.M.length) 26 _ rfl)
    have v2s : qw.heap.size < (qw.alloc (.cells #[.int .i64 s0.pc, .slice (some ⟨q1, 0, none⟩) s0.R.length s0.R.length, .slice (some ⟨q2, 0, none⟩) s0.C.length s0.C.length, .slice (some ⟨q3, 0, none⟩) s0.M.length s0.M.length] 26)).heap.size := by simp
    generalize (qw.alloc (.cells #[.int .i64 s0.pc, .slice (some ⟨q1, 0, none⟩) s0.R.length s0.R.length, .slice (some ⟨q2, 0, none⟩) s0.C.length s0.C.length, .slice (some ⟨q3, 0, none⟩) s0.M.length s0.M.length] 26)) = v2 at *
    refine (impl_PlnLay s0 _ _ _ _ _ _ x1 x2 _ HV_11.out.src hn.few).mono ?_
    rintro e gu hg
    obtain ⟨gR, gC, gM, gr, gc, gm, rfl, gV, gB, gf⟩ := lay_res ht hg
    clear hg
    have gz := gf.size
    have F_13 := Lib.hid (Fr.trans F_11.out gf)
    have HA_13 := Lib.hid (HA_11.out.fr gf)
    have VW_13 := Lib.hid (VW_11.out.fr gf)
    have HW_13 := Lib.hid (HW_11.out.fr gf)
    have HV_13 := Lib.hid (HV_11.out.fr gf)
    have HX_13 := Lib.hid (HX_12.out.fr gf)
    clear F_11 HA_11 VW_11 HW_11 HV_11 HX_12
    have VG_14 := Lib.hid (gV)
    clear gV gf
    obtain ⟨_, b0, b1, b2, b3, _, _, _, _⟩ := HW_13.out
    have nA : ¬ ku.heap.size = gu.heap.size := by omega
    have nB : ¬ gu.heap.size = ku.heap.size := by omega
    go_wp2_with fail
    clear b0 b1 b2 b3 nA nB
    have F_15 := Lib.hid (Fr.trans F_13.out (Fr.alloc gu (.cells #[.int .i64 t.pc, .slice gR t.R.length gr, .slice gC t.C.length gc, .slice gM t.M.length gm] 26)))
    have HA_15 := Lib.hid (HA_13.out.fr (Fr.alloc gu (.cells #[.int .i64 t.pc, .slice gR t.R.length gr, .slice gC t.C.length gc, .slice gM t.M.length gm] 26)))
    have VW_15 := Lib.hid (VW_13.out.fr (Fr.alloc gu (.cells #[.int .i64 t.pc, .slice gR t.R.length gr, .slice gC t.C.length gc, .slice gM t.M.length gm] 26)))
    have HW_15 := Lib.hid (HW_13.out.fr (Fr.alloc gu (.cells #[.int .i64 t.pc, .slice gR t.R.length gr, .slice gC t.C.length gc, .slice gM t.M.length gm] 26)))
    have HV_15 := Lib.hid (HV_13.out.fr (Fr.alloc gu (.cells #[.int .i64 t.pc, .slice gR t.R.length gr, .slice gC t.C.length gc, .slice gM t.M.length gm] 26)))
    have HX_15 := Lib.hid (HX_13.out.fr (Fr.alloc gu (.cells #[.int .i64 t.pc, .slice gR t.R.length gr, .slice gC t.C.length gc, .slice gM t.M.length gm] 26)))
    have VG_15 := Lib.hid (VG_14.out.fr (Fr.alloc gu (.cells #[.int .i64 t.pc, .slice gR t.R.length gr, .slice gC t.C.length gc, .slice gM t.M.length gm] 26)))
    clear F_13 HA_13 VW_13 HW_13 HV_13 HX_13 VG_14
    have HG_16 := Lib.hid (Box4.new gu (.int .i64 t.pc) (.slice gR t.R.length gr) (.slice gC t.C.length gc) (.slice gM t.M.length gm) 26 _ rfl)
    have gs : gu.heap.size < (gu.alloc (.cells #[.int .i64 t.pc, .slice gR t.R.length gr, .slice gC t.C.length gc, .slice gM t.M.length gm] 26)).heap.size := by simp
    generalize (gu.alloc (.cells #[.int .i64 t.pc, .slice gR t.R.length gr, .slice gC t.C.length gc, .slice gM t.M.length gm] 26)) = gv at *
    refine (laws_eqPln_same _ _ _ t _ _ _ _ _ _ _ _ _ _ _ _ VG_15.out VW_15.out HT.out).mono ?_
    rintro e v4 ⟨rfl, v4f⟩
    have F_17 := Lib.hid (Fr.trans F_15.out v4f)
    have HA_17 := Lib.hid (HA_15.out.fr v4f)
    have VW_17 := Lib.hid (VW_15.out.fr v4f)
    have HW_17 := Lib.hid (HW_15.out.fr v4f)
    have HV_17 := Lib.hid (HV_15.out.fr v4f)
    have HX_17 := Lib.hid (HX_15.out.fr v4f)
    have VG_17 := Lib.hid (VG_15.out.fr v4f)
    have HG_17 := Lib.hid (HG_16.out.fr v4f)
    clear F_15 HA_15 VW_15 HW_15 HV_15 HX_15 VG_15 HG_16
    have v4s := v4f.size
    clear v4f
    go_wp2_with fail
    refine wp_region_lots 79 (fun i => []) (fun _ _ => True) (fun i v u => match i with | 0 => v = .agg #[.int .i64 s0.pc, .slice (some ⟨q1, 0, none⟩) s0.R.length s0.R.length, .slice (some ⟨q2, 0, none⟩) s0.C.length s0.C.length, .slice (some ⟨q3, 0, none⟩) s0.M.length s0.M.length] | 1 => v = .agg #[.int .i64 s0.pc, .slice aR0 s0.R.length cR0, .slice aC0 s0.C.length cC0, .slice aM0 s0.M.length cM0] | 2 => ToQ s0 v u | 3 => v = .bool true | _ => v = .bool false) ?mono (by kernel_rfl) (by kernel_rfl) rfl (by kernel_rfl) trivial ?step ?fin
    case mono =>
      intro i j v u u' hij hsz h hB
      rcases j with _ | _ | _ | _ | j
      · exact h
      · exact h
      · exact ToQ.but (L := []) h hB
      · exact h
      · exact h
    case step =>
      intro i o ho
      rcases i with _ | _ | _ | _ | _ | i
      · cases ho
        intro fu act u hW hB hsz hL hdep
        replace hB := hB [] (fun j hj hd k hk => by
          cases hk)
        obtain ⟨ysl, ha, hy⟩ := hL.puts [35, 36, 37, 38, 39] (by kernel_rfl)
        clear hdep hL hy
        simp only [List.foldl, List.setIfInBounds_toArray, List.set_cons_succ, List.set_cons_zero] at ha
        subst ha
        obtain ⟨_, c0, c1, c2, c3, _, _, _, _⟩ := (HX_17.out.but hB (by simp))
        refine wpOp_step rfl (fun K hK => ?_)
        go_simp
        exact hK _ _ ⟨_, rfl, (fun h => by cases h), rfl, But.refl _ _, trivial⟩
      · cases ho
        intro fu act u hW hB hsz hL hdep
        replace hB := hB [] (fun j hj hd k hk => by
          cases hk)
        obtain ⟨ysl, ha, hy⟩ := hL.puts [35, 36, 37, 38, 39] (by kernel_rfl)
        clear hdep hL hy
        simp only [List.foldl, List.setIfInBounds_toArray, List.set_cons_succ, List.set_cons_zero] at ha
        subst ha
        obtain ⟨_, c0, c1, c2, c3, _, _, _, _⟩ := (HA_17.out.but hB (by simp))
        refine wpOp_step rfl (fun K hK => ?_)
        go_simp
        exact hK _ _ ⟨_, rfl, (fun h => by cases h), rfl, But.refl _ _, trivial⟩
      · cases ho
        intro fu act u hW hB hsz hL hdep
        replace hB := hB [] (fun j hj hd k hk => by
          cases hk)
        have d1 := hdep { on := 1, ground := .data } (by simp) rfl _ rfl
        obtain ⟨ysl, ha, hy⟩ := hL.puts [35, 36, 37, 38, 39] (by kernel_rfl)
        have e1 : ysl 36 = _ := (hy 36).symm.trans d1
        clear hdep hL hy d1
        simp only [List.foldl, List.setIfInBounds_toArray, List.set_cons_succ, List.set_cons_zero, e1] at ha
        subst ha
        clear e1
        refine wpOp_step rfl (fun K hK => ?_)
        go_simp
        refine (laws_toPln s0 _ _ _ _ _ _ u ((HS0.out.fr F_17.out).fr (fr_but (L := []) (Below.refl v4.heap.size v4) hB (fun k hk => by cases hk))) hn).mono ?_
        rintro e u' ⟨t1, t2, t3, rfl, V, _, _, _, _, _, _, f⟩
        go_simp
        exact hK _ _ ⟨_, rfl, (fun h => by cases h), ⟨t1, t2, t3, _, rfl, V⟩, But.of f, trivial⟩
      · cases ho
        intro fu act u hW hB hsz hL hdep
        replace hB := hB [] (fun j hj hd k hk => by
          cases hk)
        have d0 := hdep { on := 0, ground := .data } (by simp) rfl _ rfl
        have d2 := hdep { on := 2, ground := .data } (by simp) rfl _ rfl
        obtain ⟨ysl, ha, hy⟩ := hL.puts [35, 36, 37, 38, 39] (by kernel_rfl)
        have e0 : ysl 35 = _ := (hy 35).symm.trans d0
        obtain ⟨t1, t2, t3, B2, h2, V2⟩ := d2
        have e2 : ysl 37 = .agg #[.int .i64 s0.pc, .slice (some ⟨t1, 0, none⟩) s0.R.length s0.R.length, .slice (some ⟨t2, 0, none⟩) s0.C.length s0.C.length, .slice (some ⟨t3, 0, none⟩) s0.M.length s0.M.length] := (hy 37).symm.trans h2
        clear hdep hL hy d0 h2
        simp only [List.foldl, List.setIfInBounds_toArray, List.set_cons_succ, List.set_cons_zero, e0, e2] at ha
        subst ha
        clear e0 e2
        refine wpOp_step rfl (fun K hK => ?_)
        go_simp
        refine (laws_eqPln_same _ B2 u s0 _ _ _ _ _ _ _ _ _ _ _ _ (HV_17.out.fr (fr_but (L := []) (Below.refl v4.heap.size v4) hB (fun k hk => by cases hk))) V2 hn).mono ?_
        rintro e u' ⟨rfl, f⟩
        go_simp
        exact hK _ _ ⟨_, rfl, (fun h => by cases h), rfl, But.of f, trivial⟩
      · cases ho
        intro fu act u hW hB hsz hL hdep
        replace hB := hB [] (fun j hj hd k hk => by
          cases hk)
        have d3 := hdep { on := 3, ground := .data } (by simp) rfl _ rfl
        obtain ⟨ysl, ha, hy⟩ := hL.puts [35, 36, 37, 38, 39] (by kernel_rfl)
        have e3 : ysl 38 = _ := (hy 38).symm.trans d3
        clear hdep hL hy d3
        simp only [List.foldl, List.setIfInBounds_toArray, List.set_cons_succ, List.set_cons_zero, e3] at ha
        subst ha
        clear e3
        refine wpOp_step rfl (fun K hK => ?_)
        go_simp
        exact hK _ _ ⟨_, rfl, (fun h => by cases h), rfl, But.refl _ _, trivial⟩
      · exact absurd ho (by simp)
    case fin =>
      intro act u hW hsz hB hL hsf
      replace hB := hB [] (fun j k hk => by
        cases hk)
      have d4 := hsf 4 _ rfl
      obtain ⟨ysl, ha, hy⟩ := hL.puts [35, 36, 37, 38, 39] (by kernel_rfl)
      have e4 : ysl 39 = _ := (hy 39).symm.trans d4
      clear hL hsf hy d4
      simp only [List.foldl, List.setIfInBounds_toArray, List.set_cons_succ, List.set_cons_zero, e4] at ha
      subst ha
      clear e4
      have fB : Fr v4 u := (fr_but (L := []) (Below.refl v4.heap.size v4) hB (fun k hk => by cases hk))
      clear hB hW
      have F_18 := Lib.hid (Fr.trans F_17.out fB)
      have HA_18 := Lib.hid (HA_17.out.fr fB)
      have VW_18 := Lib.hid (VW_17.out.fr fB)
      have HW_18 := Lib.hid (HW_17.out.fr fB)
      have HV_18 := Lib.hid (HV_17.out.fr fB)
      have HX_18 := Lib.hid (HX_17.out.fr fB)
      have VG_18 := Lib.hid (VG_17.out.fr fB)
      have HG_18 := Lib.hid (HG_17.out.fr fB)
      clear F_17 HA_17 VW_17 HW_17 HV_17 HX_17 VG_17 HG_17
      clear fB
      obtain ⟨_, a0, a1, a2, a3, _, _, _, _⟩ := HX_18.out
      go_wp2_with fail
      refine (laws_markPln _ s0 _ _ _ _ _ _ 1 u HV_18.out (by omega) hn (by omega) (by omega) (fun b hb => by cases hb; show q1 < _; omega) (fun b hb => by cases hb; show q2 < _; omega)).mono ?_
      rintro e v5 ⟨rfl, _, m5, l5⟩
      clear a0 a1 a2 a3
      have nb5 : ∀ k, k ∈ blks (some ⟨q1, 0, none⟩) (some ⟨q2, 0, none⟩) (some ⟨q3, 0, none⟩) → k = q1 ∨ k = q2 ∨ k = q3 := fun k hk => by simpa [blks] using hk
      clear HV_18
      have F_19 := Lib.hid (Below.trans F_18.out (l5.mono (by omega)))
      have HA_19 := Lib.hid (HA_18.out.but m5 (fun hm => by have := nb5 _ hm; omega))
      have VW_19 := Lib.hid (VW_18.out.but m5 (fun b hb hm => by have := kB b hb; have := nb5 _ hm; omega))
      have HW_19 := Lib.hid (HW_18.out.but m5 (fun hm => by have := nb5 _ hm; omega))
      have HX_19 := Lib.hid (HX_18.out.but m5 (fun hm => by have := nb5 _ hm; omega))
      have VG_19 := Lib.hid (VG_18.out.but m5 (fun b hb hm => by have := gB b hb; have := nb5 _ hm; omega))
      have HG_19 := Lib.hid (HG_18.out.but m5 (fun hm => by have := nb5 _ hm; omega))
      clear F_18 HA_18 VW_18 HW_18 HX_18 VG_18 HG_18
      have v5s := m5.size
      clear m5 l5 nb5
      clear HX_19
      have hk5 : ¬ (1 : Int) + s0.R.length + s0.C.length + s0.M.length < 0 := by omega
      obtain ⟨_, a0, a1, a2, a3, _, _, _, _⟩ := HG_19.out
      obtain ⟨_, b0, b1, b2, b3, _, _, _, _⟩ := HW_19.out
      go_wp2_with fail
      refine (laws_eqPln_same _ _ _ t _ _ _ _ _ _ _ _ _ _ _ _ VG_19.out VW_19.out HT.out).mono ?_
      rintro e v6 ⟨rfl, v6f⟩
      clear a0 a1 a2 a3 b0 b1 b2 b3
      have F_20 := Lib.hid (Fr.trans F_19.out v6f)
      have HA_20 := Lib.hid (HA_19.out.fr v6f)
      have VW_20 := Lib.hid (VW_19.out.fr v6f)
      have HW_20 := Lib.hid (HW_19.out.fr v6f)
      have VG_20 := Lib.hid (VG_19.out.fr v6f)
      have HG_20 := Lib.hid (HG_19.out.fr v6f)
      clear F_19 HA_19 VW_19 HW_19 VG_19 HG_19
      have v6s := v6f.size
      clear v6f
      obtain ⟨_, a0, a1, a2, a3, _, _, _, _⟩ := HG_20.out
      go_wp2_with fail
      refine (laws_markPln _ t _ _ _ _ _ _ 1 v6 VG_20.out (by omega) HT.out (by omega) (by omega) (fun b hb => by have := gB b (.inl hb); omega) (fun b hb => by have := gB b (.inr (.inl hb)); omega)).mono ?_
      rintro e v7 ⟨rfl, K7, m7, l7⟩
      clear a0 a1 a2 a3
      clear VG_20
      have F_21 := Lib.hid (Below.trans F_20.out (l7.mono (by omega)))
      have HA_21 := Lib.hid (HA_20.out.but m7 (fun hm => by obtain ⟨b, hb1, hb2⟩ := mem_blks hm; have := gB b hb2; omega))
      have VW_21 := Lib.hid (VW_20.out.but m7 (fun b hb hm => by obtain ⟨b2, hb1, hb2⟩ := mem_blks hm; have := gB b2 hb2; have := kB b hb; omega))
      have HW_21 := Lib.hid (HW_20.out.but m7 (fun hm => by obtain ⟨b, hb1, hb2⟩ := mem_blks hm; have := gB b hb2; omega))
      have HG_21 := Lib.hid (HG_20.out.but m7 (fun hm => by obtain ⟨b, hb1, hb2⟩ := mem_blks hm; have := gB b hb2; omega))
      clear F_20 HA_20 VW_20 HW_20 HG_20
      have KG_22 := Lib.hid (K7)
      have v7s := m7.size
      clear m7 l7 K7
      have h1 := HT.out.R
      have h2 := HT.out.C
      have h3 := HT.out.M
      have hk7 : ¬ (1 : Int) + t.R.length + t.C.length + t.M.length < 0 := by omega
      obtain ⟨_, a0, a1, a2, a3, _, _, _, _⟩ := HG_21.out
      go_wp2_with fail
      refine (laws_heldPln _ t _ _ _ _ _ _ 1 _ KG_22.out HT.out (by omega) (by omega) _).mono ?_
      rintro e v8 ⟨rfl, v8f⟩
      clear a0 a1 a2 a3
      have F_23 := Lib.hid (Fr.trans F_21.out v8f)
      have HA_23 := Lib.hid (HA_21.out.fr v8f)
      have VW_23 := Lib.hid (VW_21.out.fr v8f)
      have HW_23 := Lib.hid (HW_21.out.fr v8f)
      have HG_23 := Lib.hid (HG_21.out.fr v8f)
      have KG_23 := Lib.hid (KG_22.out.fr v8f)
      clear F_21 HA_21 VW_21 HW_21 HG_21 KG_22
      clear v8f
      obtain ⟨_, a0, a1, a2, a3, _, _, _, _⟩ := HA_23.out
      go_wp2_with fail
      refine (laws_toPln s0 _ _ _ _ _ _ _ (HS0.out.fr F_23.out) hn).mono ?_
      rintro e zw ⟨z1, z2, z3, rfl, zV, zb1, zb2, zb3, zl1, zl2, zl3, zf⟩
      clear a0 a1 a2 a3
      have F_24 := Lib.hid (Fr.trans F_23.out zf)
      have HA_24 := Lib.hid (HA_23.out.fr zf)
      have VW_24 := Lib.hid (VW_23.out.fr zf)
      have HW_24 := Lib.hid (HW_23.out.fr zf)
      have HG_24 := Lib.hid (HG_23.out.fr zf)
      have KG_24 := Lib.hid (KG_23.out.fr zf)
      clear F_23 HA_23 VW_23 HW_23 HG_23 KG_23
      have VZ_25 := Lib.hid (zV)
      have zs := zf.size
      clear zV zf
      go_wp2_with fail
      refine (impl_PlnLay s0 _ _ _ _ _ _ x1 x2 _ VZ_25.out.src hn.few).mono ?_
      rintro e pu hp
      obtain ⟨pR, pC, pM, pr, pc, pm, rfl, pV, pB, pf⟩ := lay_res ht hp
      clear hp
      have pz := pf.size
      clear VZ_25
      have F_26 := Lib.hid (Fr.trans F_24.out pf)
      have HA_26 := Lib.hid (HA_24.out.fr pf)
      have VW_26 := Lib.hid (VW_24.out.fr pf)
      have HW_26 := Lib.hid (HW_24.out.fr pf)
      have HG_26 := Lib.hid (HG_24.out.fr pf)
      have KG_26 := Lib.hid (KG_24.out.fr pf)
      clear F_24 HA_24 VW_24 HW_24 HG_24 KG_24
      have VP_27 := Lib.hid (pV)
      clear pV pf
      obtain ⟨_, b0, b1, b2, b3, _, _, _, _⟩ := HW_26.out
      have nA : ¬ ku.heap.size = pu.heap.size := by omega
      have nB : ¬ pu.heap.size = ku.heap.size := by omega
      go_wp2_with fail
      clear b0 b1 b2 b3 nA nB
      have F_28 := Lib.hid (Fr.trans F_26.out (Fr.alloc pu (.cells #[.int .i64 t.pc, .slice pR t.R.length pr, .slice pC t.C.length pc, .slice pM t.M.length pm] 26)))
      have HA_28 := Lib.hid (HA_26.out.fr (Fr.alloc pu (.cells #[.int .i64 t.pc, .slice pR t.R.length pr, .slice pC t.C.length pc, .slice pM t.M.length pm] 26)))
      have VW_28 := Lib.hid (VW_26.out.fr (Fr.alloc pu (.cells #[.int .i64 t.pc, .slice pR t.R.length pr, .slice pC t.C.length pc, .slice pM t.M.length pm] 26)))
      have HW_28 := Lib.hid (HW_26.out.fr (Fr.alloc pu (.cells #[.int .i64 t.pc, .slice pR t.R.length pr, .slice pC t.C.length pc, .slice pM t.M.length pm] 26)))
      have HG_28 := Lib.hid (HG_26.out.fr (Fr.alloc pu (.cells #[.int .i64 t.pc, .slice pR t.R.length pr, .slice pC t.C.length pc, .slice pM t.M.length pm] 26)))
      have KG_28 := Lib.hid (KG_26.out.fr (Fr.alloc pu (.cells #[.int .i64 t.pc, .slice pR t.R.length pr, .slice pC t.C.length pc, .slice pM t.M.length pm] 26)))
      have VP_28 := Lib.hid (VP_27.out.fr (Fr.alloc pu (.cells #[.int .i64 t.pc, .slice pR t.R.length pr, .slice pC t.C.length pc, .slice pM t.M.length pm] 26)))
      clear F_26 HA_26 VW_26 HW_26 HG_26 KG_26 VP_27
      have HP_29 := Lib.hid (Box4.new pu (.int .i64 t.pc) (.slice pR t.R.length pr) (.slice pC t.C.length pc) (.slice pM t.M.length pm) 26 _ rfl)
      have ps : pu.heap.size < (pu.alloc (.cells #[.int .i64 t.pc, .slice pR t.R.length pr, .slice pC t.C.length pc, .slice pM t.M.length pm] 26)).heap.size := by simp
      generalize (pu.alloc (.cells #[.int .i64 t.pc, .slice pR t.R.length pr, .slice pC t.C.length pc, .slice pM t.M.length pm] 26)) = pv at *
      refine (laws_eqPln_same _ _ _ t _ _ _ _ _ _ _ _ _ _ _ _ VP_28.out VW_28.out HT.out).mono ?_
      rintro e v9 ⟨rfl, v9f⟩
      have F_30 := Lib.hid (Fr.trans F_28.out v9f)
      have HA_30 := Lib.hid (HA_28.out.fr v9f)
      have VW_30 := Lib.hid (VW_28.out.fr v9f)
      have HW_30 := Lib.hid (HW_28.out.fr v9f)
      have HG_30 := Lib.hid (HG_28.out.fr v9f)
      have KG_30 := Lib.hid (KG_28.out.fr v9f)
      have VP_30 := Lib.hid (VP_28.out.fr v9f)
      have HP_30 := Lib.hid (HP_29.out.fr v9f)
      clear F_28 HA_28 VW_28 HW_28 HG_28 KG_28 VP_28 HP_29
      clear v9f
      obtain ⟨_, a0, a1, a2, a3, _, _, _, _⟩ := HG_30.out
      go_wp2_with fail
      refine (laws_heldPln _ t _ _ _ _ _ _ 1 _ KG_30.out HT.out (by omega) (by omega) _).mono ?_
      rintro e v10 ⟨rfl, v10f⟩
      clear a0 a1 a2 a3
      have F_31 := Lib.hid (Fr.trans F_30.out v10f)
      have HA_31 := Lib.hid (HA_30.out.fr v10f)
      have VW_31 := Lib.hid (VW_30.out.fr v10f)
      have HW_31 := Lib.hid (HW_30.out.fr v10f)
      have HG_31 := Lib.hid (HG_30.out.fr v10f)
      have KG_31 := Lib.hid (KG_30.out.fr v10f)
      have VP_31 := Lib.hid (VP_30.out.fr v10f)
      have HP_31 := Lib.hid (HP_30.out.fr v10f)
      clear F_30 HA_30 VW_30 HW_30 HG_30 KG_30 VP_30 HP_30
      clear v10f
      go_wp2_with fail
      go_ret
      exact ⟨rfl, F_31.out⟩
  · go_wp2_with fail
    go_ret
    exact ⟨rfl, HF0.out.trans f1⟩

set_option maxRecDepth 100000 in
theorem lifted (os : Os) (started : os.Started) (H : Type) (enc : TypeId × Value → H) :
    ReturnsInHanded {} Try.checked os 3 .any (Rows.fnExactPlnLaySpec.pre6 enc Try.prog Try.f3 Rows.fnExactPlnLayRow.domain false) (Rows.fnExactPlnLaySpec.post enc Try.prog Try.f3 false true false false) := by
  refine returnsInHanded_of_change (C := Try.checked) own started (by kernel_rfl) Try.func3
    (ChangeSpec.witness6 (enc := enc) (C := Try.checked) false ⟨#[], #[.agg #[.int .i64 0, .slice none 0 0, .slice none 0 0, .slice none 0 0], .int .i64 0, .int .i64 0], []⟩ 8 (by kernel_rfl) (by kernel_rfl) (by kernel_rfl) (by kernel_rfl)) ?_
  intro W base args ds gs before hval0 hW hcnd _
  have hval : ∀ (j : Nat) t v, Try.f3.params[j]? = some t → args[j]? = some v → Value.okWide Try.prog W .any base t v := hval0
  have hW' := hW
  obtain ⟨p, q, hA0, hV, rfl, hfz, hnd⟩ := hW
  have hA : DataW.TrodAll enc Try.prog W 0 (fun _ => true) true Try.f3.params.toList args.toList ds p := hA0
  rw [Try.params3] at hA hval
  obtain ⟨v0, vs0, d0, ds0, p0, q0, hargs, rfl, rfl, h0, r0⟩ := trodAll_cons hA
  obtain ⟨v1, vs1, d1, ds1, p1, q1, rfl, rfl, rfl, h1, r1⟩ := trodAll_cons r0
  obtain ⟨v2, vs2, d2, ds2, p2, q2, rfl, rfl, rfl, h2, r2⟩ := trodAll_cons r1
  obtain ⟨rfl, rfl, rfl⟩ := trodAll_nil r2
  obtain rfl : args = #[v0, v1, v2] := by cases args; simp_all
  obtain ⟨rfl, rfl⟩ := trodVars_none hV
  have k0 := h0
  have lt0 : ∀ x ∈ p0, x.block < W.heap.size := by obtain ⟨m, hm⟩ := k0; exact DataW.trod_lt m _ _ _ hm
  obtain ⟨s0, aR0, aC0, aM0, cR0, cC0, cM0, rfl, hs0, hb0⟩ := open_pln (hval 0 24 v0 rfl rfl) h0
  have k1 := h1
  have lt1 : ∀ x ∈ p1, x.block < W.heap.size := by obtain ⟨m, hm⟩ := k1; exact DataW.trod_lt m _ _ _ hm
  obtain ⟨x1, rfl, rfl, rfl, wf1⟩ := open_int Try.underlying3 (hval 1 3 v1 rfl rfl) h1
  have k2 := h2
  have lt2 : ∀ x ∈ p2, x.block < W.heap.size := by obtain ⟨m, hm⟩ := k2; exact DataW.trod_lt m _ _ _ hm
  obtain ⟨x2, rfl, rfl, rfl, wf2⟩ := open_int Try.underlying3 (hval 2 3 v2 rfl rfl) h2
  clear hA0 hval0
  refine (walk s0 aR0 aC0 aM0 cR0 cC0 cM0 x1 x2 W hs0 hb0 wf1 wf2).mono fun e W' ⟨he, bel⟩ => ?_
  subst he
  exact ⟨_, rfl, _, _, _, [], _, [], hW', trodAll_mk1 (shut_bool Try.underlying4 _), (trodAll_cons_mk (Below.trod laidOut (by kernel_rfl) (of_decide_eq_true (by kernel_rfl)) k0 bel lt0) (trodAll_cons_mk (Below.trod laidOut (by kernel_rfl) (of_decide_eq_true (by kernel_rfl)) k1 bel lt1) (trodAll_cons_mk (Below.trod laidOut (by kernel_rfl) (of_decide_eq_true (by kernel_rfl)) k2 bel lt2) trodAll_mk0))), rfl, bel.frame _, fun h => by cases h⟩

theorem over : Rows.fnExactPlnLayRow.holds Try.pinned (OpenSpec.ofChange Rows.fnExactPlnLaySpec) :=
  OpenClaim.holds_of_wide 3 Try.f3 rfl rfl rfl rfl rfl rfl rfl ⟨rfl, rfl, rfl, rfl, rfl⟩ rfl rfl rfl rfl rfl (by kernel_rfl) Try.func3 (by kernel_rfl)
    (of_decide_eq_true (by kernel_rfl)) (by unfold Func.isWrapper; first | (rw [if_pos (by decide +kernel)]; kernel_rfl) | (rw [if_neg (by decide +kernel)]; exact ⟨rfl, rfl⟩))
    (fun os started H enc _ => lifted os started H enc)

/-- THE STATEMENT. -/
theorem proved : Rows.FnExactPlnLaySaid := over
#print axioms proved
end Go.Proofs.Ytmkinbnopgfljaa.fnExactPlnLay
