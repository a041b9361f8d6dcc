/- For every two codes (any bytes), law FnPlnLay returns true and its arguments read as before (no condition). -/
import Derived.Test.YtmkinbnopgfljaaRows
import Derived.Test.YtmkinbnopgfljaaDrawInst
import Derived.Test.YtmkinbnopgfljaaPl7
import Derived.Test.YtmkinbnopgfljaaPk
import Derived.Test.YtmkinbnopgfljaaPres
import Derived.Test.YtmkinbnopgfljaaVo
import Derived.Test.YtmkinbnopgfljaaDrawPd
import Derived.Test.YtmkinbnopgfljaaRegion4
import Derived.WalkKit
import Derived.ProofKit
import Derived.OpenShut
import Derived.ShutString
import Derived.ChangeOld
import Derived.Below
namespace Go.Proofs.Ytmkinbnopgfljaa.fnPlnLay
open Go.ChangeShapes Go.WideShapes Go.ChangeAt Go.RowKit
set_option linter.unusedVariables false
set_option linter.unusedSimpArgs false

theorem own : ownKnob Try.prog.godebug = none := by kernel_rfl
theorem laidOut : laidOutB Try.prog = true := by kernel_rfl

def IsRow (k : IntKind) (w : World) (a : Option Addr) (len cap : Nat) (zs : List Int) : Prop :=
  (a = none ∧ len = 0 ∧ cap = 0 ∧ zs = []) ∨
  ∃ x, a = some x ∧ len ≤ cap ∧ cap ≤ maxLen ∧ zs.length = cap ∧ (∀ i, i < zs.length → w.cell? (x.add i) = some (.int k (zs.getD i 0))) ∧ ∀ n ∈ zs, (Lit.int k n).wf = true

set_option maxRecDepth 8000 in
set_option maxHeartbeats 8000000 in
theorem walk (a0 : Option Addr) (len0 cap0 : Nat) (z0 : List Int) (a1 : Option Addr) (len1 cap1 : Nat) (z1 : List Int) (w : World) (w0 : IsRow .u8 w a0 len0 cap0 z0) (w1 : IsRow .u8 w a1 len1 cap1 z1) :
    Calls Try.prog 6 #[.slice a0 len0 cap0, .slice a1 len1 cap1] w fun e w' => e = .returned (.bool true) ∧ Below w.heap.size w w' := by
  have hc0 : Code1 w.heap.size w a0 len0 cap0 := by
    rcases w0 with ⟨rfl, rfl, rfl, rfl⟩ | ⟨x, rfl, hl, hm, hz, hcell, hwz⟩
    · exact ⟨Nat.le_refl _, Nat.le_refl _, Nat.zero_le _, .inl rfl, fun _ => rfl⟩
    · exact ⟨Nat.le_refl _, hl, hm, bytes_of_row hl hz hcell hwz, fun h => by cases h⟩
  clear w0 z0
  have hc1 : Code1 w.heap.size w a1 len1 cap1 := by
    rcases w1 with ⟨rfl, rfl, rfl, rfl⟩ | ⟨x, rfl, hl, hm, hz, hcell, hwz⟩
    · exact ⟨Nat.le_refl _, Nat.le_refl _, Nat.zero_le _, .inl rfl, fun _ => rfl⟩
    · exact ⟨Nat.le_refl _, hl, hm, bytes_of_row hl hz hcell hwz, fun h => by cases h⟩
  clear w1 z1
  go_enter Try.func6, Try.ntmps6
  by_cases hl : len0 ≤ 1048576
  · have hl' : ¬ (1048576 : Int) < (len0 : Int) := by omega
    by_cases hlm : len1 ≤ 1048576
    · have hlm' : ¬ (1048576 : Int) < (len1 : Int) := by omega
      go_wp2_with fail
      refine (DrawPlnLay a0 len0 cap0 w hc0).mono ?_
      rintro e u1 ⟨s, aR, aC, aM, ar, ac, am, r, ⟨at0, n0, rfl⟩, hf, he, hS, f1⟩
      have he2 : e = .returned (.tuple #[.agg #[.int .i64 s.pc, .slice aR s.R.length ar, .slice aC s.C.length ac, .slice aM s.M.length am], .int .i64 at0, .int .i64 n0]) := he
      subst he2
      have F1 := Fr.trans f1 (Fr.alloc u1 (.cells #[.int .i64 s.pc, .slice aR s.R.length ar, .slice aC s.C.length ac, .slice aM s.M.length am] 26))
      have HS1 := Lib.hid (hS.fr (Fr.alloc u1 (.cells #[.int .i64 s.pc, .slice aR s.R.length ar, .slice aC s.C.length ac, .slice aM s.M.length am] 26)))
      have HF1 := Lib.hid F1
      have HX5a := Lib.hid (Box4.new u1 (.int .i64 s.pc) (.slice aR s.R.length ar) (.slice aC s.C.length ac) (.slice aM s.M.length am) 26 _ rfl)
      have HC1 := Lib.hid (Code1.up hc1 F1)
      have HFS := Lib.hid hf
      clear he hc0 hc1 hS f1 F1 hf
      go_wp2_with fail
      generalize (u1.alloc (.cells #[.int .i64 s.pc, .slice aR s.R.length ar, .slice aC s.C.length ac, .slice aM s.M.length am] 26)) = u2 at *
      generalize u1.heap.size = X5 at *
      refine (DrawPlnLay a1 len1 cap1 u2 HC1.out).mono ?_
      rintro e u3 ⟨s8, bR, bC, bM, br, bc, bm, r, ⟨o0, m0, rfl⟩, _, he, _, f3⟩
      have he2 : e = .returned (.tuple #[.agg #[.int .i64 s8.pc, .slice bR s8.R.length br, .slice bC s8.C.length bc, .slice bM s8.M.length bm], .int .i64 o0, .int .i64 m0]) := he
      subst he2
      have F3 := Fr.trans f3 (Fr.alloc u3 (.cells #[.int .i64 s8.pc, .slice bR s8.R.length br, .slice bC s8.C.length bc, .slice bM s8.M.length bm] 26))
      have HS2 := Lib.hid (HS1.out.fr F3)
      have HF2 := Lib.hid (Fr.trans HF1.out F3)
      have HX5b := Lib.hid (HX5a.out.fr F3)
      have hl5 := HX5b.out.lt
      clear he f3 F3 HC1 HS1 HF1 HX5a
      obtain ⟨_, x0, x1, x2, x3, _, _, _, _⟩ := HX5b.out
      go_wp2_with fail
      generalize (u3.alloc (.cells #[.int .i64 s8.pc, .slice bR s8.R.length br, .slice bC s8.C.length bc, .slice bM s8.M.length bm] 26)) = u4 at *
      refine (impl_PlnLay s aR aC aM ar ac am at0 n0 u4 HS2.out HFS.out.few).mono ?_
      rintro e u5 hb
      generalize htt : layD s at0 n0 = t
      obtain ⟨xR, xC, xM, xr, xc, xm, rfl, hV, _, f5⟩ := lay_res htt hb
      have F5 := Fr.trans f5 (Fr.alloc u5 (.cells #[.int .i64 t.pc, .slice xR t.R.length xr, .slice xC t.C.length xc, .slice xM t.M.length xm] 26))
      have HS := Lib.hid (HS2.out.fr F5)
      have HF := Lib.hid (Fr.trans HF2.out F5)
      have HX5 := Lib.hid (HX5b.out.fr F5)
      have HV := Lib.hid (hV.fr (Fr.alloc u5 (.cells #[.int .i64 t.pc, .slice xR t.R.length xr, .slice xC t.C.length xc, .slice xM t.M.length xm] 26)))
      have HX11 := Lib.hid (Box4.new u5 (.int .i64 t.pc) (.slice xR t.R.length xr) (.slice xC t.C.length xc) (.slice xM t.M.length xm) 26 _ rfl)
      have HT := Lib.hid htt
      have HFT := Lib.hid (show Few20 t by rw [← htt]; exact few_lay _ _ _ HFS.out)
      clear hb f5 F5 hV htt HS2 HF2 HX5b x0 x1 x2 x3 hl5
      go_wp2_with fail
      generalize (u5.alloc (.cells #[.int .i64 t.pc, .slice xR t.R.length xr, .slice xC t.C.length xc, .slice xM t.M.length xm] 26)) = u0 at *
      generalize u5.heap.size = X11 at *
      refine wp_region_lots 148 (fun i => []) (fun _ _ => True) (fun i v u => match i with | 0 => v = .agg #[.int .i64 t.pc, .slice xR t.R.length xr, .slice xC t.C.length xc, .slice xM t.M.length xm] | 1 => v = .agg #[.int .i64 s.pc, .slice aR s.R.length ar, .slice aC s.C.length ac, .slice aM s.M.length am] | 2 => v = .int .i64 at0 | 3 => v = .int .i64 n0 | 4 => MQ t v u | 5 => v = .bool true | _ => v = .bool false) ?mono (by kernel_rfl) (by kernel_rfl) rfl (by kernel_rfl) trivial ?step ?fin
      case mono =>
        intro i j v u u' hij hsz h hB
        rcases j with _ | _ | _ | _ | _ | _ | j
        · exact h
        · exact h
        · exact h
        · exact h
        · exact h.but hB
        · exact h
        · exact h
      case step =>
        intro i o ho
        rcases i with _ | _ | _ | _ | _ | _ | _ | i
        · cases ho
          intro fu act u hW hB hsz hL hdep
          replace hB := hB [] (fun j hj hd k hk => by
            cases hk)
          obtain ⟨ysl, ha, hy⟩ := hL.puts [37, 38, 39, 40, 41, 42, 43] (by kernel_rfl)
          clear hdep hL hy
          simp only [List.foldl, List.setIfInBounds_toArray, List.set_cons_succ, List.set_cons_zero] at ha
          subst ha
          obtain ⟨_, c0, c1, c2, c3, _, _, _, _⟩ := HX11.out.but hB (by simp)
          refine wpOp_step rfl (fun K hK => ?_)
          go_simp
          exact hK _ _ ⟨_, rfl, (fun h => by cases h), rfl, But.refl _ _, trivial⟩
        · cases ho
          intro fu act u hW hB hsz hL hdep
          replace hB := hB [] (fun j hj hd k hk => by
            cases hk)
          obtain ⟨ysl, ha, hy⟩ := hL.puts [37, 38, 39, 40, 41, 42, 43] (by kernel_rfl)
          clear hdep hL hy
          simp only [List.foldl, List.setIfInBounds_toArray, List.set_cons_succ, List.set_cons_zero] at ha
          subst ha
          obtain ⟨_, c0, c1, c2, c3, _, _, _, _⟩ := HX5.out.but hB (by simp)
          refine wpOp_step rfl (fun K hK => ?_)
          go_simp
          exact hK _ _ ⟨_, rfl, (fun h => by cases h), rfl, But.refl _ _, trivial⟩
        · cases ho
          intro fu act u hW hB hsz hL hdep
          replace hB := hB [] (fun j hj hd k hk => by
            cases hk)
          obtain ⟨ysl, ha, hy⟩ := hL.puts [37, 38, 39, 40, 41, 42, 43] (by kernel_rfl)
          clear hdep hL hy
          simp only [List.foldl, List.setIfInBounds_toArray, List.set_cons_succ, List.set_cons_zero] at ha
          subst ha
          refine wpOp_step rfl (fun K hK => ?_)
          go_simp
          exact hK _ _ ⟨_, rfl, (fun h => by cases h), rfl, But.refl _ _, trivial⟩
        · cases ho
          intro fu act u hW hB hsz hL hdep
          replace hB := hB [] (fun j hj hd k hk => by
            cases hk)
          obtain ⟨ysl, ha, hy⟩ := hL.puts [37, 38, 39, 40, 41, 42, 43] (by kernel_rfl)
          clear hdep hL hy
          simp only [List.foldl, List.setIfInBounds_toArray, List.set_cons_succ, List.set_cons_zero] at ha
          subst ha
          refine wpOp_step rfl (fun K hK => ?_)
          go_simp
          exact hK _ _ ⟨_, rfl, (fun h => by cases h), rfl, But.refl _ _, trivial⟩
        · cases ho
          intro fu act u hW hB hsz hL hdep
          replace hB := hB [] (fun j hj hd k hk => by
            cases hk)
          have d1 := hdep { on := 1, ground := .data } (by simp) rfl _ rfl
          have d2 := hdep { on := 2, ground := .data } (by simp) rfl _ rfl
          have d3 := hdep { on := 3, ground := .data } (by simp) rfl _ rfl
          obtain ⟨ysl, ha, hy⟩ := hL.puts [37, 38, 39, 40, 41, 42, 43] (by kernel_rfl)
          have e1 : ysl 38 = _ := (hy 38).symm.trans d1
          have e2 : ysl 39 = _ := (hy 39).symm.trans d2
          have e3 : ysl 40 = _ := (hy 40).symm.trans d3
          clear hdep hL hy d1 d2 d3
          simp only [List.foldl, List.setIfInBounds_toArray, List.set_cons_succ, List.set_cons_zero, e1, e2, e3] at ha
          subst ha
          clear e1 e2 e3
          refine wpOp_step rfl (fun K hK => ?_)
          go_simp
          refine (spec_PlnLay s aR aC aM ar ac am at0 n0 u (HS.out.fr (fr_but (L := []) (Below.refl u0.heap.size u0) hB (fun k hk => by cases hk))) HFS.out.few).mono ?_
          rintro e u' hb
          obtain ⟨qR, qC, qM, qr, qc, qm, rfl, hV2, _, f⟩ := lay_res HT.out hb
          go_simp
          exact hK _ _ ⟨_, rfl, (fun h => by cases h), ⟨_, qR, qC, qM, qr, qc, qm, rfl, hV2⟩, But.of f, trivial⟩
        · cases ho
          intro fu act u hW hB hsz hL hdep
          replace hB := hB [] (fun j hj hd k hk => by
            cases hk)
          have d0 := hdep { on := 0, ground := .data } (by simp) rfl _ rfl
          have d4 := hdep { on := 4, ground := .data } (by simp) rfl _ rfl
          obtain ⟨ysl, ha, hy⟩ := hL.puts [37, 38, 39, 40, 41, 42, 43] (by kernel_rfl)
          have e0 : ysl 37 = _ := (hy 37).symm.trans d0
          obtain ⟨B4, qR, qC, qM, qr, qc, qm, h4, V4⟩ := d4
          have e4 : ysl 41 = .agg #[.int .i64 t.pc, .slice qR t.R.length qr, .slice qC t.C.length qc, .slice qM t.M.length qm] := (hy 41).symm.trans h4
          clear hdep hL hy d0 h4
          simp only [List.foldl, List.setIfInBounds_toArray, List.set_cons_succ, List.set_cons_zero, e0, e4] at ha
          subst ha
          clear e0 e4
          refine wpOp_step rfl (fun K hK => ?_)
          go_simp
          refine (laws_haPln_same _ B4 u t _ _ _ _ _ _ _ _ _ _ _ _ (HV.out.fr (fr_but (L := []) (Below.refl u0.heap.size u0) hB (fun k hk => by cases hk))) V4 HFT.out).mono ?_
          rintro e u' ⟨rfl, f⟩
          go_simp
          exact hK _ _ ⟨_, rfl, (fun h => by cases h), rfl, But.of f, trivial⟩
        · cases ho
          intro fu act u hW hB hsz hL hdep
          replace hB := hB [] (fun j hj hd k hk => by
            cases hk)
          have d5 := hdep { on := 5, ground := .data } (by simp) rfl _ rfl
          obtain ⟨ysl, ha, hy⟩ := hL.puts [37, 38, 39, 40, 41, 42, 43] (by kernel_rfl)
          have e5 : ysl 42 = _ := (hy 42).symm.trans d5
          clear hdep hL hy d5
          simp only [List.foldl, List.setIfInBounds_toArray, List.set_cons_succ, List.set_cons_zero, e5] at ha
          subst ha
          clear e5
          refine wpOp_step rfl (fun K hK => ?_)
          go_simp
          exact hK _ _ ⟨_, rfl, (fun h => by cases h), by simp, But.refl _ _, trivial⟩
        · exact absurd ho (by simp)
      case fin =>
        intro act u hW hsz hB hL hsf
        replace hB := hB [] (fun j k hk => by
          cases hk)
        have d6 := hsf 6 _ rfl
        obtain ⟨ysl, ha, hy⟩ := hL.puts [37, 38, 39, 40, 41, 42, 43] (by kernel_rfl)
        have e6 : ysl 43 = _ := (hy 43).symm.trans d6
        clear hL hsf hy d6
        simp only [List.foldl, List.setIfInBounds_toArray, List.set_cons_succ, List.set_cons_zero, e6] at ha
        subst ha
        clear e6
        have fB : Fr u0 u := (fr_but (L := []) (Below.refl u0.heap.size u0) hB (fun k hk => by cases hk))
        have HS1 := Lib.hid (HS.out.fr fB)
        have HF1 := Lib.hid (Fr.trans HF.out fB)
        have HV1 := Lib.hid (HV.out.fr fB)
        have HX51 := Lib.hid (HX5.out.fr fB)
        have HX111 := Lib.hid (HX11.out.fr fB)
        clear hB hW hsz fB HS HF HV HX5 HX11
        cases hlb : layB s at0 n0
        · have hm0 : t.M.length = 0 := by rw [← HT.out, layD, if_neg (by simp [hlb])]; rfl
          rw [hm0] at HX111
          clear hm0
          obtain ⟨_, x0, x1, x2, x3, _, _, _, _⟩ := HX51.out
          go_wp2_with fail
          refine (spec_PlnOk s aR aC aM ar ac am u HS1.out HFS.out.few).mono ?_
          rintro e u2 ⟨rfl, f2⟩
          have HS2 := Lib.hid (HS1.out.fr f2)
          have HF2 := Lib.hid (Fr.trans HF1.out f2)
          have HV2 := Lib.hid (HV1.out.fr f2)
          have HX52 := Lib.hid (HX51.out.fr f2)
          have HX112 := Lib.hid (HX111.out.fr f2)
          clear f2 x0 x1 x2 x3 HS1 HF1 HV1 HX51 HX111
          obtain ⟨_, x0, x1, x2, x3, _, _, _, _⟩ := HX112.out
          cases hk : okS s
          · skip
            go_wp2_with (first | (go_at_call 22; refine (spec_WrdOk _ _).mono ?_; rintro e w' ⟨rfl, rfl⟩) | (go_at_call 17; refine (laws_haOk _).mono ?_; rintro e w' ⟨rfl, rfl⟩))
            go_ret
            exact ⟨rfl, HF2.out⟩
          · skip
            by_cases h0 : at0 < 0
            · go_wp2_with (first | (go_at_call 22; refine (spec_WrdOk _ _).mono ?_; rintro e w' ⟨rfl, rfl⟩) | (go_at_call 17; refine (laws_haOk _).mono ?_; rintro e w' ⟨rfl, rfl⟩))
              go_ret
              exact ⟨rfl, HF2.out⟩
            · by_cases h1 : 256 ≤ at0
              · go_wp2_with (first | (go_at_call 22; refine (spec_WrdOk _ _).mono ?_; rintro e w' ⟨rfl, rfl⟩) | (go_at_call 17; refine (laws_haOk _).mono ?_; rintro e w' ⟨rfl, rfl⟩))
                go_ret
                exact ⟨rfl, HF2.out⟩
              · cases hw : okB n0
                · go_wp2_with (first | (go_at_call 22; refine (spec_WrdOk _ _).mono ?_; rintro e w' ⟨rfl, rfl⟩) | (go_at_call 17; refine (laws_haOk _).mono ?_; rintro e w' ⟨rfl, rfl⟩))
                  go_ret
                  exact ⟨rfl, HF2.out⟩
                · exfalso
                  have : layB s at0 n0 = true := by simp [layB, hk, hw]; omega
                  rw [this] at hlb
                  cases hlb
        · have HL := Lib.hid hlb
          have ht0 : t = layS s at0 n0 := by rw [← HT.out, layD, if_pos hlb]
          have hlb2 := hlb
          simp only [layB, Bool.and_eq_true, decide_eq_true_eq] at hlb2
          obtain ⟨hk, ⟨a0', a1'⟩, hw⟩ := hlb2
          have HKS := Lib.hid ((okS_iff s).1 hk)
          have HTR := Lib.hid (show t.R = s.R by rw [ht0]; rfl)
          have HTC := Lib.hid (show t.C = s.C by rw [ht0]; rfl)
          have HTM := Lib.hid (show t.M = s.M.set at0.toNat n0 by rw [ht0]; rfl)
          have HTP := Lib.hid (show t.pc = s.pc by rw [ht0]; rfl)
          have HKT := Lib.hid (show OkS t by rw [ht0]; exact lay_ok hlb)
          have HT0 := Lib.hid ht0
          clear hlb ht0
          obtain ⟨_, x0, x1, x2, x3, _, _, _, _⟩ := HX51.out
          go_wp2_with fail
          refine (spec_PlnOk s aR aC aM ar ac am u HS1.out HFS.out.few).mono ?_
          rintro e u2 ⟨rfl, f2⟩
          have HS2 := Lib.hid (HS1.out.fr f2)
          have HF2 := Lib.hid (Fr.trans HF1.out f2)
          have HV2 := Lib.hid (HV1.out.fr f2)
          have HX52 := Lib.hid (HX51.out.fr f2)
          have HX112 := Lib.hid (HX111.out.fr f2)
          clear f2 x0 x1 x2 x3 HS1 HF1 HV1 HX51 HX111
          obtain ⟨_, x0, x1, x2, x3, _, _, _, _⟩ := HX112.out
          rw [hk]
          clear hk
          go_wp2_with (go_at_call 22; refine (spec_WrdOk _ _).mono ?_; rintro e w' ⟨rfl, rfl⟩)
          go_loopw [12] (fun k wr => ∃ p : Nat, p ≤ 256 ∧ k = .int .i64 p ∧ Fr u2 wr) (fun k _ => 256 - (intOf k).toNat)
          case atStart => exact ⟨0, by omega, rfl, Below.refl _ _⟩
          case round =>
            obtain ⟨p, hp, rfl, hFr⟩ := hrel
            clear x0 x1 x2 x3
            have HSB := Lib.hid (HS2.out.fr hFr)
            have HVB := Lib.hid (HV2.out.fr hFr)
            have HX5B := Lib.hid (HX52.out.fr hFr)
            have HX11B := Lib.hid (HX112.out.fr hFr)
            have HFB := Lib.hid (Fr.trans HF2.out hFr)
            have HFR := Lib.hid hFr
            clear hFr
            have e11 := HX11B.out.c3
            have e5 := HX5B.out.c3
            by_cases hpt : p < 256
            · obtain ⟨gm, hx, _, _, hcm, _⟩ := HVB.out.M.at0 (by rw [HKT.out.Ml]; omega)
              obtain ⟨gs, os, rfl, _, hcs⟩ := HSB.out.M (by rw [HKS.out.Ml]; omega)
              subst hx
              have d1 := hcm p (by rw [HKT.out.Ml]; omega)
              have d2 := hcs p (by rw [HKS.out.Ml]; omega)
              simp only [ivl, HTM.out, getD_set] at d1 d2
              have lm1 := HKT.out.Ml
              have lm2 := HKS.out.Ml
              rw [lm1] at e11
              rw [lm2] at e5 d1
              clear hcm hcs lm1 lm2
              by_cases hpa : at0 = (p : Int)
              · rw [if_pos ⟨by omega, by omega⟩] at d1
                have hb1 : ((p : Int) == at0) = true := by simp; omega
                have hb2 : ((p : Int) != at0) = false := by simp; omega
                have hb3 : (n0 != n0) = false := by simp
                clear hpa d2
                go_wp2_with fail
                go_quiet (fail)
                go_wp2_with fail
                go_roundw
                case rel => exact ⟨p + 1, by omega, by go_num, Fr.trans HFR.out (Below.drewN (Below.refl _ _) _)⟩
                case measure => simp [intOf]; omega
              · rw [if_neg (fun h => hpa (by omega))] at d1
                have hb1 : ((p : Int) == at0) = false := by simp; omega
                have hb2 : ((p : Int) != at0) = true := by simp; omega
                generalize s.M.getD p 0 = zz at d1 d2
                have hb3 : (zz != zz) = false := by simp
                clear hpa
                go_wp2_with fail
                go_quiet (fail)
                go_wp2_with fail
                go_roundw
                case rel => exact ⟨p + 1, by omega, by go_num, Fr.trans HFR.out (Below.drewN (Below.refl _ _) _)⟩
                case measure => simp [intOf]; omega
            · have hpt' : ¬ (p : Int) < 256 := by omega
              have q11 := HX11B.out.c1
              have q5 := HX5B.out.c1
              have r11 := HX11B.out.c0
              have r5 := HX5B.out.c0
              rw [HTP.out] at r11
              have hcond : (0 ≤ o0 ∧ o0 < 256 ∧ okB m0 = true ∧ o0 ≠ at0) ∨ ¬ (0 ≤ o0 ∧ o0 < 256 ∧ okB m0 = true ∧ o0 ≠ at0) := Classical.em _
              rcases hcond with ⟨o1, o2, o3, o4⟩ | hno
              · have hb1 : (o0 == at0) = false := by simp; omega
                have hz : layB s o0 m0 = true := by simp [layB, (okS_iff s).2 HKS.out, o1, o2, o3]
                have hy : layB t o0 m0 = true := by simp [layB, (okS_iff t).2 HKT.out, o1, o2, o3]
                obtain ⟨z, hzz⟩ : ∃ z, layD s o0 m0 = z := ⟨_, rfl⟩
                obtain ⟨y, hyy⟩ : ∃ y, layD t o0 m0 = y := ⟨_, rfl⟩
                have hz1 : z = layS s o0 m0 := by rw [← hzz, layD, if_pos hz]
                have hy1 : y = layS t o0 m0 := by rw [← hyy, layD, if_pos hy]
                have hzo : OkS z := by rw [hz1]; exact lay_ok hz
                have hyz : layB z at0 n0 = true := by simp [layB, (okS_iff z).2 hzo, a0', a1', hw]
                have HYZ := Lib.hid (show layD z at0 n0 = y by
                  rw [layD, if_pos hyz, hy1, hz1, HT0.out]
                  simp only [layS]
                  rw [List.set_comm _ _ (by omega)])
                have hc1 := HX11B.out
                rw [show t.C.length = s.C.length by rw [HTC.out]] at hc1
                have HX11C := Lib.hid hc1
                have HCX := Lib.hid (show Src wr s.C.length (ivl s.C) xC by have h := HVB.out.C.src; rw [HTC.out] at h; exact h)
                clear hc1
                have HY := Lib.hid hyy
                have HZ := Lib.hid hzz
                have HFZ := Lib.hid (ok_few20 hzo)
                have HFY := Lib.hid (show Few20 y by rw [← hyy]; exact few_lay _ _ _ HFT.out)
                clear hz hy hz1 hy1 hzo hyz hzz hyy o4 q11 q5 r11 r5 e11 e5
                go_wp2_with (go_at_call 22; refine (spec_WrdOk _ _).mono ?_; rintro e w' ⟨rfl, rfl⟩)
                refine wp_region_lots 148 (fun i => []) (fun _ _ => True) (fun i v u => match i with | 0 => v = .agg #[.int .i64 t.pc, .slice xR t.R.length xr, .slice xC t.C.length xc, .slice xM t.M.length xm] | 1 => v = .int .i64 o0 | 2 => v = .int .i64 m0 | 3 => MQ y v u | 4 => v = .agg #[.int .i64 s.pc, .slice aR s.R.length ar, .slice aC s.C.length ac, .slice aM s.M.length am] | 5 => v = .int .i64 o0 | 6 => v = .int .i64 m0 | 7 => MQ z v u | 8 => v = .int .i64 at0 | 9 => v = .int .i64 n0 | 10 => MQ y v u | 11 => v = .bool true | 12 => v = .bool true | 13 => v = .pointer (some ⟨X11, 2, none⟩) | 14 => v = .slice xC s.C.length xc | 15 => v = .pointer (some ⟨X5, 2, none⟩) | 16 => v = .slice aC s.C.length ac | 17 => v = .bool true | 18 => v = .bool true | _ => v = .bool true) ?mono (by kernel_rfl) (by kernel_rfl) rfl (by kernel_rfl) trivial ?step ?fin
                case mono =>
                  intro i j v u u' hij hsz h hB
                  rcases j with _ | _ | _ | _ | _ | _ | _ | _ | _ | _ | _ | _ | _ | _ | _ | _ | _ | _ | _ | j
                  · exact h
                  · exact h
                  · exact h
                  · exact h.but hB
                  · exact h
                  · exact h
                  · exact h
                  · exact h.but hB
                  · exact h
                  · exact h
                  · exact h.but hB
                  · exact h
                  · exact h
                  · exact h
                  · exact h
                  · exact h
                  · exact h
                  · exact h
                  · exact h
                  · exact h
                case step =>
                  intro i o ho
                  rcases i with _ | _ | _ | _ | _ | _ | _ | _ | _ | _ | _ | _ | _ | _ | _ | _ | _ | _ | _ | _ | i
                  · cases ho
                    intro fu act u hW hB hsz hL hdep
                    replace hB := hB [] (fun j hj hd k hk => by
                      cases hk)
                    obtain ⟨ysl, ha, hy⟩ := hL.puts [129, 130, 131, 132, 133, 134, 135, 136, 137, 138, 139, 140, 141, 142, 143, 144, 145, 146, 147, 4] (by kernel_rfl)
                    clear hdep hL hy
                    simp only [List.foldl, List.setIfInBounds_toArray, List.set_cons_succ, List.set_cons_zero] at ha
                    subst ha
                    obtain ⟨_, c0, c1, c2, c3, _, _, _, _⟩ := HX11B.out.but hB (by simp)
                    refine wpOp_step rfl (fun K hK => ?_)
                    go_simp
                    exact hK _ _ ⟨_, rfl, (fun h => by cases h), rfl, But.refl _ _, trivial⟩
                  · cases ho
                    intro fu act u hW hB hsz hL hdep
                    replace hB := hB [] (fun j hj hd k hk => by
                      cases hk)
                    obtain ⟨ysl, ha, hy⟩ := hL.puts [129, 130, 131, 132, 133, 134, 135, 136, 137, 138, 139, 140, 141, 142, 143, 144, 145, 146, 147, 4] (by kernel_rfl)
                    clear hdep hL hy
                    simp only [List.foldl, List.setIfInBounds_toArray, List.set_cons_succ, List.set_cons_zero] at ha
                    subst ha
                    refine wpOp_step rfl (fun K hK => ?_)
                    go_simp
                    exact hK _ _ ⟨_, rfl, (fun h => by cases h), rfl, But.refl _ _, trivial⟩
                  · cases ho
                    intro fu act u hW hB hsz hL hdep
                    replace hB := hB [] (fun j hj hd k hk => by
                      cases hk)
                    obtain ⟨ysl, ha, hy⟩ := hL.puts [129, 130, 131, 132, 133, 134, 135, 136, 137, 138, 139, 140, 141, 142, 143, 144, 145, 146, 147, 4] (by kernel_rfl)
                    clear hdep hL hy
                    simp only [List.foldl, List.setIfInBounds_toArray, List.set_cons_succ, List.set_cons_zero] at ha
                    subst ha
                    refine wpOp_step rfl (fun K hK => ?_)
                    go_simp
                    exact hK _ _ ⟨_, rfl, (fun h => by cases h), rfl, But.refl _ _, trivial⟩
                  · cases ho
                    intro fu act u hW hB hsz hL hdep
                    replace hB := hB [] (fun j hj hd k hk => by
                      cases hk)
                    have d0 := hdep { on := 0, ground := .data } (by simp) rfl _ rfl
                    have d1 := hdep { on := 1, ground := .data } (by simp) rfl _ rfl
                    have d2 := hdep { on := 2, ground := .data } (by simp) rfl _ rfl
                    obtain ⟨ysl, ha, hy⟩ := hL.puts [129, 130, 131, 132, 133, 134, 135, 136, 137, 138, 139, 140, 141, 142, 143, 144, 145, 146, 147, 4] (by kernel_rfl)
                    have e0 : ysl 129 = _ := (hy 129).symm.trans d0
                    have e1 : ysl 130 = _ := (hy 130).symm.trans d1
                    have e2 : ysl 131 = _ := (hy 131).symm.trans d2
                    clear hdep hL hy d0 d1 d2
                    simp only [List.foldl, List.setIfInBounds_toArray, List.set_cons_succ, List.set_cons_zero, e0, e1, e2] at ha
                    subst ha
                    clear e0 e1 e2
                    refine wpOp_step rfl (fun K hK => ?_)
                    go_simp
                    refine (impl_PlnLay t xR xC xM xr xc xm o0 m0 u (HVB.out.src.fr (fr_but (L := []) (Below.refl wr.heap.size wr) hB (fun k hk => by cases hk))) HFT.out.few).mono ?_
                    rintro e u' hb
                    obtain ⟨pR, pC, pM, pr, pc, pm, rfl, hV2, _, f⟩ := lay_res HY.out hb
                    go_simp
                    exact hK _ _ ⟨_, rfl, (fun h => by cases h), ⟨_, pR, pC, pM, pr, pc, pm, rfl, hV2⟩, But.of f, trivial⟩
                  · cases ho
                    intro fu act u hW hB hsz hL hdep
                    replace hB := hB [] (fun j hj hd k hk => by
                      cases hk)
                    obtain ⟨ysl, ha, hy⟩ := hL.puts [129, 130, 131, 132, 133, 134, 135, 136, 137, 138, 139, 140, 141, 142, 143, 144, 145, 146, 147, 4] (by kernel_rfl)
                    clear hdep hL hy
                    simp only [List.foldl, List.setIfInBounds_toArray, List.set_cons_succ, List.set_cons_zero] at ha
                    subst ha
                    obtain ⟨_, c0, c1, c2, c3, _, _, _, _⟩ := HX5B.out.but hB (by simp)
                    refine wpOp_step rfl (fun K hK => ?_)
                    go_simp
                    exact hK _ _ ⟨_, rfl, (fun h => by cases h), rfl, But.refl _ _, trivial⟩
                  · cases ho
                    intro fu act u hW hB hsz hL hdep
                    replace hB := hB [] (fun j hj hd k hk => by
                      cases hk)
                    obtain ⟨ysl, ha, hy⟩ := hL.puts [129, 130, 131, 132, 133, 134, 135, 136, 137, 138, 139, 140, 141, 142, 143, 144, 145, 146, 147, 4] (by kernel_rfl)
                    clear hdep hL hy
                    simp only [List.foldl, List.setIfInBounds_toArray, List.set_cons_succ, List.set_cons_zero] at ha
                    subst ha
                    refine wpOp_step rfl (fun K hK => ?_)
                    go_simp
                    exact hK _ _ ⟨_, rfl, (fun h => by cases h), rfl, But.refl _ _, trivial⟩
                  · cases ho
                    intro fu act u hW hB hsz hL hdep
                    replace hB := hB [] (fun j hj hd k hk => by
                      cases hk)
                    obtain ⟨ysl, ha, hy⟩ := hL.puts [129, 130, 131, 132, 133, 134, 135, 136, 137, 138, 139, 140, 141, 142, 143, 144, 145, 146, 147, 4] (by kernel_rfl)
                    clear hdep hL hy
                    simp only [List.foldl, List.setIfInBounds_toArray, List.set_cons_succ, List.set_cons_zero] at ha
                    subst ha
                    refine wpOp_step rfl (fun K hK => ?_)
                    go_simp
                    exact hK _ _ ⟨_, rfl, (fun h => by cases h), rfl, But.refl _ _, trivial⟩
                  · cases ho
                    intro fu act u hW hB hsz hL hdep
                    replace hB := hB [] (fun j hj hd k hk => by
                      cases hk)
                    have d4 := hdep { on := 4, ground := .data } (by simp) rfl _ rfl
                    have d5 := hdep { on := 5, ground := .data } (by simp) rfl _ rfl
                    have d6 := hdep { on := 6, ground := .data } (by simp) rfl _ rfl
                    obtain ⟨ysl, ha, hy⟩ := hL.puts [129, 130, 131, 132, 133, 134, 135, 136, 137, 138, 139, 140, 141, 142, 143, 144, 145, 146, 147, 4] (by kernel_rfl)
                    have e4 : ysl 133 = _ := (hy 133).symm.trans d4
                    have e5 : ysl 134 = _ := (hy 134).symm.trans d5
                    have e6 : ysl 135 = _ := (hy 135).symm.trans d6
                    clear hdep hL hy d4 d5 d6
                    simp only [List.foldl, List.setIfInBounds_toArray, List.set_cons_succ, List.set_cons_zero, e4, e5, e6] at ha
                    subst ha
                    clear e4 e5 e6
                    refine wpOp_step rfl (fun K hK => ?_)
                    go_simp
                    refine (impl_PlnLay s aR aC aM ar ac am o0 m0 u (HSB.out.fr (fr_but (L := []) (Below.refl wr.heap.size wr) hB (fun k hk => by cases hk))) HFS.out.few).mono ?_
                    rintro e u' hb
                    obtain ⟨qR, qC, qM, qr, qc, qm, rfl, hV2, _, f⟩ := lay_res HZ.out hb
                    go_simp
                    exact hK _ _ ⟨_, rfl, (fun h => by cases h), ⟨_, qR, qC, qM, qr, qc, qm, rfl, hV2⟩, But.of f, trivial⟩
                  · cases ho
                    intro fu act u hW hB hsz hL hdep
                    replace hB := hB [] (fun j hj hd k hk => by
                      cases hk)
                    obtain ⟨ysl, ha, hy⟩ := hL.puts [129, 130, 131, 132, 133, 134, 135, 136, 137, 138, 139, 140, 141, 142, 143, 144, 145, 146, 147, 4] (by kernel_rfl)
                    clear hdep hL hy
                    simp only [List.foldl, List.setIfInBounds_toArray, List.set_cons_succ, List.set_cons_zero] at ha
                    subst ha
                    refine wpOp_step rfl (fun K hK => ?_)
                    go_simp
                    exact hK _ _ ⟨_, rfl, (fun h => by cases h), rfl, But.refl _ _, trivial⟩
                  · cases ho
                    intro fu act u hW hB hsz hL hdep
                    replace hB := hB [] (fun j hj hd k hk => by
                      cases hk)
                    obtain ⟨ysl, ha, hy⟩ := hL.puts [129, 130, 131, 132, 133, 134, 135, 136, 137, 138, 139, 140, 141, 142, 143, 144, 145, 146, 147, 4] (by kernel_rfl)
                    clear hdep hL hy
                    simp only [List.foldl, List.setIfInBounds_toArray, List.set_cons_succ, List.set_cons_zero] at ha
                    subst ha
                    refine wpOp_step rfl (fun K hK => ?_)
                    go_simp
                    exact hK _ _ ⟨_, rfl, (fun h => by cases h), rfl, But.refl _ _, trivial⟩
                  · cases ho
                    intro fu act u hW hB hsz hL hdep
                    replace hB := hB [] (fun j hj hd k hk => by
                      cases hk)
                    have d7 := hdep { on := 7, ground := .data } (by simp) rfl _ rfl
                    have d8 := hdep { on := 8, ground := .data } (by simp) rfl _ rfl
                    have d9 := hdep { on := 9, ground := .data } (by simp) rfl _ rfl
                    obtain ⟨ysl, ha, hy⟩ := hL.puts [129, 130, 131, 132, 133, 134, 135, 136, 137, 138, 139, 140, 141, 142, 143, 144, 145, 146, 147, 4] (by kernel_rfl)
                    obtain ⟨B7, qR, qC, qM, qr, qc, qm, h7, V7⟩ := d7
                    have e7 : ysl 136 = .agg #[.int .i64 z.pc, .slice qR z.R.length qr, .slice qC z.C.length qc, .slice qM z.M.length qm] := (hy 136).symm.trans h7
                    have e8 : ysl 137 = _ := (hy 137).symm.trans d8
                    have e9 : ysl 138 = _ := (hy 138).symm.trans d9
                    clear hdep hL hy d8 d9 h7
                    simp only [List.foldl, List.setIfInBounds_toArray, List.set_cons_succ, List.set_cons_zero, e7, e8, e9] at ha
                    subst ha
                    clear e7 e8 e9
                    refine wpOp_step rfl (fun K hK => ?_)
                    go_simp
                    refine (impl_PlnLay z qR qC qM qr qc qm at0 n0 u V7.src HFZ.out.few).mono ?_
                    rintro e u' hb
                    obtain ⟨rR, rC, rM, rr, rc, rm, rfl, hV2, _, f⟩ := lay_res HYZ.out hb
                    go_simp
                    exact hK _ _ ⟨_, rfl, (fun h => by cases h), ⟨_, rR, rC, rM, rr, rc, rm, rfl, hV2⟩, But.of f, trivial⟩
                  · cases ho
                    intro fu act u hW hB hsz hL hdep
                    replace hB := hB [] (fun j hj hd k hk => by
                      cases hk)
                    have d3 := hdep { on := 3, ground := .data } (by simp) rfl _ rfl
                    have d10 := hdep { on := 10, ground := .data } (by simp) rfl _ rfl
                    obtain ⟨ysl, ha, hy⟩ := hL.puts [129, 130, 131, 132, 133, 134, 135, 136, 137, 138, 139, 140, 141, 142, 143, 144, 145, 146, 147, 4] (by kernel_rfl)
                    obtain ⟨B3, pR, pC, pM, pr, pc, pm, h3, V3⟩ := d3
                    have e3 : ysl 132 = .agg #[.int .i64 y.pc, .slice pR y.R.length pr, .slice pC y.C.length pc, .slice pM y.M.length pm] := (hy 132).symm.trans h3
                    obtain ⟨B10, rR, rC, rM, rr, rc, rm, h10, V10⟩ := d10
                    have e10 : ysl 139 = .agg #[.int .i64 y.pc, .slice rR y.R.length rr, .slice rC y.C.length rc, .slice rM y.M.length rm] := (hy 139).symm.trans h10
                    clear hdep hL hy h3 h10
                    simp only [List.foldl, List.setIfInBounds_toArray, List.set_cons_succ, List.set_cons_zero, e3, e10] at ha
                    subst ha
                    clear e3 e10
                    refine wpOp_step rfl (fun K hK => ?_)
                    go_simp
                    refine (laws_haPln_same B3 B10 u y _ _ _ _ _ _ _ _ _ _ _ _ V3 V10 HFY.out).mono ?_
                    rintro e u' ⟨rfl, f⟩
                    go_simp
                    exact hK _ _ ⟨_, rfl, (fun h => by cases h), rfl, But.of f, trivial⟩
                  · cases ho
                    intro fu act u hW hB hsz hL hdep
                    replace hB := hB [] (fun j hj hd k hk => by
                      cases hk)
                    have d11 := hdep { on := 11, ground := .data } (by simp) rfl _ rfl
                    obtain ⟨ysl, ha, hy⟩ := hL.puts [129, 130, 131, 132, 133, 134, 135, 136, 137, 138, 139, 140, 141, 142, 143, 144, 145, 146, 147, 4] (by kernel_rfl)
                    have e11 : ysl 140 = _ := (hy 140).symm.trans d11
                    clear hdep hL hy d11
                    simp only [List.foldl, List.setIfInBounds_toArray, List.set_cons_succ, List.set_cons_zero, e11] at ha
                    subst ha
                    clear e11
                    refine wpOp_step rfl (fun K hK => ?_)
                    go_simp
                    exact hK _ _ ⟨_, rfl, (fun h => by cases h), rfl, But.refl _ _, trivial⟩
                  · cases ho
                    intro fu act u hW hB hsz hL hdep
                    replace hB := hB [] (fun j hj hd k hk => by
                      cases hk)
                    have d12 := hdep { on := 12, ground := .guard } (by simp) rfl _ rfl
                    obtain ⟨ysl, ha, hy⟩ := hL.puts [129, 130, 131, 132, 133, 134, 135, 136, 137, 138, 139, 140, 141, 142, 143, 144, 145, 146, 147, 4] (by kernel_rfl)
                    have e12 : ysl 141 = _ := (hy 141).symm.trans d12
                    clear hdep hL hy d12
                    simp only [List.foldl, List.setIfInBounds_toArray, List.set_cons_succ, List.set_cons_zero, e12] at ha
                    subst ha
                    clear e12
                    refine wpOp_step rfl (fun K hK => ?_)
                    go_simp
                    exact hK _ _ ⟨_, rfl, (fun h => by cases h), rfl, But.refl _ _, trivial⟩
                  · cases ho
                    intro fu act u hW hB hsz hL hdep
                    replace hB := hB [] (fun j hj hd k hk => by
                      cases hk)
                    have d12 := hdep { on := 12, ground := .guard } (by simp) rfl _ rfl
                    have d13 := hdep { on := 13, ground := .data } (by simp) rfl _ rfl
                    obtain ⟨ysl, ha, hy⟩ := hL.puts [129, 130, 131, 132, 133, 134, 135, 136, 137, 138, 139, 140, 141, 142, 143, 144, 145, 146, 147, 4] (by kernel_rfl)
                    have e12 : ysl 141 = _ := (hy 141).symm.trans d12
                    have e13 : ysl 142 = _ := (hy 142).symm.trans d13
                    clear hdep hL hy d12 d13
                    simp only [List.foldl, List.setIfInBounds_toArray, List.set_cons_succ, List.set_cons_zero, e12, e13] at ha
                    subst ha
                    clear e12 e13
                    obtain ⟨_, c0, c1, c2, c3, _, _, _, _⟩ := HX11C.out.but hB (by simp)
                    refine wpOp_step rfl (fun K hK => ?_)
                    go_simp
                    exact hK _ _ ⟨_, rfl, (fun h => by cases h), rfl, But.refl _ _, trivial⟩
                  · cases ho
                    intro fu act u hW hB hsz hL hdep
                    replace hB := hB [] (fun j hj hd k hk => by
                      cases hk)
                    have d12 := hdep { on := 12, ground := .guard } (by simp) rfl _ rfl
                    obtain ⟨ysl, ha, hy⟩ := hL.puts [129, 130, 131, 132, 133, 134, 135, 136, 137, 138, 139, 140, 141, 142, 143, 144, 145, 146, 147, 4] (by kernel_rfl)
                    have e12 : ysl 141 = _ := (hy 141).symm.trans d12
                    clear hdep hL hy d12
                    simp only [List.foldl, List.setIfInBounds_toArray, List.set_cons_succ, List.set_cons_zero, e12] at ha
                    subst ha
                    clear e12
                    refine wpOp_step rfl (fun K hK => ?_)
                    go_simp
                    exact hK _ _ ⟨_, rfl, (fun h => by cases h), rfl, But.refl _ _, trivial⟩
                  · cases ho
                    intro fu act u hW hB hsz hL hdep
                    replace hB := hB [] (fun j hj hd k hk => by
                      cases hk)
                    have d12 := hdep { on := 12, ground := .guard } (by simp) rfl _ rfl
                    have d15 := hdep { on := 15, ground := .data } (by simp) rfl _ rfl
                    obtain ⟨ysl, ha, hy⟩ := hL.puts [129, 130, 131, 132, 133, 134, 135, 136, 137, 138, 139, 140, 141, 142, 143, 144, 145, 146, 147, 4] (by kernel_rfl)
                    have e12 : ysl 141 = _ := (hy 141).symm.trans d12
                    have e15 : ysl 144 = _ := (hy 144).symm.trans d15
                    clear hdep hL hy d12 d15
                    simp only [List.foldl, List.setIfInBounds_toArray, List.set_cons_succ, List.set_cons_zero, e12, e15] at ha
                    subst ha
                    clear e12 e15
                    obtain ⟨_, c0, c1, c2, c3, _, _, _, _⟩ := HX5B.out.but hB (by simp)
                    refine wpOp_step rfl (fun K hK => ?_)
                    go_simp
                    exact hK _ _ ⟨_, rfl, (fun h => by cases h), rfl, But.refl _ _, trivial⟩
                  · cases ho
                    intro fu act u hW hB hsz hL hdep
                    replace hB := hB [] (fun j hj hd k hk => by
                      cases hk)
                    have d12 := hdep { on := 12, ground := .chain } (by simp) rfl _ rfl
                    have d14 := hdep { on := 14, ground := .data } (by simp) rfl _ rfl
                    have d16 := hdep { on := 16, ground := .data } (by simp) rfl _ rfl
                    obtain ⟨ysl, ha, hy⟩ := hL.puts [129, 130, 131, 132, 133, 134, 135, 136, 137, 138, 139, 140, 141, 142, 143, 144, 145, 146, 147, 4] (by kernel_rfl)
                    have e12 : ysl 141 = _ := (hy 141).symm.trans d12
                    have e14 : ysl 143 = _ := (hy 143).symm.trans d14
                    have e16 : ysl 145 = _ := (hy 145).symm.trans d16
                    clear hdep hL hy d12 d14 d16
                    simp only [List.foldl, List.setIfInBounds_toArray, List.set_cons_succ, List.set_cons_zero, e12, e14, e16] at ha
                    subst ha
                    clear e12 e14 e16
                    refine wpOp_step rfl (fun K hK => ?_)
                    go_simp
                    refine (laws_haIntso u s.C.length (fun i => s.C.getD i 0) _ _ _ _ (HCX.out.fr (fr_but (L := []) (Below.refl wr.heap.size wr) hB (fun k hk => by cases hk))) (HSB.out.C.fr (fr_but (L := []) (Below.refl wr.heap.size wr) hB (fun k hk => by cases hk))) HFS.out.C).mono ?_
                    rintro e u' ⟨rfl, n', hn'⟩
                    go_simp
                    exact hK _ _ ⟨_, rfl, (fun h => by cases h), rfl, by rw [← hn']; exact (But.refl _ _).drewN _, trivial⟩
                  · cases ho
                    intro fu act u hW hB hsz hL hdep
                    replace hB := hB [] (fun j hj hd k hk => by
                      cases hk)
                    have d12 := hdep { on := 12, ground := .data } (by simp) rfl _ rfl
                    have d17 := hdep { on := 17, ground := .data } (by simp) rfl _ rfl
                    obtain ⟨ysl, ha, hy⟩ := hL.puts [129, 130, 131, 132, 133, 134, 135, 136, 137, 138, 139, 140, 141, 142, 143, 144, 145, 146, 147, 4] (by kernel_rfl)
                    have e12 : ysl 141 = _ := (hy 141).symm.trans d12
                    have e17 : ysl 146 = _ := (hy 146).symm.trans d17
                    clear hdep hL hy d12 d17
                    simp only [List.foldl, List.setIfInBounds_toArray, List.set_cons_succ, List.set_cons_zero, e12, e17] at ha
                    subst ha
                    clear e12 e17
                    refine wpOp_step rfl (fun K hK => ?_)
                    go_simp
                    exact hK _ _ ⟨_, rfl, (fun h => by cases h), rfl, But.refl _ _, trivial⟩
                  · cases ho
                    intro fu act u hW hB hsz hL hdep
                    replace hB := hB [] (fun j hj hd k hk => by
                      cases hk)
                    have d18 := hdep { on := 18, ground := .data } (by simp) rfl _ rfl
                    obtain ⟨ysl, ha, hy⟩ := hL.puts [129, 130, 131, 132, 133, 134, 135, 136, 137, 138, 139, 140, 141, 142, 143, 144, 145, 146, 147, 4] (by kernel_rfl)
                    have e18 : ysl 147 = _ := (hy 147).symm.trans d18
                    clear hdep hL hy d18
                    simp only [List.foldl, List.setIfInBounds_toArray, List.set_cons_succ, List.set_cons_zero, e18] at ha
                    subst ha
                    clear e18
                    refine wpOp_step rfl (fun K hK => ?_)
                    go_simp
                    exact hK _ _ ⟨_, rfl, (fun h => by cases h), rfl, But.refl _ _, trivial⟩
                  · exact absurd ho (by simp)
                case fin =>
                  intro act u hW hsz hB hL hsf
                  replace hB := hB [] (fun j k hk => by
                    cases hk)
                  have d19 := hsf 19 _ rfl
                  obtain ⟨ysl, ha, hy⟩ := hL.puts [129, 130, 131, 132, 133, 134, 135, 136, 137, 138, 139, 140, 141, 142, 143, 144, 145, 146, 147, 4] (by kernel_rfl)
                  have e19 : ysl 4 = _ := (hy 4).symm.trans d19
                  clear hL hsf hy d19
                  simp only [List.foldl, List.setIfInBounds_toArray, List.set_cons_succ, List.set_cons_zero, e19] at ha
                  subst ha
                  clear e19
                  have fB : Fr wr u := (fr_but (L := []) (Below.refl wr.heap.size wr) hB (fun k hk => by cases hk))
                  go_wp2
                  go_ret
                  exact ⟨rfl, Fr.trans HFB.out fB⟩
              · obtain ⟨hb, hbv⟩ : ∃ b : Bool, b = true := ⟨true, rfl⟩
                clear e11 e5
                have E := laws_haIntso wr t.R.length (fun i => t.R.getD i 0) xR aR xr ar HVB.out.R.src (by rw [HTR.out]; exact HSB.out.R) HFT.out.R
                rw [HKT.out.Rl] at E q11
                rw [HKS.out.Rl] at q5
                have HE := Lib.hid E
                clear E
                by_cases o1 : 0 ≤ o0
                · by_cases o2 : o0 < 256
                  · cases o3 : okB m0
                    · go_wp2_with (first | (go_at_call 22; refine (spec_WrdOk _ _).mono ?_; rintro e w' ⟨rfl, rfl⟩) | (go_at_call 23; refine HE.out.mono ?_; rintro e w' ⟨rfl, n', hn'⟩))
                      go_ret
                      exact ⟨rfl, Fr.trans HFB.out (by rw [← hn']; exact Below.drewN (Below.refl _ _) _)⟩
                    · have o4 : o0 = at0 := Classical.byContradiction fun h => hno ⟨o1, o2, o3, h⟩
                      subst o4
                      have hb1 : (o0 == o0) = true := by simp
                      go_wp2_with (first | (go_at_call 22; refine (spec_WrdOk _ _).mono ?_; rintro e w' ⟨rfl, rfl⟩) | (go_at_call 23; refine HE.out.mono ?_; rintro e w' ⟨rfl, n', hn'⟩))
                      go_ret
                      exact ⟨rfl, Fr.trans HFB.out (by rw [← hn']; exact Below.drewN (Below.refl _ _) _)⟩
                  · go_wp2_with (first | (go_at_call 22; refine (spec_WrdOk _ _).mono ?_; rintro e w' ⟨rfl, rfl⟩) | (go_at_call 23; refine HE.out.mono ?_; rintro e w' ⟨rfl, n', hn'⟩))
                    go_ret
                    exact ⟨rfl, Fr.trans HFB.out (by rw [← hn']; exact Below.drewN (Below.refl _ _) _)⟩
                · go_wp2_with (first | (go_at_call 22; refine (spec_WrdOk _ _).mono ?_; rintro e w' ⟨rfl, rfl⟩) | (go_at_call 23; refine HE.out.mono ?_; rintro e w' ⟨rfl, n', hn'⟩))
                  go_ret
                  exact ⟨rfl, Fr.trans HFB.out (by rw [← hn']; exact Below.drewN (Below.refl _ _) _)⟩
    · go_wp2
      go_ret
      exact ⟨rfl, Below.refl _ _⟩
  · go_wp2
    go_ret
    exact ⟨rfl, Below.refl _ _⟩

set_option maxRecDepth 100000 in
theorem lifted (os : Os) (started : os.Started) (H : Type) (enc : TypeId × Value → H) :
    ReturnsInHanded {} Try.checked os 6 .any (Rows.fnPlnLaySpec.pre6 enc Try.prog Try.f6 Rows.fnPlnLayRow.domain false) (Rows.fnPlnLaySpec.post enc Try.prog Try.f6 false true false false) := by
  refine returnsInHanded_of_change (C := Try.checked) own started (by kernel_rfl) Try.func6
    (ChangeSpec.witness6 (enc := enc) (C := Try.checked) false ⟨#[], #[.slice none 0 0, .slice none 0 0], []⟩ 8 (by kernel_rfl) (by kernel_rfl) (by kernel_rfl) (by kernel_rfl)) ?_
  intro W base args ds gs before hval0 hW hcnd _
  have hval : ∀ (j : Nat) t v, Try.f6.params[j]? = some t → args[j]? = some v → Value.okWide Try.prog W .any base t v := hval0
  have hW' := hW
  obtain ⟨p, q, hA0, hV, rfl, hfz, hnd⟩ := hW
  have hA : DataW.TrodAll enc Try.prog W 0 (fun _ => true) true Try.f6.params.toList args.toList ds p := hA0
  rw [Try.params6] at hA hval
  obtain ⟨v0, vs0, d0, ds0, p0, q0, hargs, rfl, rfl, h0, r0⟩ := trodAll_cons hA
  obtain ⟨v1, vs1, d1, ds1, p1, q1, rfl, rfl, rfl, h1, r1⟩ := trodAll_cons r0
  obtain ⟨rfl, rfl, rfl⟩ := trodAll_nil r1
  obtain rfl : args = #[v0, v1] := by cases args; simp_all
  obtain ⟨rfl, rfl⟩ := trodVars_none hV
  obtain ⟨a0, len0, cap0, rfl⟩ := okWide_slice Try.underlying32 (hval 0 32 v0 rfl rfl)
  have k0 := h0
  have lt0 : ∀ x ∈ p0, x.block < W.heap.size := by obtain ⟨m, hm⟩ := k0; exact DataW.trod_lt m _ _ _ hm
  obtain ⟨z0, w0⟩ : ∃ zs, IsRow .u8 W a0 len0 cap0 zs := by
    obtain ⟨fuel, hf⟩ := h0
    rcases open_ints Try.underlying32 Try.underlying5 (by kernel_rfl) hf with ⟨hcs, _⟩ | ⟨x, l, c, zs, hcs, _, hl, hm, hz, _, hcell, hwz⟩
    · simp [Value.cells] at hcs
      obtain ⟨rfl, rfl, rfl⟩ := hcs
      exact ⟨[], .inl ⟨rfl, rfl, rfl, rfl⟩⟩
    · simp [Value.cells] at hcs
      obtain ⟨rfl, rfl, rfl⟩ := hcs
      exact ⟨zs, .inr ⟨_, rfl, hl, hm, by simpa using hz, hcell, hwz⟩⟩
  obtain ⟨a1, len1, cap1, rfl⟩ := okWide_slice Try.underlying32 (hval 1 32 v1 rfl rfl)
  have k1 := h1
  have lt1 : ∀ x ∈ p1, x.block < W.heap.size := by obtain ⟨m, hm⟩ := k1; exact DataW.trod_lt m _ _ _ hm
  obtain ⟨z1, w1⟩ : ∃ zs, IsRow .u8 W a1 len1 cap1 zs := by
    obtain ⟨fuel, hf⟩ := h1
    rcases open_ints Try.underlying32 Try.underlying5 (by kernel_rfl) hf with ⟨hcs, _⟩ | ⟨x, l, c, zs, hcs, _, hl, hm, hz, _, hcell, hwz⟩
    · simp [Value.cells] at hcs
      obtain ⟨rfl, rfl, rfl⟩ := hcs
      exact ⟨[], .inl ⟨rfl, rfl, rfl, rfl⟩⟩
    · simp [Value.cells] at hcs
      obtain ⟨rfl, rfl, rfl⟩ := hcs
      exact ⟨zs, .inr ⟨_, rfl, hl, hm, by simpa using hz, hcell, hwz⟩⟩
  clear hA0 hval0
  refine (walk a0 len0 cap0 z0 a1 len1 cap1 z1 W w0 w1).mono fun e W' ⟨he, bel⟩ => ?_
  subst he
  exact ⟨_, rfl, _, _, _, [], _, [], hW', trodAll_mk1 (shut_bool Try.underlying4 _), (trodAll_cons_mk (Below.trod laidOut (by kernel_rfl) (of_decide_eq_true (by kernel_rfl)) k0 bel lt0) (trodAll_cons_mk (Below.trod laidOut (by kernel_rfl) (of_decide_eq_true (by kernel_rfl)) k1 bel lt1) trodAll_mk0)), rfl, bel.frame _, fun h => by cases h⟩

theorem over : Rows.fnPlnLayRow.holds Try.pinned (OpenSpec.ofChange Rows.fnPlnLaySpec) :=
  OpenClaim.holds_of_wide 6 Try.f6 rfl rfl rfl rfl rfl rfl rfl ⟨rfl, rfl, rfl, rfl, rfl⟩ rfl rfl rfl rfl rfl (by kernel_rfl) Try.func6 (by kernel_rfl)
    (of_decide_eq_true (by kernel_rfl)) (by unfold Func.isWrapper; first | (rw [if_pos (by decide +kernel)]; kernel_rfl) | (rw [if_neg (by decide +kernel)]; exact ⟨rfl, rfl⟩))
    (fun os started H enc _ => lifted os started H enc)

/-- THE STATEMENT. -/
theorem proved : Rows.FnPlnLaySaid := over
#print axioms proved
end Go.Proofs.Ytmkinbnopgfljaa.fnPlnLay
