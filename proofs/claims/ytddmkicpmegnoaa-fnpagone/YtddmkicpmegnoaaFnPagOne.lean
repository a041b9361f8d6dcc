/- For every code (any bytes), law FnPagOne returns true and its argument reads as before (no condition). -/
import Derived.Test.YtddmkicpmegnoaaRows
import Derived.Test.YtddmkicpmegnoaaPl6
import Derived.Test.YtddmkicpmegnoaaDrawPd
import Derived.Test.YtddmkicpmegnoaaPfacts
import Derived.Test.YtddmkicpmegnoaaRegion4
import Derived.WalkKit
import Derived.ProofKit
import Derived.OpenShut
import Derived.ShutString
import Derived.ChangeOld
import Derived.Below
namespace Go.Proofs.Ytddmkicpmegnoaa.fnPagOne
open Go.ChangeShapes Go.WideShapes Go.ChangeAt Go.RowKit
set_option linter.unusedVariables false
set_option linter.unusedSimpArgs false

theorem own : ownKnob Try.prog.godebug = none := by kernel_rfl
theorem laidOut : laidOutB Try.prog = true := by kernel_rfl

def IsRow (k : IntKind) (w : World) (a : Option Addr) (len cap : Nat) (zs : List Int) : Prop :=
  (a = none ∧ len = 0 ∧ cap = 0 ∧ zs = []) ∨
  ∃ x, a = some x ∧ len ≤ cap ∧ cap ≤ maxLen ∧ zs.length = cap ∧ (∀ i, i < zs.length → w.cell? (x.add i) = some (.int k (zs.getD i 0))) ∧ ∀ n ∈ zs, (Lit.int k n).wf = true

set_option maxRecDepth 8000 in
set_option maxHeartbeats 8000000 in
theorem walk (a0 : Option Addr) (len0 cap0 : Nat) (z0 : List Int) (w : World) (w0 : IsRow .u8 w a0 len0 cap0 z0) :
    Calls Try.prog 10 #[.slice a0 len0 cap0] w fun e w' => e = .returned (.bool true) ∧ Below w.heap.size w w' := by
  have hc : Code1 w.heap.size w a0 len0 cap0 := by
    rcases w0 with ⟨rfl, rfl, rfl, rfl⟩ | ⟨x, rfl, hl, hm, hz, hcell, hwz⟩
    · exact ⟨Nat.le_refl _, Nat.le_refl _, Nat.zero_le _, .inl rfl, fun _ => rfl⟩
    · exact ⟨Nat.le_refl _, hl, hm, bytes_of_row hl hz hcell hwz, fun h => by cases h⟩
  clear w0 z0
  go_enter Try.func10, Try.ntmps10
  by_cases hl : len0 ≤ 1048576
  · have hl' : ¬ (1048576 : Int) < (len0 : Int) := by omega
    go_wp2_with fail
    refine (DrawPagSee a0 len0 cap0 w hc).mono ?_
    rintro e u1 ⟨s, aR, aC, aM, cR, cC, cM, r, ⟨x, q, rfl⟩, hf, he, hS, f1⟩
    have he2 : e = .returned (.tuple #[.agg #[.int .i64 s.pc, .slice aR s.R.length cR, .slice aC s.C.length cC, .slice aM s.M.length cM], .int .i64 x, .bool q]) := he
    subst he2
    clear he hc
    have HS := Lib.hid (hS.fr (Fr.alloc u1 (.cells #[.int .i64 s.pc, .slice aR s.R.length cR, .slice aC s.C.length cC, .slice aM s.M.length cM] 27)))
    have HF := Lib.hid (Fr.trans f1 (Fr.alloc u1 (.cells #[.int .i64 s.pc, .slice aR s.R.length cR, .slice aC s.C.length cC, .slice aM s.M.length cM] 27)))
    have HX := Lib.hid (Box4.new u1 (.int .i64 s.pc) (.slice aR s.R.length cR) (.slice aC s.C.length cC) (.slice aM s.M.length cM) 27 _ rfl)
    clear hS f1
    go_wp2_with fail
    generalize (u1.alloc (.cells #[.int .i64 s.pc, .slice aR s.R.length cR, .slice aC s.C.length cC, .slice aM s.M.length cM] 27)) = u2 at *
    generalize u1.heap.size = X at *
    refine wp_region_lots 81 (fun i => []) (fun _ _ => True) (fun i v u => match i with | 0 => v = .agg #[.int .i64 s.pc, .slice aR s.R.length cR, .slice aC s.C.length cC, .slice aM s.M.length cM] | 1 => v = .int .i64 x | 2 => v = .bool q | 3 => v = .int .i64 (seeD s x q) | 4 => v = .agg #[.int .i64 s.pc, .slice aR s.R.length cR, .slice aC s.C.length cC, .slice aM s.M.length cM] | 5 => v = .int .i64 x | 6 => v = .bool q | 7 => v = .int .i64 (seeD s x q) | _ => v = .bool false) ?mono (by kernel_rfl) (by kernel_rfl) rfl (by kernel_rfl) trivial ?step ?fin
    case mono =>
      intro i j v u u' hij hsz h hB
      rcases j with _ | _ | _ | _ | _ | _ | _ | _ | j
      · exact h
      · exact h
      · exact h
      · exact h
      · exact h
      · exact h
      · exact h
      · exact h
      · exact h
    case step =>
      intro i o ho
      rcases i with _ | _ | _ | _ | _ | _ | _ | _ | _ | i
      · cases ho
        intro fu act u hW hB hsz hL hdep
        replace hB := hB [] (fun j hj hd k hk => by
          cases hk)
        obtain ⟨ysl, ha, hy⟩ := hL.puts [19, 20, 21, 22, 23, 24, 25, 26, 27] (by kernel_rfl)
        clear hdep hL hy
        simp only [List.foldl, List.setIfInBounds_toArray, List.set_cons_succ, List.set_cons_zero] at ha
        subst ha
        obtain ⟨_, c0, c1, c2, c3, _, _, _, _⟩ := HX.out.but hB (by simp)
        refine wpOp_step rfl (fun K hK => ?_)
        go_simp
        exact hK _ _ ⟨_, rfl, (fun h => by cases h), rfl, But.refl _ _, trivial⟩
      · cases ho
        intro fu act u hW hB hsz hL hdep
        replace hB := hB [] (fun j hj hd k hk => by
          cases hk)
        obtain ⟨ysl, ha, hy⟩ := hL.puts [19, 20, 21, 22, 23, 24, 25, 26, 27] (by kernel_rfl)
        clear hdep hL hy
        simp only [List.foldl, List.setIfInBounds_toArray, List.set_cons_succ, List.set_cons_zero] at ha
        subst ha
        refine wpOp_step rfl (fun K hK => ?_)
        go_simp
        exact hK _ _ ⟨_, rfl, (fun h => by cases h), rfl, But.refl _ _, trivial⟩
      · cases ho
        intro fu act u hW hB hsz hL hdep
        replace hB := hB [] (fun j hj hd k hk => by
          cases hk)
        obtain ⟨ysl, ha, hy⟩ := hL.puts [19, 20, 21, 22, 23, 24, 25, 26, 27] (by kernel_rfl)
        clear hdep hL hy
        simp only [List.foldl, List.setIfInBounds_toArray, List.set_cons_succ, List.set_cons_zero] at ha
        subst ha
        refine wpOp_step rfl (fun K hK => ?_)
        go_simp
        exact hK _ _ ⟨_, rfl, (fun h => by cases h), rfl, But.refl _ _, trivial⟩
      · cases ho
        intro fu act u hW hB hsz hL hdep
        replace hB := hB [] (fun j hj hd k hk => by
          cases hk)
        have d0 := hdep { on := 0, ground := .data } (by simp) rfl _ rfl
        have d1 := hdep { on := 1, ground := .data } (by simp) rfl _ rfl
        have d2 := hdep { on := 2, ground := .data } (by simp) rfl _ rfl
        obtain ⟨ysl, ha, hy⟩ := hL.puts [19, 20, 21, 22, 23, 24, 25, 26, 27] (by kernel_rfl)
        have e0 : ysl 19 = _ := (hy 19).symm.trans d0
        have e1 : ysl 20 = _ := (hy 20).symm.trans d1
        have e2 : ysl 21 = _ := (hy 21).symm.trans d2
        clear hdep hL hy d0 d1 d2
        simp only [List.foldl, List.setIfInBounds_toArray, List.set_cons_succ, List.set_cons_zero, e0, e1, e2] at ha
        subst ha
        clear e0 e1 e2
        refine wpOp_step rfl (fun K hK => ?_)
        go_simp
        refine (impl_PagSee s aR aC aM cR cC cM x q u (HS.out.fr (fr_but (L := []) (Below.refl u2.heap.size u2) hB (fun k hk => by cases hk))) hf.few).mono ?_
        rintro e u' ⟨rfl, f⟩
        go_simp
        exact hK _ _ ⟨_, rfl, (fun h => by cases h), rfl, But.of f, trivial⟩
      · cases ho
        intro fu act u hW hB hsz hL hdep
        replace hB := hB [] (fun j hj hd k hk => by
          cases hk)
        obtain ⟨ysl, ha, hy⟩ := hL.puts [19, 20, 21, 22, 23, 24, 25, 26, 27] (by kernel_rfl)
        clear hdep hL hy
        simp only [List.foldl, List.setIfInBounds_toArray, List.set_cons_succ, List.set_cons_zero] at ha
        subst ha
        obtain ⟨_, c0, c1, c2, c3, _, _, _, _⟩ := HX.out.but hB (by simp)
        refine wpOp_step rfl (fun K hK => ?_)
        go_simp
        exact hK _ _ ⟨_, rfl, (fun h => by cases h), rfl, But.refl _ _, trivial⟩
      · cases ho
        intro fu act u hW hB hsz hL hdep
        replace hB := hB [] (fun j hj hd k hk => by
          cases hk)
        obtain ⟨ysl, ha, hy⟩ := hL.puts [19, 20, 21, 22, 23, 24, 25, 26, 27] (by kernel_rfl)
        clear hdep hL hy
        simp only [List.foldl, List.setIfInBounds_toArray, List.set_cons_succ, List.set_cons_zero] at ha
        subst ha
        refine wpOp_step rfl (fun K hK => ?_)
        go_simp
        exact hK _ _ ⟨_, rfl, (fun h => by cases h), rfl, But.refl _ _, trivial⟩
      · cases ho
        intro fu act u hW hB hsz hL hdep
        replace hB := hB [] (fun j hj hd k hk => by
          cases hk)
        obtain ⟨ysl, ha, hy⟩ := hL.puts [19, 20, 21, 22, 23, 24, 25, 26, 27] (by kernel_rfl)
        clear hdep hL hy
        simp only [List.foldl, List.setIfInBounds_toArray, List.set_cons_succ, List.set_cons_zero] at ha
        subst ha
        refine wpOp_step rfl (fun K hK => ?_)
        go_simp
        exact hK _ _ ⟨_, rfl, (fun h => by cases h), rfl, But.refl _ _, trivial⟩
      · cases ho
        intro fu act u hW hB hsz hL hdep
        replace hB := hB [] (fun j hj hd k hk => by
          cases hk)
        have d4 := hdep { on := 4, ground := .data } (by simp) rfl _ rfl
        have d5 := hdep { on := 5, ground := .data } (by simp) rfl _ rfl
        have d6 := hdep { on := 6, ground := .data } (by simp) rfl _ rfl
        obtain ⟨ysl, ha, hy⟩ := hL.puts [19, 20, 21, 22, 23, 24, 25, 26, 27] (by kernel_rfl)
        have e4 : ysl 23 = _ := (hy 23).symm.trans d4
        have e5 : ysl 24 = _ := (hy 24).symm.trans d5
        have e6 : ysl 25 = _ := (hy 25).symm.trans d6
        clear hdep hL hy d4 d5 d6
        simp only [List.foldl, List.setIfInBounds_toArray, List.set_cons_succ, List.set_cons_zero, e4, e5, e6] at ha
        subst ha
        clear e4 e5 e6
        refine wpOp_step rfl (fun K hK => ?_)
        go_simp
        refine (spec_PagSee s aR aC aM cR cC cM x q u (HS.out.fr (fr_but (L := []) (Below.refl u2.heap.size u2) hB (fun k hk => by cases hk))) hf.few).mono ?_
        rintro e u' ⟨rfl, f⟩
        go_simp
        exact hK _ _ ⟨_, rfl, (fun h => by cases h), rfl, But.of f, trivial⟩
      · cases ho
        intro fu act u hW hB hsz hL hdep
        replace hB := hB [] (fun j hj hd k hk => by
          cases hk)
        have d3 := hdep { on := 3, ground := .data } (by simp) rfl _ rfl
        have d7 := hdep { on := 7, ground := .data } (by simp) rfl _ rfl
        obtain ⟨ysl, ha, hy⟩ := hL.puts [19, 20, 21, 22, 23, 24, 25, 26, 27] (by kernel_rfl)
        have e3 : ysl 22 = _ := (hy 22).symm.trans d3
        have e7 : ysl 26 = _ := (hy 26).symm.trans d7
        clear hdep hL hy d3 d7
        simp only [List.foldl, List.setIfInBounds_toArray, List.set_cons_succ, List.set_cons_zero, e3, e7] at ha
        subst ha
        clear e3 e7
        refine wpOp_step rfl (fun K hK => ?_)
        go_simp
        exact hK _ _ ⟨_, rfl, (fun h => by cases h), by simp, But.refl _ _, trivial⟩
      · exact absurd ho (by simp)
    case fin =>
      intro act u hW hsz hB hL hsf
      replace hB := hB [] (fun j k hk => by
        cases hk)
      have d8 := hsf 8 _ rfl
      obtain ⟨ysl, ha, hy⟩ := hL.puts [19, 20, 21, 22, 23, 24, 25, 26, 27] (by kernel_rfl)
      have e8 : ysl 27 = _ := (hy 27).symm.trans d8
      clear hL hsf hy d8
      simp only [List.foldl, List.setIfInBounds_toArray, List.set_cons_succ, List.set_cons_zero, e8] at ha
      subst ha
      clear e8
      have f4 : Fr u2 u := (fr_but (L := []) (Below.refl u2.heap.size u2) hB (fun k hk => by cases hk))
      have HS4 := Lib.hid (HS.out.fr f4)
      have HF4 := Lib.hid (Fr.trans HF.out f4)
      have HX4 := Lib.hid (HX.out.fr f4)
      clear hB hW hsz f4 HS HF HX
      obtain ⟨_, x0, x1, x2, x3, _, _, _, _⟩ := HX4.out
      go_wp2_with fail
      refine (spec_PlnOk s aR aC aM cR cC cM u HS4.out hf.few).mono ?_
      rintro e u5 ⟨rfl, f5⟩
      clear x0 x1 x2 x3
      have HS5 := Lib.hid (HS4.out.fr f5)
      have HF5 := Lib.hid (Fr.trans HF4.out f5)
      have HX5 := Lib.hid (HX4.out.fr f5)
      clear f5 HS4 HF4 HX4
      cases hk : okS s
      · go_wp2_with (go_at_call 29; refine (laws_haOk _).mono ?_; rintro e w' ⟨rfl, rfl⟩)
        go_ret
        exact ⟨rfl, HF5.out⟩
      · cases hw : okB x
        · go_wp2_with (first | (go_at_call 32; refine (spec_WrdOk _ _).mono ?_; rintro e w' ⟨rfl, rfl⟩; rw [hw]) | (go_at_call 29; refine (laws_haOk _).mono ?_; rintro e w' ⟨rfl, rfl⟩))
          go_ret
          exact ⟨rfl, HF5.out⟩
        · have HK := Lib.hid ((okS_iff s).1 hk)
          have HKB := Lib.hid hk
          have hx := okB_true hw
          have hLC := HK.out.Cl
          obtain ⟨gc, oc, rfl, hgc, _, _, d3⟩ := ctl_at HS5.out.C hLC
          rw [hLC] at HX5
          have hc30 := (ok_get HK.out.C 3).1
          have h2 : s.C.getD 3 0 % 2 = 0 ∨ s.C.getD 3 0 % 2 = 1 := by omega
          have hst : ∀ v : Bool, Calls Try.prog 32 #[.int .i64 x] u5 fun e w' => e = .returned (.bool true) ∧ u5 = w' := fun _ => by rw [← hw]; exact spec_WrdOk _ _
          clear hk hLC
          obtain ⟨_, x0, x1, x2, x3, _, _, _, _⟩ := HX5.out
          rcases h2 with h2 | h2
          · generalize s.C.getD 3 0 = c3 at *
            have ht : c3.tmod 2 = 0 := by rw [Int.tmod_eq_emod_of_nonneg hc30]; exact h2
            go_wp2_with (first | (go_at_call 32; refine (hst true).mono ?_; rintro e w' ⟨rfl, rfl⟩) | (go_at_call 29; refine (laws_haOk _).mono ?_; rintro e w' ⟨rfl, rfl⟩))
            go_ret
            exact ⟨rfl, HF5.out⟩
          · have H2 := Lib.hid h2
            have ht : (s.C.getD 3 0).tmod 2 = 1 := by rw [Int.tmod_eq_emod_of_nonneg hc30]; exact h2
            generalize s.C.getD 3 0 = c3 at d3 ht
            have htx : x.tmod 16 = x % 16 := Int.tmod_eq_emod_of_nonneg hx.1
            have hbase : ∃ b : Int, b = x - x % 16 ∧ b % 16 = 0 ∧ 0 ≤ b ∧ b ≤ 65520 := ⟨_, rfl, by omega, by omega, by omega⟩
            obtain ⟨b, hb, hb1, hb2, hb3⟩ := hbase
            have HBQ := Lib.hid hb
            have HBS := Lib.hid (show ∀ k : Int, 0 ≤ k → k < 16 → seeD s (b + k) q = see s.C s.M (b + k) q from fun k h0 h1 => if_pos ⟨HKB.out, okB_mk (by omega) (by omega)⟩)
            have HPG := Lib.hid (fun k (h0 : 0 ≤ k) (h1 : k < 16) => see_page (C := s.C) (M := s.M) (save := q) H2.out hb1 hb2 h0 h1)
            have HB0 := Lib.hid (show seeD s b q = see s.C s.M b q by have := HBS.out 0 (by omega) (by omega); simpa using this)
            have hFb := see_bd s.C s.M b q hb2
            have hlen : s.C.length = 5 := HK.out.Cl
            have EB := Lib.hid (fun (a : Int) (v : World) (f : Fr u5 v) => show Calls Try.prog 25 #[.agg #[.int .i64 s.pc, .slice aR s.R.length cR, .slice (some ⟨gc, oc, none⟩) 5 cC, .slice aM s.M.length cM], .int .i64 a, .bool q] v fun e w' => e = .returned (.int .i64 (seeD s a q)) ∧ Fr v w' by
              have E := impl_PagSee s aR (some ⟨gc, oc, none⟩) aM cR cC cM a q v (HS5.out.fr f) hf.few
              rw [hlen] at E
              exact E)
            have HXR := Lib.hid (fun (v : World) (f : Fr u5 v) => HX5.out.fr f)
            clear hlen hb h2
            generalize hFg : see s.C s.M b q = F at *
            go_wp2_with (first | (go_at_call 32; refine (hst true).mono ?_; rintro e w' ⟨rfl, rfl⟩))
            rw [show x - x % 16 = b from HBQ.out.symm]
            refine (EB.out b u5 (Below.refl _ _)).mono ?_
            rintro e u6 ⟨rfl, f6⟩
            rw [HB0.out]
            have HF6 := Lib.hid f6
            clear f6 x0 x1 x2 x3 hst d3
            go_wp2_with fail
            go_loopw [8, 9] (fun kk _ wr => ∃ k : Int, 0 ≤ k ∧ k ≤ 16 ∧ kk = .int .i64 k ∧ Fr u5 wr) (fun kk _ _ => 16 - (intOf kk).toNat)
            case atStart => exact ⟨0, by omega, by omega, rfl, HF6.out⟩
            case round =>
              obtain ⟨k, k0, k1, rfl, hFr⟩ := hrel
              have HFR := Lib.hid hFr
              obtain ⟨_, x0, x1, x2, x3, _, _, _, _⟩ := HXR.out wr hFr
              clear hFr
              by_cases hk : k < 16
              · go_wp2_with fail
                refine (EB.out (b + k) wr HFR.out).mono ?_
                rintro e u7 ⟨rfl, f7⟩
                rw [HBS.out k k0 hk]
                have HF7 := Lib.hid (Fr.trans HFR.out f7)
                obtain ⟨pA, pB⟩ := HPG.out k k0 hk
                clear f7 x0 x1 x2 x3
                by_cases hF0 : F < 0
                · have e1 := pA hF0
                  rw [e1]
                  clear pA pB e1
                  go_wp2
                  go_roundw
                  case rel => exact ⟨k + 1, by omega, by omega, by go_num, HF7.out⟩
                  case measure => simp [intOf]; omega
                · have e1 := pB (by omega)
                  rw [e1]
                  have hF1 : 0 ≤ F := by omega
                  clear pA pB e1
                  go_wp2
                  go_roundw
                  case rel => exact ⟨k + 1, by omega, by omega, by go_num, HF7.out⟩
                  case measure => simp [intOf]; omega
              · have hk' : ¬ k < 16 := hk
                go_wp2_with (go_at_call 29; refine (laws_haOk _).mono ?_; rintro e w' ⟨rfl, rfl⟩)
                go_ret
                exact ⟨rfl, Fr.trans HF5.out HFR.out⟩
  · go_wp2
    go_ret
    exact ⟨rfl, Below.refl _ _⟩

set_option maxRecDepth 100000 in
theorem lifted (os : Os) (started : os.Started) (H : Type) (enc : TypeId × Value → H) :
    ReturnsInHanded {} Try.checked os 10 .any (Rows.fnPagOneSpec.pre6 enc Try.prog Try.f10 Rows.fnPagOneRow.domain false) (Rows.fnPagOneSpec.post enc Try.prog Try.f10 false true false false) := by
  refine returnsInHanded_of_change (C := Try.checked) own started (by kernel_rfl) Try.func10
    (ChangeSpec.witness6 (enc := enc) (C := Try.checked) false ⟨#[], #[.slice none 0 0], []⟩ 8 (by kernel_rfl) (by kernel_rfl) (by kernel_rfl) (by kernel_rfl)) ?_
  intro W base args ds gs before hval0 hW hcnd _
  have hval : ∀ (j : Nat) t v, Try.f10.params[j]? = some t → args[j]? = some v → Value.okWide Try.prog W .any base t v := hval0
  have hW' := hW
  obtain ⟨p, q, hA0, hV, rfl, hfz, hnd⟩ := hW
  have hA : DataW.TrodAll enc Try.prog W 0 (fun _ => true) true Try.f10.params.toList args.toList ds p := hA0
  rw [Try.params10] at hA hval
  obtain ⟨v0, vs0, d0, ds0, p0, q0, hargs, rfl, rfl, h0, r0⟩ := trodAll_cons hA
  obtain ⟨rfl, rfl, rfl⟩ := trodAll_nil r0
  obtain rfl : args = #[v0] := by cases args; simp_all
  obtain ⟨rfl, rfl⟩ := trodVars_none hV
  obtain ⟨a0, len0, cap0, rfl⟩ := okWide_slice Try.underlying41 (hval 0 41 v0 rfl rfl)
  have k0 := h0
  have lt0 : ∀ x ∈ p0, x.block < W.heap.size := by obtain ⟨m, hm⟩ := k0; exact DataW.trod_lt m _ _ _ hm
  obtain ⟨z0, w0⟩ : ∃ zs, IsRow .u8 W a0 len0 cap0 zs := by
    obtain ⟨fuel, hf⟩ := h0
    rcases open_ints Try.underlying41 Try.underlying5 (by kernel_rfl) hf with ⟨hcs, _⟩ | ⟨x, l, c, zs, hcs, _, hl, hm, hz, _, hcell, hwz⟩
    · simp [Value.cells] at hcs
      obtain ⟨rfl, rfl, rfl⟩ := hcs
      exact ⟨[], .inl ⟨rfl, rfl, rfl, rfl⟩⟩
    · simp [Value.cells] at hcs
      obtain ⟨rfl, rfl, rfl⟩ := hcs
      exact ⟨zs, .inr ⟨_, rfl, hl, hm, by simpa using hz, hcell, hwz⟩⟩
  clear hA0 hval0
  refine (walk a0 len0 cap0 z0 W w0).mono fun e W' ⟨he, bel⟩ => ?_
  subst he
  exact ⟨_, rfl, _, _, _, [], _, [], hW', trodAll_mk1 (shut_bool Try.underlying4 _), (trodAll_cons_mk (Below.trod laidOut (by kernel_rfl) (of_decide_eq_true (by kernel_rfl)) k0 bel lt0) trodAll_mk0), rfl, bel.frame _, fun h => by cases h⟩

theorem over : Rows.fnPagOneRow.holds Try.pinned (OpenSpec.ofChange Rows.fnPagOneSpec) :=
  OpenClaim.holds_of_wide 10 Try.f10 rfl rfl rfl rfl rfl rfl rfl ⟨rfl, rfl, rfl, rfl, rfl⟩ rfl rfl rfl rfl rfl (by kernel_rfl) Try.func10 (by kernel_rfl)
    (of_decide_eq_true (by kernel_rfl)) (by unfold Func.isWrapper; first | (rw [if_pos (by decide +kernel)]; kernel_rfl) | (rw [if_neg (by decide +kernel)]; exact ⟨rfl, rfl⟩))
    (fun os started H enc _ => lifted os started H enc)

/-- THE STATEMENT. -/
theorem proved : Rows.FnPagOneSaid := over
#print axioms proved
end Go.Proofs.Ytddmkicpmegnoaa.fnPagOne
