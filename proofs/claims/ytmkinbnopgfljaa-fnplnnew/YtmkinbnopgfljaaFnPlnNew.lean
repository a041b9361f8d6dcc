/- For every code (any bytes), law FnPlnNew returns true and its argument reads as before (no condition). -/
import Derived.Test.YtmkinbnopgfljaaRows
import Derived.Test.YtmkinbnopgfljaaPl5
import Derived.Test.YtmkinbnopgfljaaPk
import Derived.Test.YtmkinbnopgfljaaPres
import Derived.Test.YtmkinbnopgfljaaVo
import Derived.Test.YtmkinbnopgfljaaDrawPd
import Derived.Test.YtmkinbnopgfljaaRegion4
import Derived.WalkKit
import Derived.ProofKit
import Derived.OpenShut
import Derived.ShutString
import Derived.ChangeOld
import Derived.Below
namespace Go.Proofs.Ytmkinbnopgfljaa.fnPlnNew
open Go.ChangeShapes Go.WideShapes Go.ChangeAt Go.RowKit
set_option linter.unusedVariables false
set_option linter.unusedSimpArgs false

theorem own : ownKnob Try.prog.godebug = none := by kernel_rfl
theorem laidOut : laidOutB Try.prog = true := by kernel_rfl

def IsRow (k : IntKind) (w : World) (a : Option Addr) (len cap : Nat) (zs : List Int) : Prop :=
  (a = none ∧ len = 0 ∧ cap = 0 ∧ zs = []) ∨
  ∃ x, a = some x ∧ len ≤ cap ∧ cap ≤ maxLen ∧ zs.length = cap ∧ (∀ i, i < zs.length → w.cell? (x.add i) = some (.int k (zs.getD i 0))) ∧ ∀ n ∈ zs, (Lit.int k n).wf = true

set_option maxRecDepth 8000 in
set_option maxHeartbeats 8000000 in
theorem walk (a0 : Option Addr) (len0 cap0 : Nat) (z0 : List Int) (w : World) (w0 : IsRow .u8 w a0 len0 cap0 z0) :
    Calls Try.prog 5 #[.slice a0 len0 cap0] w fun e w' => e = .returned (.bool true) ∧ Below w.heap.size w w' := by
  have hc : Code1 w.heap.size w a0 len0 cap0 := by
    rcases w0 with ⟨rfl, rfl, rfl, rfl⟩ | ⟨x, rfl, hl, hm, hz, hcell, hwz⟩
    · exact ⟨Nat.le_refl _, Nat.le_refl _, Nat.zero_le _, .inl rfl, fun _ => rfl⟩
    · exact ⟨Nat.le_refl _, hl, hm, bytes_of_row hl hz hcell hwz, fun h => by cases h⟩
  clear w0 z0
  go_enter Try.func5, Try.ntmps5
  by_cases hl : len0 ≤ 1048576
  · have hl' : ¬ (1048576 : Int) < (len0 : Int) := by omega
    go_wp2_with fail
    refine (DrawPlnNew a0 len0 cap0 w hc).mono ?_
    rintro e u1 ⟨xs, ao, cap, hl3, rfl, hS, f1⟩
    have HS := Lib.hid hS
    have HF := Lib.hid f1
    clear hS f1 hc
    go_wp2_with fail
    refine (impl_PlnNew xs ao cap u1 HS.out (by omega)).mono ?_
    rintro e u2 hb
    generalize hbt : begD xs = t
    obtain ⟨aR, aC, aM, cR, cC, cM, rfl, hV, hB, f2⟩ := beg_res hbt hb
    clear hb hB
    have HT := Lib.hid (show Few20 t by rw [← hbt]; exact few_beg xs)
    have HBT := Lib.hid hbt
    have HS3 := Lib.hid ((HS.out.fr f2).fr (Fr.alloc u2 (.cells #[.int .i64 t.pc, .slice aR t.R.length cR, .slice aC t.C.length cC, .slice aM t.M.length cM] 26)))
    have HF3 := Lib.hid (Fr.trans (Fr.trans HF.out f2) (Fr.alloc u2 (.cells #[.int .i64 t.pc, .slice aR t.R.length cR, .slice aC t.C.length cC, .slice aM t.M.length cM] 26)))
    have HV3 := Lib.hid (hV.fr (Fr.alloc u2 (.cells #[.int .i64 t.pc, .slice aR t.R.length cR, .slice aC t.C.length cC, .slice aM t.M.length cM] 26)))
    have HX := Lib.hid (Box4.new u2 (.int .i64 t.pc) (.slice aR t.R.length cR) (.slice aC t.C.length cC) (.slice aM t.M.length cM) 26 _ rfl)
    clear hV f2 hbt HS HF
    go_wp2_with fail
    generalize (u2.alloc (.cells #[.int .i64 t.pc, .slice aR t.R.length cR, .slice aC t.C.length cC, .slice aM t.M.length cM] 26)) = u3 at *
    generalize u2.heap.size = X at *
    refine wp_region_lots 85 (fun i => []) (fun _ _ => True) (fun i v u => match i with | 0 => v = .agg #[.int .i64 t.pc, .slice aR t.R.length cR, .slice aC t.C.length cC, .slice aM t.M.length cM] | 1 => v = .slice ao xs.length cap | 2 => MQ t v u | 3 => v = .bool true | _ => v = .bool false) ?mono (by kernel_rfl) (by kernel_rfl) rfl (by kernel_rfl) trivial ?step ?fin
    case mono =>
      intro i j v u u' hij hsz h hB
      rcases j with _ | _ | _ | _ | j
      · exact h
      · exact h
      · exact h.but hB
      · exact h
      · exact h
    case step =>
      intro i o ho
      rcases i with _ | _ | _ | _ | _ | i
      · cases ho
        intro fu act u hW hB hsz hL hdep
        replace hB := hB [] (fun j hj hd k hk => by
          cases hk)
        obtain ⟨ysl, ha, hy⟩ := hL.puts [15, 16, 17, 18, 19] (by kernel_rfl)
        clear hdep hL hy
        simp only [List.foldl, List.setIfInBounds_toArray, List.set_cons_succ, List.set_cons_zero] at ha
        subst ha
        obtain ⟨_, c0, c1, c2, c3, _, _, _, _⟩ := HX.out.but hB (by simp)
        refine wpOp_step rfl (fun K hK => ?_)
        go_simp
        exact hK _ _ ⟨_, rfl, (fun h => by cases h), rfl, But.refl _ _, trivial⟩
      · cases ho
        intro fu act u hW hB hsz hL hdep
        replace hB := hB [] (fun j hj hd k hk => by
          cases hk)
        obtain ⟨ysl, ha, hy⟩ := hL.puts [15, 16, 17, 18, 19] (by kernel_rfl)
        clear hdep hL hy
        simp only [List.foldl, List.setIfInBounds_toArray, List.set_cons_succ, List.set_cons_zero] at ha
        subst ha
        refine wpOp_step rfl (fun K hK => ?_)
        go_simp
        exact hK _ _ ⟨_, rfl, (fun h => by cases h), rfl, But.refl _ _, trivial⟩
      · cases ho
        intro fu act u hW hB hsz hL hdep
        replace hB := hB [] (fun j hj hd k hk => by
          cases hk)
        have d1 := hdep { on := 1, ground := .data } (by simp) rfl _ rfl
        obtain ⟨ysl, ha, hy⟩ := hL.puts [15, 16, 17, 18, 19] (by kernel_rfl)
        have e1 : ysl 16 = _ := (hy 16).symm.trans d1
        clear hdep hL hy d1
        simp only [List.foldl, List.setIfInBounds_toArray, List.set_cons_succ, List.set_cons_zero, e1] at ha
        subst ha
        clear e1
        refine wpOp_step rfl (fun K hK => ?_)
        go_simp
        refine (spec_PlnNew xs ao cap u (HS3.out.fr (fr_but (L := []) (Below.refl u3.heap.size u3) hB (fun k hk => by cases hk))) (by omega)).mono ?_
        rintro e u' hb
        obtain ⟨bR, bC, bM, dR, dC, dM, rfl, hV2, _, f⟩ := beg_res HBT.out hb
        go_simp
        exact hK _ _ ⟨_, rfl, (fun h => by cases h), ⟨_, bR, bC, bM, dR, dC, dM, rfl, hV2⟩, But.of f, trivial⟩
      · cases ho
        intro fu act u hW hB hsz hL hdep
        replace hB := hB [] (fun j hj hd k hk => by
          cases hk)
        have d0 := hdep { on := 0, ground := .data } (by simp) rfl _ rfl
        have d2 := hdep { on := 2, ground := .data } (by simp) rfl _ rfl
        obtain ⟨ysl, ha, hy⟩ := hL.puts [15, 16, 17, 18, 19] (by kernel_rfl)
        have e0 : ysl 15 = _ := (hy 15).symm.trans d0
        obtain ⟨B2, bR, bC, bM, dR, dC, dM, h2, V2⟩ := d2
        have e2 : ysl 17 = .agg #[.int .i64 t.pc, .slice bR t.R.length dR, .slice bC t.C.length dC, .slice bM t.M.length dM] := (hy 17).symm.trans h2
        clear hdep hL hy d0 h2
        simp only [List.foldl, List.setIfInBounds_toArray, List.set_cons_succ, List.set_cons_zero, e0, e2] at ha
        subst ha
        clear e0 e2
        refine wpOp_step rfl (fun K hK => ?_)
        go_simp
        refine (laws_haPln_same _ B2 u t _ _ _ _ _ _ _ _ _ _ _ _ (HV3.out.fr (fr_but (L := []) (Below.refl u3.heap.size u3) hB (fun k hk => by cases hk))) V2 HT.out).mono ?_
        rintro e u' ⟨rfl, f⟩
        go_simp
        exact hK _ _ ⟨_, rfl, (fun h => by cases h), rfl, But.of f, trivial⟩
      · cases ho
        intro fu act u hW hB hsz hL hdep
        replace hB := hB [] (fun j hj hd k hk => by
          cases hk)
        have d3 := hdep { on := 3, ground := .data } (by simp) rfl _ rfl
        obtain ⟨ysl, ha, hy⟩ := hL.puts [15, 16, 17, 18, 19] (by kernel_rfl)
        have e3 : ysl 18 = _ := (hy 18).symm.trans d3
        clear hdep hL hy d3
        simp only [List.foldl, List.setIfInBounds_toArray, List.set_cons_succ, List.set_cons_zero, e3] at ha
        subst ha
        clear e3
        refine wpOp_step rfl (fun K hK => ?_)
        go_simp
        exact hK _ _ ⟨_, rfl, (fun h => by cases h), by simp, But.refl _ _, trivial⟩
      · exact absurd ho (by simp)
    case fin =>
      intro act u hW hsz hB hL hsf
      replace hB := hB [] (fun j k hk => by
        cases hk)
      have d4 := hsf 4 _ rfl
      obtain ⟨ysl, ha, hy⟩ := hL.puts [15, 16, 17, 18, 19] (by kernel_rfl)
      have e4 : ysl 19 = _ := (hy 19).symm.trans d4
      clear hL hsf hy d4
      simp only [List.foldl, List.setIfInBounds_toArray, List.set_cons_succ, List.set_cons_zero, e4] at ha
      subst ha
      clear e4
      have fB : Fr u3 u := (fr_but (L := []) (Below.refl u3.heap.size u3) hB (fun k hk => by cases hk))
      have HS4 := Lib.hid (HS3.out.fr fB)
      have HF4 := Lib.hid (Fr.trans HF3.out fB)
      have HV4 := Lib.hid (HV3.out.fr fB)
      have HX4 := Lib.hid (HX.out.fr fB)
      clear hB hW hsz fB HS3 HF3 HV3 HX
      cases hg : goodW xs
      · have ht : t = noS := by rw [← HBT.out, begD, if_neg (by simp [hg])]
        have hm0 : t.M.length = 0 := by rw [ht]; rfl
        rw [hm0] at HX4
        clear ht hm0
        go_wp2_with fail
        go_loopw [5] (fun i wr => ∃ p : Nat, p ≤ xs.length ∧ i = .int .i64 p ∧ ((∀ i, i < p → okB (xs.getD i 0) = true) ∧ (p = 0 ∨ xs.length ≤ 256)) ∧ Fr u wr) (fun i _ => xs.length - (intOf i).toNat)
        case atStart => exact ⟨0, Nat.zero_le _, rfl, ⟨fun i hi => absurd hi (Nat.not_lt_zero _), .inl rfl⟩, Below.refl _ _⟩
        case round =>
          obtain ⟨p, hp, rfl, hok, hFr⟩ := hrel
          have HFR := Lib.hid hFr
          have HOK := Lib.hid hok
          obtain ⟨_, x0, x1, x2, x3, _, _, _, _⟩ := HX4.out.fr hFr
          have HSR := Lib.hid (HS4.out.fr hFr)
          clear hFr hok
          by_cases hlt : p < xs.length
          · have hlt' : (p : Int) < (xs.length : Int) := by omega
            obtain ⟨g, o, rfl, hgl, hcc⟩ := HSR.out (by omega)
            have d0 := hcc p hlt
            simp only [ivl] at d0
            clear hcc
            cases hk : okB (xs.getD p 0)
            · generalize xs.getD p 0 = z at d0 hk
              go_wp2_with (first | (go_at_call 22; refine (spec_WrdOk _ _).mono ?_; rintro e w' ⟨rfl, rfl⟩) | (go_at_call 17; refine (laws_haOk _).mono ?_; rintro e w' ⟨rfl, rfl⟩))
              go_ret
              exact ⟨rfl, Fr.trans HF4.out HFR.out⟩
            · have HO2 := Lib.hid (show ∀ i, i < p + 1 → okB (xs.getD i 0) = true from fun i hi => by
                rcases Nat.lt_succ_iff_lt_or_eq.1 hi with h | h
                · exact HOK.out.1 i h
                · rw [h]; exact hk)
              generalize xs.getD p 0 = z at d0 hk
              by_cases hbig : xs.length ≤ 256
              · have hb1 : ¬ (256 : Int) < (xs.length : Int) := by omega
                go_wp2_with (go_at_call 22; refine (spec_WrdOk _ _).mono ?_; rintro e w' ⟨rfl, rfl⟩)
                go_roundw
                case rel => exact ⟨p + 1, by omega, by go_num, ⟨HO2.out, .inr hbig⟩, HFR.out⟩
                case measure => simp [intOf]; omega
              · have hb1 : (256 : Int) < (xs.length : Int) := by omega
                go_wp2_with (first | (go_at_call 22; refine (spec_WrdOk _ _).mono ?_; rintro e w' ⟨rfl, rfl⟩) | (go_at_call 17; refine (laws_haOk _).mono ?_; rintro e w' ⟨rfl, rfl⟩))
                go_ret
                exact ⟨rfl, Fr.trans HF4.out HFR.out⟩
          · have hge : ¬ (p : Int) < (xs.length : Int) := by omega
            by_cases hbig : xs.length ≤ 256
            · exact (goodW_no hg hbig (fun i hi => HOK.out.1 i (by omega))).elim
            · exfalso
              have := HOK.out.2
              omega
      · have ht : t = newS xs := by rw [← HBT.out, begD, if_pos hg]
        subst ht
        obtain ⟨hbig, hall⟩ := goodW_yes hg
        have HALL := Lib.hid hall
        have hbig' : ¬ (256 : Int) < (xs.length : Int) := by omega
        have LM := newM_len hbig
        clear hall
        have HR5 := HV4.out.R.src
        have HC5 := HV4.out.C.src
        have HM5 := HV4.out.M.src
        have HOKS := Lib.hid (show okS (newS xs) = true from (okS_iff _).2 (new_okS hbig (by simp only [goodW, Bool.and_eq_true] at hg; exact hg.2)))
        have E0 := fun (v : World) (f : Fr u v) => impl_PlnOk (newS xs) aR aC aM cR cC cM v (HV4.out.src.fr f) HT.out.few
        simp only [newS, zeros_len, LM] at HX4 HR5 HC5 HM5 E0
        rw [show okS (St.mk 0 (zeros 8) (zeros 5) (newM xs)) = true from HOKS.out] at E0
        have HR6 := Lib.hid (show Src u 8 (fun i => .int .i64 0) aR from fun h0 => by obtain ⟨g, o, e, hl, hc⟩ := HR5 h0; exact ⟨g, o, e, hl, fun i hi => by rw [hc i hi]; simp only [ivl, zeros_at]⟩)
        have HC6 := Lib.hid (show Src u 5 (fun i => .int .i64 0) aC from fun h0 => by obtain ⟨g, o, e, hl, hc⟩ := HC5 h0; exact ⟨g, o, e, hl, fun i hi => by rw [hc i hi]; simp only [ivl, zeros_at]⟩)
        have HM6 := Lib.hid HM5
        have EOK4 := Lib.hid E0
        clear HR5 HC5 HM5 E0 LM HOKS HV4 HBT HT
        have HR4 := Lib.hid HR6.out
        have HC4 := Lib.hid HC6.out
        clear HR6 HC6
        go_wp2_with fail
        go_loopw [5] (fun i wr => ∃ p : Nat, p ≤ xs.length ∧ i = .int .i64 p ∧ True ∧ Fr u wr) (fun i _ => xs.length - (intOf i).toNat)
        case atStart => exact ⟨0, Nat.zero_le _, rfl, trivial, Below.refl _ _⟩
        case round =>
          obtain ⟨p, hp, rfl, hok, hFr⟩ := hrel
          have HFR := Lib.hid hFr
          have HOK := Lib.hid hok
          obtain ⟨_, x0, x1, x2, x3, _, _, _, _⟩ := HX4.out.fr hFr
          have HSR := Lib.hid (HS4.out.fr hFr)
          clear hFr hok
          by_cases hlt : p < xs.length
          · have hlt' : (p : Int) < (xs.length : Int) := by omega
            obtain ⟨g, o, rfl, hgl, hcc⟩ := HSR.out (by omega)
            have d0 := hcc p hlt
            simp only [ivl] at d0
            clear hcc
            have hk := HALL.out p hlt
            generalize xs.getD p 0 = z at d0 hk
            go_wp2_with (go_at_call 22; refine (spec_WrdOk _ _).mono ?_; rintro e w' ⟨rfl, rfl⟩)
            go_roundw
            case rel => exact ⟨p + 1, by omega, by go_num, trivial, HFR.out⟩
            case measure => simp [intOf]; omega
          · have hge : ¬ (p : Int) < (xs.length : Int) := by omega
            have HF5 := Lib.hid HFR.out
            clear HFR HSR HOK
            go_wp2_with fail
            go_loopw [6, 7] (fun k _ wr => ∃ q : Nat, q ≤ 256 ∧ k = .int .i64 q ∧ Fr u wr) (fun k _ _ => 256 - (intOf k).toNat)
            case atStart => exact ⟨0, by omega, rfl, HF5.out⟩
            case round =>
              obtain ⟨q, hq, rfl, hFr⟩ := hrel
              have HFR := Lib.hid hFr
              clear x0 x1 x2 x3
              obtain ⟨_, x0, x1, x2, x3, _, _, _, _⟩ := HX4.out.fr hFr
              by_cases hqt : q < 256
              · obtain ⟨gm, om, rfl, hgl, hcc⟩ := HM6.out.fr hFr (by omega)
                have d0 := hcc q hqt
                simp only [ivl, newM_at] at d0
                clear hcc
                by_cases hql : q < xs.length
                · have hql' : (q : Int) < (xs.length : Int) := by omega
                  obtain ⟨g, o, rfl, hgl2, hcc⟩ := HS4.out.fr hFr (by omega)
                  have d1 := hcc q hql
                  simp only [ivl] at d1
                  clear hcc hFr
                  rw [if_pos hql] at d0
                  generalize xs.getD q 0 = z at d0 d1
                  go_wp2
                  go_roundw
                  case rel => exact ⟨q + 1, by omega, by go_num, HFR.out⟩
                  case measure => simp [intOf]; omega
                · have hql' : ¬ (q : Int) < (xs.length : Int) := by omega
                  rw [if_neg hql] at d0
                  clear hFr
                  go_wp2
                  go_roundw
                  case rel => exact ⟨q + 1, by omega, by go_num, HFR.out⟩
                  case measure => simp [intOf]; omega
              · have hqt' : ¬ (q : Int) < 256 := by omega
                have HX6 := Lib.hid (HX4.out.fr hFr)
                have HR6 := Lib.hid (HR4.out.fr hFr)
                have HC6 := Lib.hid (HC4.out.fr hFr)
                have EOK := Lib.hid (fun (v : World) (f : Fr wr v) => EOK4.out v (Fr.trans hFr f))
                obtain ⟨i0, hi, hz0, hz1, hz2⟩ := info_parts info_intV
                clear hFr HX4 HR4 HC4 EOK4
                go_wp2_with fail
                clear x0 x1 x2 x3
                refine wp_region_lots 85 (fun i => []) (fun _ _ => True) (fun i v u => match i with | 0 => v = .agg #[.int .i64 0, .slice aR 8 cR, .slice aC 5 cC, .slice aM 256 cM] | 1 => v = .bool true | 2 => v = .bool true | 3 => v = .pointer (some ⟨X, 0, none⟩) | 4 => v = .int .i64 0 | 5 => v = .bool true | 6 => v = .bool true | 7 => v = .bool true | 8 => v = .pointer (some ⟨X, 1, none⟩) | 9 => v = .slice aR 8 cR | 10 => ZQ 8 v u | 11 => v = .bool true | 12 => v = .bool true | 13 => v = .bool true | 14 => v = .pointer (some ⟨X, 2, none⟩) | 15 => v = .slice aC 5 cC | 16 => ZQ 5 v u | 17 => v = .bool true | 18 => v = .bool true | _ => v = .bool true) ?mono (by kernel_rfl) (by kernel_rfl) rfl (by kernel_rfl) trivial ?step ?fin
                case mono =>
                  intro i j v u u' hij hsz h hB
                  rcases j with _ | _ | _ | _ | _ | _ | _ | _ | _ | _ | _ | _ | _ | _ | _ | _ | _ | _ | _ | j
                  · exact h
                  · exact h
                  · exact h
                  · exact h
                  · exact h
                  · exact h
                  · exact h
                  · exact h
                  · exact h
                  · exact h
                  · exact h.but hB
                  · exact h
                  · exact h
                  · exact h
                  · exact h
                  · exact h
                  · exact h.but hB
                  · exact h
                  · exact h
                  · exact h
                case step =>
                  intro i o ho
                  rcases i with _ | _ | _ | _ | _ | _ | _ | _ | _ | _ | _ | _ | _ | _ | _ | _ | _ | _ | _ | _ | i
                  · cases ho
                    intro fu act u hW hB hsz hL hdep
                    replace hB := hB [] (fun j hj hd k hk => by
                      cases hk)
                    obtain ⟨ysl, ha, hy⟩ := hL.puts [66, 67, 68, 69, 70, 71, 72, 73, 74, 75, 76, 77, 78, 79, 80, 81, 82, 83, 84, 2] (by kernel_rfl)
                    clear hdep hL hy
                    simp only [List.foldl, List.setIfInBounds_toArray, List.set_cons_succ, List.set_cons_zero] at ha
                    subst ha
                    obtain ⟨_, c0, c1, c2, c3, _, _, _, _⟩ := HX6.out.but hB (by simp)
                    refine wpOp_step rfl (fun K hK => ?_)
                    go_simp
                    exact hK _ _ ⟨_, rfl, (fun h => by cases h), rfl, But.refl _ _, trivial⟩
                  · cases ho
                    intro fu act u hW hB hsz hL hdep
                    replace hB := hB [] (fun j hj hd k hk => by
                      cases hk)
                    have d0 := hdep { on := 0, ground := .data } (by simp) rfl _ rfl
                    obtain ⟨ysl, ha, hy⟩ := hL.puts [66, 67, 68, 69, 70, 71, 72, 73, 74, 75, 76, 77, 78, 79, 80, 81, 82, 83, 84, 2] (by kernel_rfl)
                    have e0 : ysl 66 = _ := (hy 66).symm.trans d0
                    clear hdep hL hy d0
                    simp only [List.foldl, List.setIfInBounds_toArray, List.set_cons_succ, List.set_cons_zero, e0] at ha
                    subst ha
                    clear e0
                    refine wpOp_step rfl (fun K hK => ?_)
                    go_simp
                    refine (EOK.out u (fr_but (L := []) (Below.refl wr.heap.size wr) hB (fun k hk => by cases hk))).mono ?_
                    rintro e u' ⟨rfl, f⟩
                    go_simp
                    exact hK _ _ ⟨_, rfl, (fun h => by cases h), rfl, But.of f, trivial⟩
                  · cases ho
                    intro fu act u hW hB hsz hL hdep
                    replace hB := hB [] (fun j hj hd k hk => by
                      cases hk)
                    have d1 := hdep { on := 1, ground := .data } (by simp) rfl _ rfl
                    obtain ⟨ysl, ha, hy⟩ := hL.puts [66, 67, 68, 69, 70, 71, 72, 73, 74, 75, 76, 77, 78, 79, 80, 81, 82, 83, 84, 2] (by kernel_rfl)
                    have e1 : ysl 67 = _ := (hy 67).symm.trans d1
                    clear hdep hL hy d1
                    simp only [List.foldl, List.setIfInBounds_toArray, List.set_cons_succ, List.set_cons_zero, e1] at ha
                    subst ha
                    clear e1
                    refine wpOp_step rfl (fun K hK => ?_)
                    go_simp
                    exact hK _ _ ⟨_, rfl, (fun h => by cases h), rfl, But.refl _ _, trivial⟩
                  · cases ho
                    intro fu act u hW hB hsz hL hdep
                    replace hB := hB [] (fun j hj hd k hk => by
                      cases hk)
                    have d2 := hdep { on := 2, ground := .guard } (by simp) rfl _ rfl
                    obtain ⟨ysl, ha, hy⟩ := hL.puts [66, 67, 68, 69, 70, 71, 72, 73, 74, 75, 76, 77, 78, 79, 80, 81, 82, 83, 84, 2] (by kernel_rfl)
                    have e2 : ysl 68 = _ := (hy 68).symm.trans d2
                    clear hdep hL hy d2
                    simp only [List.foldl, List.setIfInBounds_toArray, List.set_cons_succ, List.set_cons_zero, e2] at ha
                    subst ha
                    clear e2
                    refine wpOp_step rfl (fun K hK => ?_)
                    go_simp
                    exact hK _ _ ⟨_, rfl, (fun h => by cases h), rfl, But.refl _ _, trivial⟩
                  · cases ho
                    intro fu act u hW hB hsz hL hdep
                    replace hB := hB [] (fun j hj hd k hk => by
                      cases hk)
                    have d2 := hdep { on := 2, ground := .guard } (by simp) rfl _ rfl
                    have d3 := hdep { on := 3, ground := .data } (by simp) rfl _ rfl
                    obtain ⟨ysl, ha, hy⟩ := hL.puts [66, 67, 68, 69, 70, 71, 72, 73, 74, 75, 76, 77, 78, 79, 80, 81, 82, 83, 84, 2] (by kernel_rfl)
                    have e2 : ysl 68 = _ := (hy 68).symm.trans d2
                    have e3 : ysl 69 = _ := (hy 69).symm.trans d3
                    clear hdep hL hy d2 d3
                    simp only [List.foldl, List.setIfInBounds_toArray, List.set_cons_succ, List.set_cons_zero, e2, e3] at ha
                    subst ha
                    clear e2 e3
                    obtain ⟨_, c0, c1, c2, c3, _, _, _, _⟩ := HX6.out.but hB (by simp)
                    refine wpOp_step rfl (fun K hK => ?_)
                    go_simp
                    exact hK _ _ ⟨_, rfl, (fun h => by cases h), rfl, But.refl _ _, trivial⟩
                  · cases ho
                    intro fu act u hW hB hsz hL hdep
                    replace hB := hB [] (fun j hj hd k hk => by
                      cases hk)
                    have d2 := hdep { on := 2, ground := .guard } (by simp) rfl _ rfl
                    have d4 := hdep { on := 4, ground := .data } (by simp) rfl _ rfl
                    obtain ⟨ysl, ha, hy⟩ := hL.puts [66, 67, 68, 69, 70, 71, 72, 73, 74, 75, 76, 77, 78, 79, 80, 81, 82, 83, 84, 2] (by kernel_rfl)
                    have e2 : ysl 68 = _ := (hy 68).symm.trans d2
                    have e4 : ysl 70 = _ := (hy 70).symm.trans d4
                    clear hdep hL hy d2 d4
                    simp only [List.foldl, List.setIfInBounds_toArray, List.set_cons_succ, List.set_cons_zero, e2, e4] at ha
                    subst ha
                    clear e2 e4
                    refine wpOp_step rfl (fun K hK => ?_)
                    go_simp
                    exact hK _ _ ⟨_, rfl, (fun h => by cases h), rfl, But.refl _ _, trivial⟩
                  · cases ho
                    intro fu act u hW hB hsz hL hdep
                    replace hB := hB [] (fun j hj hd k hk => by
                      cases hk)
                    have d2 := hdep { on := 2, ground := .data } (by simp) rfl _ rfl
                    have d5 := hdep { on := 5, ground := .data } (by simp) rfl _ rfl
                    obtain ⟨ysl, ha, hy⟩ := hL.puts [66, 67, 68, 69, 70, 71, 72, 73, 74, 75, 76, 77, 78, 79, 80, 81, 82, 83, 84, 2] (by kernel_rfl)
                    have e2 : ysl 68 = _ := (hy 68).symm.trans d2
                    have e5 : ysl 71 = _ := (hy 71).symm.trans d5
                    clear hdep hL hy d2 d5
                    simp only [List.foldl, List.setIfInBounds_toArray, List.set_cons_succ, List.set_cons_zero, e2, e5] at ha
                    subst ha
                    clear e2 e5
                    refine wpOp_step rfl (fun K hK => ?_)
                    go_simp
                    exact hK _ _ ⟨_, rfl, (fun h => by cases h), rfl, But.refl _ _, trivial⟩
                  · cases ho
                    intro fu act u hW hB hsz hL hdep
                    replace hB := hB [] (fun j hj hd k hk => by
                      cases hk)
                    have d6 := hdep { on := 6, ground := .data } (by simp) rfl _ rfl
                    obtain ⟨ysl, ha, hy⟩ := hL.puts [66, 67, 68, 69, 70, 71, 72, 73, 74, 75, 76, 77, 78, 79, 80, 81, 82, 83, 84, 2] (by kernel_rfl)
                    have e6 : ysl 72 = _ := (hy 72).symm.trans d6
                    clear hdep hL hy d6
                    simp only [List.foldl, List.setIfInBounds_toArray, List.set_cons_succ, List.set_cons_zero, e6] at ha
                    subst ha
                    clear e6
                    refine wpOp_step rfl (fun K hK => ?_)
                    go_simp
                    exact hK _ _ ⟨_, rfl, (fun h => by cases h), rfl, But.refl _ _, trivial⟩
                  · cases ho
                    intro fu act u hW hB hsz hL hdep
                    replace hB := hB [] (fun j hj hd k hk => by
                      cases hk)
                    have d7 := hdep { on := 7, ground := .guard } (by simp) rfl _ rfl
                    obtain ⟨ysl, ha, hy⟩ := hL.puts [66, 67, 68, 69, 70, 71, 72, 73, 74, 75, 76, 77, 78, 79, 80, 81, 82, 83, 84, 2] (by kernel_rfl)
                    have e7 : ysl 73 = _ := (hy 73).symm.trans d7
                    clear hdep hL hy d7
                    simp only [List.foldl, List.setIfInBounds_toArray, List.set_cons_succ, List.set_cons_zero, e7] at ha
                    subst ha
                    clear e7
                    refine wpOp_step rfl (fun K hK => ?_)
                    go_simp
                    exact hK _ _ ⟨_, rfl, (fun h => by cases h), rfl, But.refl _ _, trivial⟩
                  · cases ho
                    intro fu act u hW hB hsz hL hdep
                    replace hB := hB [] (fun j hj hd k hk => by
                      cases hk)
                    have d7 := hdep { on := 7, ground := .guard } (by simp) rfl _ rfl
                    have d8 := hdep { on := 8, ground := .data } (by simp) rfl _ rfl
                    obtain ⟨ysl, ha, hy⟩ := hL.puts [66, 67, 68, 69, 70, 71, 72, 73, 74, 75, 76, 77, 78, 79, 80, 81, 82, 83, 84, 2] (by kernel_rfl)
                    have e7 : ysl 73 = _ := (hy 73).symm.trans d7
                    have e8 : ysl 74 = _ := (hy 74).symm.trans d8
                    clear hdep hL hy d7 d8
                    simp only [List.foldl, List.setIfInBounds_toArray, List.set_cons_succ, List.set_cons_zero, e7, e8] at ha
                    subst ha
                    clear e7 e8
                    obtain ⟨_, c0, c1, c2, c3, _, _, _, _⟩ := HX6.out.but hB (by simp)
                    refine wpOp_step rfl (fun K hK => ?_)
                    go_simp
                    exact hK _ _ ⟨_, rfl, (fun h => by cases h), rfl, But.refl _ _, trivial⟩
                  · cases ho
                    intro fu act u hW hB hsz hL hdep
                    replace hB := hB [] (fun j hj hd k hk => by
                      cases hk)
                    have d7 := hdep { on := 7, ground := .guard } (by simp) rfl _ rfl
                    obtain ⟨ysl, ha, hy⟩ := hL.puts [66, 67, 68, 69, 70, 71, 72, 73, 74, 75, 76, 77, 78, 79, 80, 81, 82, 83, 84, 2] (by kernel_rfl)
                    have e7 : ysl 73 = _ := (hy 73).symm.trans d7
                    clear hdep hL hy d7
                    simp only [List.foldl, List.setIfInBounds_toArray, List.set_cons_succ, List.set_cons_zero, e7] at ha
                    subst ha
                    clear e7
                    refine wpOp_step rfl (fun K hK => ?_)
                    go_simp
                    refine wp_make_new _ _ 22 rfl 3 i0 (.int .i64 0) Try.underlying22 hi hz0 hz1 hz2 8 rfl rfl (by omega) ?_
                    intro u' hown hg1
                    exact hK _ _ ⟨_, rfl, (fun h => by cases h), ⟨_, rfl, ro_made hown⟩, But.of (grown_fr hg1), trivial⟩
                  · cases ho
                    intro fu act u hW hB hsz hL hdep
                    replace hB := hB [] (fun j hj hd k hk => by
                      cases hk)
                    have d7 := hdep { on := 7, ground := .chain } (by simp) rfl _ rfl
                    have d9 := hdep { on := 9, ground := .data } (by simp) rfl _ rfl
                    have d10 := hdep { on := 10, ground := .data } (by simp) rfl _ rfl
                    obtain ⟨ysl, ha, hy⟩ := hL.puts [66, 67, 68, 69, 70, 71, 72, 73, 74, 75, 76, 77, 78, 79, 80, 81, 82, 83, 84, 2] (by kernel_rfl)
                    have e7 : ysl 73 = _ := (hy 73).symm.trans d7
                    have e9 : ysl 75 = _ := (hy 75).symm.trans d9
                    obtain ⟨gz, h10, Z2⟩ := d10
                    have e10 : ysl 76 = .slice (some ⟨gz, 0, none⟩) 8 8 := (hy 76).symm.trans h10
                    clear hdep hL hy d7 d9 h10
                    simp only [List.foldl, List.setIfInBounds_toArray, List.set_cons_succ, List.set_cons_zero, e7, e9, e10] at ha
                    subst ha
                    clear e7 e9 e10
                    refine wpOp_step rfl (fun K hK => ?_)
                    go_simp
                    refine (laws_haIntso u 8 (fun i => 0) _ _ _ _ (HR6.out.fr (fr_but (L := []) (Below.refl wr.heap.size wr) hB (fun k hk => by cases hk))) (by have h := Z2.src; rw [zeros_len] at h; exact fun h0 => by obtain ⟨g, o, e, hl, hc⟩ := h h0; exact ⟨g, o, e, hl, fun i hi => by rw [hc i hi]; simp only [ivl, zeros_at]⟩) (by omega)).mono ?_
                    rintro e u' ⟨rfl, n', hn'⟩
                    go_simp
                    exact hK _ _ ⟨_, rfl, (fun h => by cases h), rfl, by rw [← hn']; exact (But.refl _ _).drewN _, trivial⟩
                  · cases ho
                    intro fu act u hW hB hsz hL hdep
                    replace hB := hB [] (fun j hj hd k hk => by
                      cases hk)
                    have d7 := hdep { on := 7, ground := .data } (by simp) rfl _ rfl
                    have d11 := hdep { on := 11, ground := .data } (by simp) rfl _ rfl
                    obtain ⟨ysl, ha, hy⟩ := hL.puts [66, 67, 68, 69, 70, 71, 72, 73, 74, 75, 76, 77, 78, 79, 80, 81, 82, 83, 84, 2] (by kernel_rfl)
                    have e7 : ysl 73 = _ := (hy 73).symm.trans d7
                    have e11 : ysl 77 = _ := (hy 77).symm.trans d11
                    clear hdep hL hy d7 d11
                    simp only [List.foldl, List.setIfInBounds_toArray, List.set_cons_succ, List.set_cons_zero, e7, e11] at ha
                    subst ha
                    clear e7 e11
                    refine wpOp_step rfl (fun K hK => ?_)
                    go_simp
                    exact hK _ _ ⟨_, rfl, (fun h => by cases h), rfl, But.refl _ _, trivial⟩
                  · cases ho
                    intro fu act u hW hB hsz hL hdep
                    replace hB := hB [] (fun j hj hd k hk => by
                      cases hk)
                    have d12 := hdep { on := 12, ground := .data } (by simp) rfl _ rfl
                    obtain ⟨ysl, ha, hy⟩ := hL.puts [66, 67, 68, 69, 70, 71, 72, 73, 74, 75, 76, 77, 78, 79, 80, 81, 82, 83, 84, 2] (by kernel_rfl)
                    have e12 : ysl 78 = _ := (hy 78).symm.trans d12
                    clear hdep hL hy d12
                    simp only [List.foldl, List.setIfInBounds_toArray, List.set_cons_succ, List.set_cons_zero, e12] at ha
                    subst ha
                    clear e12
                    refine wpOp_step rfl (fun K hK => ?_)
                    go_simp
                    exact hK _ _ ⟨_, rfl, (fun h => by cases h), rfl, But.refl _ _, trivial⟩
                  · cases ho
                    intro fu act u hW hB hsz hL hdep
                    replace hB := hB [] (fun j hj hd k hk => by
                      cases hk)
                    have d13 := hdep { on := 13, ground := .guard } (by simp) rfl _ rfl
                    obtain ⟨ysl, ha, hy⟩ := hL.puts [66, 67, 68, 69, 70, 71, 72, 73, 74, 75, 76, 77, 78, 79, 80, 81, 82, 83, 84, 2] (by kernel_rfl)
                    have e13 : ysl 79 = _ := (hy 79).symm.trans d13
                    clear hdep hL hy d13
                    simp only [List.foldl, List.setIfInBounds_toArray, List.set_cons_succ, List.set_cons_zero, e13] at ha
                    subst ha
                    clear e13
                    refine wpOp_step rfl (fun K hK => ?_)
                    go_simp
                    exact hK _ _ ⟨_, rfl, (fun h => by cases h), rfl, But.refl _ _, trivial⟩
                  · cases ho
                    intro fu act u hW hB hsz hL hdep
                    replace hB := hB [] (fun j hj hd k hk => by
                      cases hk)
                    have d13 := hdep { on := 13, ground := .guard } (by simp) rfl _ rfl
                    have d14 := hdep { on := 14, ground := .data } (by simp) rfl _ rfl
                    obtain ⟨ysl, ha, hy⟩ := hL.puts [66, 67, 68, 69, 70, 71, 72, 73, 74, 75, 76, 77, 78, 79, 80, 81, 82, 83, 84, 2] (by kernel_rfl)
                    have e13 : ysl 79 = _ := (hy 79).symm.trans d13
                    have e14 : ysl 80 = _ := (hy 80).symm.trans d14
                    clear hdep hL hy d13 d14
                    simp only [List.foldl, List.setIfInBounds_toArray, List.set_cons_succ, List.set_cons_zero, e13, e14] at ha
                    subst ha
                    clear e13 e14
                    obtain ⟨_, c0, c1, c2, c3, _, _, _, _⟩ := HX6.out.but hB (by simp)
                    refine wpOp_step rfl (fun K hK => ?_)
                    go_simp
                    exact hK _ _ ⟨_, rfl, (fun h => by cases h), rfl, But.refl _ _, trivial⟩
                  · cases ho
                    intro fu act u hW hB hsz hL hdep
                    replace hB := hB [] (fun j hj hd k hk => by
                      cases hk)
                    have d13 := hdep { on := 13, ground := .guard } (by simp) rfl _ rfl
                    obtain ⟨ysl, ha, hy⟩ := hL.puts [66, 67, 68, 69, 70, 71, 72, 73, 74, 75, 76, 77, 78, 79, 80, 81, 82, 83, 84, 2] (by kernel_rfl)
                    have e13 : ysl 79 = _ := (hy 79).symm.trans d13
                    clear hdep hL hy d13
                    simp only [List.foldl, List.setIfInBounds_toArray, List.set_cons_succ, List.set_cons_zero, e13] at ha
                    subst ha
                    clear e13
                    refine wpOp_step rfl (fun K hK => ?_)
                    go_simp
                    refine wp_make_new _ _ 22 rfl 3 i0 (.int .i64 0) Try.underlying22 hi hz0 hz1 hz2 5 rfl rfl (by omega) ?_
                    intro u' hown hg1
                    exact hK _ _ ⟨_, rfl, (fun h => by cases h), ⟨_, rfl, ro_made hown⟩, But.of (grown_fr hg1), trivial⟩
                  · cases ho
                    intro fu act u hW hB hsz hL hdep
                    replace hB := hB [] (fun j hj hd k hk => by
                      cases hk)
                    have d13 := hdep { on := 13, ground := .chain } (by simp) rfl _ rfl
                    have d15 := hdep { on := 15, ground := .data } (by simp) rfl _ rfl
                    have d16 := hdep { on := 16, ground := .data } (by simp) rfl _ rfl
                    obtain ⟨ysl, ha, hy⟩ := hL.puts [66, 67, 68, 69, 70, 71, 72, 73, 74, 75, 76, 77, 78, 79, 80, 81, 82, 83, 84, 2] (by kernel_rfl)
                    have e13 : ysl 79 = _ := (hy 79).symm.trans d13
                    have e15 : ysl 81 = _ := (hy 81).symm.trans d15
                    obtain ⟨gz, h16, Z2⟩ := d16
                    have e16 : ysl 82 = .slice (some ⟨gz, 0, none⟩) 5 5 := (hy 82).symm.trans h16
                    clear hdep hL hy d13 d15 h16
                    simp only [List.foldl, List.setIfInBounds_toArray, List.set_cons_succ, List.set_cons_zero, e13, e15, e16] at ha
                    subst ha
                    clear e13 e15 e16
                    refine wpOp_step rfl (fun K hK => ?_)
                    go_simp
                    refine (laws_haIntso u 5 (fun i => 0) _ _ _ _ (HC6.out.fr (fr_but (L := []) (Below.refl wr.heap.size wr) hB (fun k hk => by cases hk))) (by have h := Z2.src; rw [zeros_len] at h; exact fun h0 => by obtain ⟨g, o, e, hl, hc⟩ := h h0; exact ⟨g, o, e, hl, fun i hi => by rw [hc i hi]; simp only [ivl, zeros_at]⟩) (by omega)).mono ?_
                    rintro e u' ⟨rfl, n', hn'⟩
                    go_simp
                    exact hK _ _ ⟨_, rfl, (fun h => by cases h), rfl, by rw [← hn']; exact (But.refl _ _).drewN _, trivial⟩
                  · cases ho
                    intro fu act u hW hB hsz hL hdep
                    replace hB := hB [] (fun j hj hd k hk => by
                      cases hk)
                    have d13 := hdep { on := 13, ground := .data } (by simp) rfl _ rfl
                    have d17 := hdep { on := 17, ground := .data } (by simp) rfl _ rfl
                    obtain ⟨ysl, ha, hy⟩ := hL.puts [66, 67, 68, 69, 70, 71, 72, 73, 74, 75, 76, 77, 78, 79, 80, 81, 82, 83, 84, 2] (by kernel_rfl)
                    have e13 : ysl 79 = _ := (hy 79).symm.trans d13
                    have e17 : ysl 83 = _ := (hy 83).symm.trans d17
                    clear hdep hL hy d13 d17
                    simp only [List.foldl, List.setIfInBounds_toArray, List.set_cons_succ, List.set_cons_zero, e13, e17] at ha
                    subst ha
                    clear e13 e17
                    refine wpOp_step rfl (fun K hK => ?_)
                    go_simp
                    exact hK _ _ ⟨_, rfl, (fun h => by cases h), rfl, But.refl _ _, trivial⟩
                  · cases ho
                    intro fu act u hW hB hsz hL hdep
                    replace hB := hB [] (fun j hj hd k hk => by
                      cases hk)
                    have d18 := hdep { on := 18, ground := .data } (by simp) rfl _ rfl
                    obtain ⟨ysl, ha, hy⟩ := hL.puts [66, 67, 68, 69, 70, 71, 72, 73, 74, 75, 76, 77, 78, 79, 80, 81, 82, 83, 84, 2] (by kernel_rfl)
                    have e18 : ysl 84 = _ := (hy 84).symm.trans d18
                    clear hdep hL hy d18
                    simp only [List.foldl, List.setIfInBounds_toArray, List.set_cons_succ, List.set_cons_zero, e18] at ha
                    subst ha
                    clear e18
                    refine wpOp_step rfl (fun K hK => ?_)
                    go_simp
                    exact hK _ _ ⟨_, rfl, (fun h => by cases h), rfl, But.refl _ _, trivial⟩
                  · exact absurd ho (by simp)
                case fin =>
                  intro act u hW hsz hB hL hsf
                  replace hB := hB [] (fun j k hk => by
                    cases hk)
                  have d19 := hsf 19 _ rfl
                  obtain ⟨ysl, ha, hy⟩ := hL.puts [66, 67, 68, 69, 70, 71, 72, 73, 74, 75, 76, 77, 78, 79, 80, 81, 82, 83, 84, 2] (by kernel_rfl)
                  have e19 : ysl 2 = _ := (hy 2).symm.trans d19
                  clear hL hsf hy d19
                  simp only [List.foldl, List.setIfInBounds_toArray, List.set_cons_succ, List.set_cons_zero, e19] at ha
                  subst ha
                  clear e19
                  have fB : Fr wr u := (fr_but (L := []) (Below.refl wr.heap.size wr) hB (fun k hk => by cases hk))
                  go_wp2
                  go_ret
                  exact ⟨rfl, Fr.trans HF4.out (Fr.trans HFR.out fB)⟩
  · go_wp2
    go_ret
    exact ⟨rfl, Below.refl _ _⟩

set_option maxRecDepth 100000 in
theorem lifted (os : Os) (started : os.Started) (H : Type) (enc : TypeId × Value → H) :
    ReturnsInHanded {} Try.checked os 5 .any (Rows.fnPlnNewSpec.pre6 enc Try.prog Try.f5 Rows.fnPlnNewRow.domain false) (Rows.fnPlnNewSpec.post enc Try.prog Try.f5 false true false false) := by
  refine returnsInHanded_of_change (C := Try.checked) own started (by kernel_rfl) Try.func5
    (ChangeSpec.witness6 (enc := enc) (C := Try.checked) false ⟨#[], #[.slice none 0 0], []⟩ 8 (by kernel_rfl) (by kernel_rfl) (by kernel_rfl) (by kernel_rfl)) ?_
  intro W base args ds gs before hval0 hW hcnd _
  have hval : ∀ (j : Nat) t v, Try.f5.params[j]? = some t → args[j]? = some v → Value.okWide Try.prog W .any base t v := hval0
  have hW' := hW
  obtain ⟨p, q, hA0, hV, rfl, hfz, hnd⟩ := hW
  have hA : DataW.TrodAll enc Try.prog W 0 (fun _ => true) true Try.f5.params.toList args.toList ds p := hA0
  rw [Try.params5] at hA hval
  obtain ⟨v0, vs0, d0, ds0, p0, q0, hargs, rfl, rfl, h0, r0⟩ := trodAll_cons hA
  obtain ⟨rfl, rfl, rfl⟩ := trodAll_nil r0
  obtain rfl : args = #[v0] := by cases args; simp_all
  obtain ⟨rfl, rfl⟩ := trodVars_none hV
  obtain ⟨a0, len0, cap0, rfl⟩ := okWide_slice Try.underlying32 (hval 0 32 v0 rfl rfl)
  have k0 := h0
  have lt0 : ∀ x ∈ p0, x.block < W.heap.size := by obtain ⟨m, hm⟩ := k0; exact DataW.trod_lt m _ _ _ hm
  obtain ⟨z0, w0⟩ : ∃ zs, IsRow .u8 W a0 len0 cap0 zs := by
    obtain ⟨fuel, hf⟩ := h0
    rcases open_ints Try.underlying32 Try.underlying5 (by kernel_rfl) hf with ⟨hcs, _⟩ | ⟨x, l, c, zs, hcs, _, hl, hm, hz, _, hcell, hwz⟩
    · simp [Value.cells] at hcs
      obtain ⟨rfl, rfl, rfl⟩ := hcs
      exact ⟨[], .inl ⟨rfl, rfl, rfl, rfl⟩⟩
    · simp [Value.cells] at hcs
      obtain ⟨rfl, rfl, rfl⟩ := hcs
      exact ⟨zs, .inr ⟨_, rfl, hl, hm, by simpa using hz, hcell, hwz⟩⟩
  clear hA0 hval0
  refine (walk a0 len0 cap0 z0 W w0).mono fun e W' ⟨he, bel⟩ => ?_
  subst he
  exact ⟨_, rfl, _, _, _, [], _, [], hW', trodAll_mk1 (shut_bool Try.underlying4 _), (trodAll_cons_mk (Below.trod laidOut (by kernel_rfl) (of_decide_eq_true (by kernel_rfl)) k0 bel lt0) trodAll_mk0), rfl, bel.frame _, fun h => by cases h⟩

theorem over : Rows.fnPlnNewRow.holds Try.pinned (OpenSpec.ofChange Rows.fnPlnNewSpec) :=
  OpenClaim.holds_of_wide 5 Try.f5 rfl rfl rfl rfl rfl rfl rfl ⟨rfl, rfl, rfl, rfl, rfl⟩ rfl rfl rfl rfl rfl (by kernel_rfl) Try.func5 (by kernel_rfl)
    (of_decide_eq_true (by kernel_rfl)) (by unfold Func.isWrapper; first | (rw [if_pos (by decide +kernel)]; kernel_rfl) | (rw [if_neg (by decide +kernel)]; exact ⟨rfl, rfl⟩))
    (fun os started H enc _ => lifted os started H enc)

/-- THE STATEMENT. -/
theorem proved : Rows.FnPlnNewSaid := over
#print axioms proved
end Go.Proofs.Ytmkinbnopgfljaa.fnPlnNew
