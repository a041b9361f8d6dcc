/- For every machine, ringing or not, PlnStep of the program returns what PlnStep of the model returns, the machine and what was done; it writes into no argument, and its answer owns its memory (no condition; the two tables read as the program's text lays them, which the card ties). -/
import Derived.Test.YtbjapncfgancoaaDoorCards
import Derived.Test.YtbjapncfgancoaaDoorTie
import Derived.Test.YtbjapncfgancoaaDoorLaid
import Derived.Test.YtbjapncfgancoaaDoorOpenPln
import Derived.Test.YtbjapncfgancoaaDoorPe3
import Derived.Test.YtbjapncfgancoaaDoorRegion4
import Derived.Test.YtbjapncfgancoaaDoorPh
import Derived.Test.YtbjapncfgancoaaDoorPres
import Derived.WalkKit
import Derived.ProofKit
import Derived.OpenShut
import Derived.ShutString
import Derived.SliceStrings
import Derived.ChangeOld
import Derived.Below
import Derived.SevenTiedAt
namespace Go.Proofs.YtbjapncfgancoaaDoor.fnExactPlnStep
open Go.ChangeShapes Go.WideShapes Go.ChangeAt Go.RowKit
set_option linter.unusedVariables false

set_option maxRecDepth 8000 in
set_option maxHeartbeats 4000000 in
theorem walk (s0 : St) (aR0 aC0 aM0 : Option Addr) (cR0 cC0 cM0 : Nat) (x1 : Bool) (w : World) (ht : Tabs w) (h0 : SrcS w s0 aR0 aC0 aM0) (m0 : Big s0) :
    Calls Tryd.prog 3 #[.agg #[.int .i64 s0.pc, .slice aR0 s0.R.length cR0, .slice aC0 s0.C.length cC0, .slice aM0 s0.M.length cM0], .bool x1] w fun e w' => e = .returned (.bool true) ∧ Below w.heap.size w w' := by
  have HTB := Lib.hid ht
  clear ht
  have hb1 := m0.R
  have hb2 := m0.C
  have hb3 := m0.M
  have HS0 := Lib.hid h0
  have HF0 := Lib.hid (Fr.alloc w (.cells #[.int .i64 s0.pc, .slice aR0 s0.R.length cR0, .slice aC0 s0.C.length cC0, .slice aM0 s0.M.length cM0] 24))
  have HA0 := Lib.hid (Box4.new w (.int .i64 s0.pc) (.slice aR0 s0.R.length cR0) (.slice aC0 s0.C.length cC0) (.slice aM0 s0.M.length cM0) 24 _ rfl)
  clear h0 m0
  go_enter Tryd.func3, Tryd.ntmps3
  go_wp2_with fail
  generalize (w.alloc (.cells #[.int .i64 s0.pc, .slice aR0 s0.R.length cR0, .slice aC0 s0.C.length cC0, .slice aM0 s0.M.length cM0] 24)) = u0 at *
  refine (laws_szPln s0 _ _ _ _ _ _ 1048576 u0 hb1 hb2 hb3 (by omega) (by omega)).mono ?_
  rintro e u1 ⟨⟨r, rfl, hr⟩, f1⟩
  rcases hr with ⟨r0, hn⟩ | rfl
  · have hr0 : ¬ r < 0 := by omega
    have F_1 := Lib.hid (HF0.out.trans f1)
    have HA_2 := Lib.hid (HA0.out.fr f1)
    clear HF0 HA0 f1 hb1 hb2 hb3
    have hw1 := F_1.out.size
    have hwA := HA_2.out.lt
    obtain ⟨⟨t, ev⟩, ht⟩ : ∃ x, stepD s0 x1 = x := ⟨_, rfl⟩
    have HT : Hid (Few20 t) := Lib.hid (by have := few_step s0 x1; rw [ht] at this; exact this)
    have HD := Lib.hid ht
    clear ht
    obtain ⟨_, a0, a1, a2, a3, _, _, _, _⟩ := HA_2.out
    go_wp2_with fail
    refine (laws_toPln s0 _ _ _ _ _ _ _ (HS0.out.fr F_1.out) hn).mono ?_
    rintro e yw ⟨y1, y2, y3, rfl, yV, yb1, yb2, yb3, yl1, yl2, yl3, yf⟩
    clear a0 a1 a2 a3
    have F_3 := Lib.hid (Fr.trans F_1.out yf)
    have HA_3 := Lib.hid (HA_2.out.fr yf)
    clear F_1 HA_2
    have VY_4 := Lib.hid (yV)
    have ys := yf.size
    clear yV yf
    go_wp2_with fail
    refine (spec_step_res HD.out VY_4.out.src hn.few).mono ?_
    rintro e ku ⟨kR, kC, kM, kr, kc, km, rfl, kV, kB, kf⟩
    have kz := kf.size
    clear VY_4
    have F_5 := Lib.hid (Fr.trans F_3.out kf)
    have HA_5 := Lib.hid (HA_3.out.fr kf)
    clear F_3 HA_3
    have VW_6 := Lib.hid (kV)
    clear kV kf
    obtain ⟨_, a0, a1, a2, a3, _, _, _, _⟩ := HA_5.out
    have nA : ¬ w.heap.size = ku.heap.size := by omega
    have nB : ¬ ku.heap.size = w.heap.size := by omega
    have nC : ¬ w.heap.size = ku.heap.size + 1 := by omega
    go_wp2_with fail
    clear a0 a1 a2 a3 nA nB nC
    have kG : Fr ku ((ku.alloc (.cells #[.int .i64 t.pc, .slice kR t.R.length kr, .slice kC t.C.length kc, .slice kM t.M.length km] 26)).alloc (.cells #[.int .i64 ev.pc, .int .i64 ev.w, .int .i64 ev.why, .int .i64 ev.d, .int .i64 ev.v, .int .i64 ev.ad, .int .i64 ev.dt] 28)) := by
      (repeat' first | (with_reducible exact Below.refl _ _) | (with_reducible assumption) | ((with_reducible refine Below.setCell ?_ ?hb _); (case hb => first | exact Nat.le_refl _ | (simp; done) | (simp; omega) | omega)) | ((with_reducible refine Below.alloc ?_ ?hb _); (case hb => first | exact Nat.le_refl _ | (simp; done) | (simp; omega) | omega)) | (with_reducible refine Below.drew ?_))
    have F_7 := Lib.hid (Fr.trans F_5.out kG)
    have HA_7 := Lib.hid (HA_5.out.fr kG)
    have VW_7 := Lib.hid (VW_6.out.fr kG)
    clear F_5 HA_5 VW_6
    have HW_8 := Lib.hid ((Box4.new ku (.int .i64 t.pc) (.slice kR t.R.length kr) (.slice kC t.C.length kc) (.slice kM t.M.length km) 26 _ rfl).alloc (.cells #[.int .i64 ev.pc, .int .i64 ev.w, .int .i64 ev.why, .int .i64 ev.d, .int .i64 ev.v, .int .i64 ev.ad, .int .i64 ev.dt] 28))
    have EW_9 := Lib.hid (Box7.new (ku.alloc (.cells #[.int .i64 t.pc, .slice kR t.R.length kr, .slice kC t.C.length kc, .slice kM t.M.length km] 26)) ev 28 (ku.heap.size + 1) (by simp))
    have ks : ku.heap.size + 1 < ((ku.alloc (.cells #[.int .i64 t.pc, .slice kR t.R.length kr, .slice kC t.C.length kc, .slice kM t.M.length km] 26)).alloc (.cells #[.int .i64 ev.pc, .int .i64 ev.w, .int .i64 ev.why, .int .i64 ev.d, .int .i64 ev.v, .int .i64 ev.ad, .int .i64 ev.dt] 28)).heap.size := by simp
    generalize ((ku.alloc (.cells #[.int .i64 t.pc, .slice kR t.R.length kr, .slice kC t.C.length kc, .slice kM t.M.length km] 26)).alloc (.cells #[.int .i64 ev.pc, .int .i64 ev.w, .int .i64 ev.why, .int .i64 ev.d, .int .i64 ev.v, .int .i64 ev.ad, .int .i64 ev.dt] 28)) = kv at *
    clear kG
    refine (laws_toPln s0 _ _ _ _ _ _ _ (HS0.out.fr F_7.out) hn).mono ?_
    rintro e qw ⟨q1, q2, q3, rfl, qV, qb1, qb2, qb3, ql1, ql2, ql3, qf⟩
    have F_10 := Lib.hid (Fr.trans F_7.out qf)
    have HA_10 := Lib.hid (HA_7.out.fr qf)
    have VW_10 := Lib.hid (VW_7.out.fr qf)
    have HW_10 := Lib.hid (HW_8.out.fr qf)
    have EW_10 := Lib.hid (EW_9.out.fr qf)
    clear F_7 HA_7 VW_7 HW_8 EW_9
    have HV_11 := Lib.hid (qV)
    have qs := qf.size
    clear qV qf
    go_wp2_with fail
    have F_12 := Lib.hid (Fr.trans F_10.out (Fr.alloc qw (.cells #[.int .i64 s0.pc, .slice (some ⟨q1, 0, none⟩) s0.R.length s0.R.length, .slice (some ⟨q2, 0, none⟩) s0.C.length s0.C.length, .slice (some ⟨q3, 0, none⟩) s0.M.length s0.M.length] 26)))
    have HA_12 := Lib.hid (HA_10.out.fr (Fr.alloc qw (.cells #[.int .i64 s0.pc, .slice (some ⟨q1, 0, none⟩) s0.R.length s0.R.length, .slice (some ⟨q2, 0, none⟩) s0.C.length s0.C.length, .slice (some ⟨q3, 0, none⟩) s0.M.length s0.M.length] 26)))
    have VW_12 := Lib.hid (VW_10.out.fr (Fr.alloc qw (.cells #[.int .i64 s0.pc, .slice (some ⟨q1, 0, none⟩) s0.R.length s0.R.length, .slice (some ⟨q2, 0, none⟩) s0.C.length s0.C.length, .slice (some ⟨q3, 0, none⟩) s0.M.length s0.M.length] 26)))
    have HW_12 := Lib.hid (HW_10.out.fr (Fr.alloc qw (.cells #[.int .i64 s0.pc, .slice (some ⟨q1, 0, none⟩) s0.R.length s0.R.length, .slice (some ⟨q2, 0, none⟩) s0.C.length s0.C.length, .slice (some ⟨q3, 0, none⟩) s0.M.length s0.M.length] 26)))
    have EW_12 := Lib.hid (EW_10.out.fr (Fr.alloc qw (.cells #[.int .i64 s0.pc, .slice (some ⟨q1, 0, none⟩) s0.R.length s0.R.length, .slice (some ⟨q2, 0, none⟩) s0.C.length s0.C.length, .slice (some ⟨q3, 0, none⟩) s0.M.length s0.M.length] 26)))
    have HV_12 := Lib.hid (HV_11.out.fr (Fr.alloc qw (.cells #[.int .i64 s0.pc, .slice (some ⟨q1, 0, none⟩) s0.R.length s0.R.length, .slice (some ⟨q2, 0, none⟩) s0.C.length s0.C.length, .slice (some ⟨q3, 0, none⟩) s0.M.length s0.M.length] 26)))
    clear F_10 HA_10 VW_10 HW_10 EW_10 HV_11
    have HX_13 := Lib.hid (Box4.new qw (.int .i64 s0.pc) (.slice (some ⟨q1, 0, none⟩) s0.R.length s0.R.length) (.slice (some ⟨q2, 0, none⟩) s0.C.length s0.C.length) (.slice (some ⟨q3, 0, none⟩) s0.M.length s0.M.length) 26 _ rfl)
    have v2s : qw.heap.size < (qw.alloc (.cells #[.int .i64 s0.pc, .slice (some ⟨q1, 0, none⟩) s0.R.length s0.R.length, .slice (some ⟨q2, 0, none⟩) s0.C.length s0.C.length, .slice (some ⟨q3, 0, none⟩) s0.M.length s0.M.length] 26)).heap.size := by simp
    generalize (qw.alloc (.cells #[.int .i64 s0.pc, .slice (some ⟨q1, 0, none⟩) s0.R.length s0.R.length, .slice (some ⟨q2, 0, none⟩) s0.C.length s0.C.length, .slice (some ⟨q3, 0, none⟩) s0.M.length s0.M.length] 26)) = v2 at *
    refine (impl_step_res HD.out HV_12.out.src hn.few (HTB.out.fr F_12.out)).mono ?_
    rintro e gu ⟨gR, gC, gM, gr, gc, gm, rfl, gV, gB, gf⟩
    have gz := gf.size
    have F_14 := Lib.hid (Fr.trans F_12.out gf)
    have HA_14 := Lib.hid (HA_12.out.fr gf)
    have VW_14 := Lib.hid (VW_12.out.fr gf)
    have HW_14 := Lib.hid (HW_12.out.fr gf)
    have EW_14 := Lib.hid (EW_12.out.fr gf)
    have HV_14 := Lib.hid (HV_12.out.fr gf)
    have HX_14 := Lib.hid (HX_13.out.fr gf)
    clear F_12 HA_12 VW_12 HW_12 EW_12 HV_12 HX_13
    have VG_15 := Lib.hid (gV)
    clear gV gf
    obtain ⟨_, b0, b1, b2, b3, _, _, _, _⟩ := HW_14.out
    have nA : ¬ ku.heap.size = gu.heap.size := by omega
    have nB : ¬ gu.heap.size = ku.heap.size := by omega
    have nC : ¬ ku.heap.size = gu.heap.size + 1 := by omega
    have nD : ¬ ku.heap.size + 1 = gu.heap.size := by omega
    have nE : ¬ ku.heap.size + 1 = gu.heap.size + 1 := by omega
    go_wp2_with fail
    clear b0 b1 b2 b3 nA nB nC nD nE
    have gG : Fr gu ((gu.alloc (.cells #[.int .i64 t.pc, .slice gR t.R.length gr, .slice gC t.C.length gc, .slice gM t.M.length gm] 26)).alloc (.cells #[.int .i64 ev.pc, .int .i64 ev.w, .int .i64 ev.why, .int .i64 ev.d, .int .i64 ev.v, .int .i64 ev.ad, .int .i64 ev.dt] 28)) := by
      (repeat' first | (with_reducible exact Below.refl _ _) | (with_reducible assumption) | ((with_reducible refine Below.setCell ?_ ?hb _); (case hb => first | exact Nat.le_refl _ | (simp; done) | (simp; omega) | omega)) | ((with_reducible refine Below.alloc ?_ ?hb _); (case hb => first | exact Nat.le_refl _ | (simp; done) | (simp; omega) | omega)) | (with_reducible refine Below.drew ?_))
    have F_16 := Lib.hid (Fr.trans F_14.out gG)
    have HA_16 := Lib.hid (HA_14.out.fr gG)
    have VW_16 := Lib.hid (VW_14.out.fr gG)
    have HW_16 := Lib.hid (HW_14.out.fr gG)
    have EW_16 := Lib.hid (EW_14.out.fr gG)
    have HV_16 := Lib.hid (HV_14.out.fr gG)
    have HX_16 := Lib.hid (HX_14.out.fr gG)
    have VG_16 := Lib.hid (VG_15.out.fr gG)
    clear F_14 HA_14 VW_14 HW_14 EW_14 HV_14 HX_14 VG_15
    have HG_17 := Lib.hid ((Box4.new gu (.int .i64 t.pc) (.slice gR t.R.length gr) (.slice gC t.C.length gc) (.slice gM t.M.length gm) 26 _ rfl).alloc (.cells #[.int .i64 ev.pc, .int .i64 ev.w, .int .i64 ev.why, .int .i64 ev.d, .int .i64 ev.v, .int .i64 ev.ad, .int .i64 ev.dt] 28))
    have EG_18 := Lib.hid (Box7.new (gu.alloc (.cells #[.int .i64 t.pc, .slice gR t.R.length gr, .slice gC t.C.length gc, .slice gM t.M.length gm] 26)) ev 28 (gu.heap.size + 1) (by simp))
    have gs : gu.heap.size + 1 < ((gu.alloc (.cells #[.int .i64 t.pc, .slice gR t.R.length gr, .slice gC t.C.length gc, .slice gM t.M.length gm] 26)).alloc (.cells #[.int .i64 ev.pc, .int .i64 ev.w, .int .i64 ev.why, .int .i64 ev.d, .int .i64 ev.v, .int .i64 ev.ad, .int .i64 ev.dt] 28)).heap.size := by simp
    generalize ((gu.alloc (.cells #[.int .i64 t.pc, .slice gR t.R.length gr, .slice gC t.C.length gc, .slice gM t.M.length gm] 26)).alloc (.cells #[.int .i64 ev.pc, .int .i64 ev.w, .int .i64 ev.why, .int .i64 ev.d, .int .i64 ev.v, .int .i64 ev.ad, .int .i64 ev.dt] 28)) = gv at *
    clear gG
    refine (laws_eqPln_same _ _ _ t _ _ _ _ _ _ _ _ _ _ _ _ VG_16.out VW_16.out HT.out).mono ?_
    rintro e v4 ⟨rfl, v4f⟩
    have F_19 := Lib.hid (Fr.trans F_16.out v4f)
    have HA_19 := Lib.hid (HA_16.out.fr v4f)
    have VW_19 := Lib.hid (VW_16.out.fr v4f)
    have HW_19 := Lib.hid (HW_16.out.fr v4f)
    have EW_19 := Lib.hid (EW_16.out.fr v4f)
    have HV_19 := Lib.hid (HV_16.out.fr v4f)
    have HX_19 := Lib.hid (HX_16.out.fr v4f)
    have VG_19 := Lib.hid (VG_16.out.fr v4f)
    have HG_19 := Lib.hid (HG_17.out.fr v4f)
    have EG_19 := Lib.hid (EG_18.out.fr v4f)
    clear F_16 HA_16 VW_16 HW_16 EW_16 HV_16 HX_16 VG_16 HG_17 EG_18
    have v4s := v4f.size
    clear v4f
    obtain ⟨_, a0, a1, a2, a3, a4, a5, a6, _, _, _, _, _, _, _⟩ := EG_19.out
    obtain ⟨_, b0, b1, b2, b3, b4, b5, b6, _, _, _, _, _, _, _⟩ := EW_19.out
    go_wp2_with fail
    clear a0 a1 a2 a3 a4 a5 a6 b0 b1 b2 b3 b4 b5 b6
    refine (laws_eqPlnEvent_same ev _).mono ?_
    rintro e v4e ⟨rfl, v4g⟩
    have F_20 := Lib.hid (Fr.trans F_19.out v4g)
    have HA_20 := Lib.hid (HA_19.out.fr v4g)
    have VW_20 := Lib.hid (VW_19.out.fr v4g)
    have HW_20 := Lib.hid (HW_19.out.fr v4g)
    have EW_20 := Lib.hid (EW_19.out.fr v4g)
    have HV_20 := Lib.hid (HV_19.out.fr v4g)
    have HX_20 := Lib.hid (HX_19.out.fr v4g)
    have VG_20 := Lib.hid (VG_19.out.fr v4g)
    have HG_20 := Lib.hid (HG_19.out.fr v4g)
    have EG_20 := Lib.hid (EG_19.out.fr v4g)
    clear F_19 HA_19 VW_19 HW_19 EW_19 HV_19 HX_19 VG_19 HG_19 EG_19
    have v4t := v4g.size
    clear v4g
    go_wp2_with fail
    refine wp_region_lots 104 (fun i => []) (fun _ _ => True) (fun i v u => match i with | 0 => v = .agg #[.int .i64 s0.pc, .slice (some ⟨q1, 0, none⟩) s0.R.length s0.R.length, .slice (some ⟨q2, 0, none⟩) s0.C.length s0.C.length, .slice (some ⟨q3, 0, none⟩) s0.M.length s0.M.length] | 1 => v = .agg #[.int .i64 s0.pc, .slice aR0 s0.R.length cR0, .slice aC0 s0.C.length cC0, .slice aM0 s0.M.length cM0] | 2 => ToQ s0 v u | 3 => v = .bool true | _ => v = .bool false) ?mono (by kernel_rfl) (by kernel_rfl) rfl (by kernel_rfl) trivial ?step ?fin
    case mono =>
      intro i j v u u' hij hsz h hB
      rcases j with _ | _ | _ | _ | j
      · exact h
      · exact h
      · exact ToQ.but (L := []) h hB
      · exact h
      · exact h
    case step =>
      intro i o ho
      rcases i with _ | _ | _ | _ | _ | i
      · cases ho
        intro fu act u hW hB hsz hL hdep
        replace hB := hB [] (fun j hj hd k hk => by
          cases hk)
        obtain ⟨ysl, ha, hy⟩ := hL.puts [46, 47, 48, 49, 50] (by kernel_rfl)
        clear hdep hL hy
        simp only [List.foldl, List.setIfInBounds_toArray, List.set_cons_succ, List.set_cons_zero] at ha
        subst ha
        obtain ⟨_, c0, c1, c2, c3, _, _, _, _⟩ := (HX_20.out.but hB (by simp))
        refine wpOp_step rfl (fun K hK => ?_)
        go_simp
        exact hK _ _ ⟨_, rfl, (fun h => by cases h), rfl, But.refl _ _, trivial⟩
      · cases ho
        intro fu act u hW hB hsz hL hdep
        replace hB := hB [] (fun j hj hd k hk => by
          cases hk)
        obtain ⟨ysl, ha, hy⟩ := hL.puts [46, 47, 48, 49, 50] (by kernel_rfl)
        clear hdep hL hy
        simp only [List.foldl, List.setIfInBounds_toArray, List.set_cons_succ, List.set_cons_zero] at ha
        subst ha
        obtain ⟨_, c0, c1, c2, c3, _, _, _, _⟩ := (HA_20.out.but hB (by simp))
        refine wpOp_step rfl (fun K hK => ?_)
        go_simp
        exact hK _ _ ⟨_, rfl, (fun h => by cases h), rfl, But.refl _ _, trivial⟩
      · cases ho
        intro fu act u hW hB hsz hL hdep
        replace hB := hB [] (fun j hj hd k hk => by
          cases hk)
        have d1 := hdep { on := 1, ground := .data } (by simp) rfl _ rfl
        obtain ⟨ysl, ha, hy⟩ := hL.puts [46, 47, 48, 49, 50] (by kernel_rfl)
        have e1 : ysl 47 = _ := (hy 47).symm.trans d1
        clear hdep hL hy d1
        simp only [List.foldl, List.setIfInBounds_toArray, List.set_cons_succ, List.set_cons_zero, e1] at ha
        subst ha
        clear e1
        refine wpOp_step rfl (fun K hK => ?_)
        go_simp
        refine (laws_toPln s0 _ _ _ _ _ _ u ((HS0.out.fr F_20.out).fr (fr_but (L := []) (Below.refl v4e.heap.size v4e) hB (fun k hk => by cases hk))) hn).mono ?_
        rintro e u' ⟨t1, t2, t3, rfl, V, _, _, _, _, _, _, f⟩
        go_simp
        exact hK _ _ ⟨_, rfl, (fun h => by cases h), ⟨t1, t2, t3, _, rfl, V⟩, But.of f, trivial⟩
      · cases ho
        intro fu act u hW hB hsz hL hdep
        replace hB := hB [] (fun j hj hd k hk => by
          cases hk)
        have d0 := hdep { on := 0, ground := .data } (by simp) rfl _ rfl
        have d2 := hdep { on := 2, ground := .data } (by simp) rfl _ rfl
        obtain ⟨ysl, ha, hy⟩ := hL.puts [46, 47, 48, 49, 50] (by kernel_rfl)
        have e0 : ysl 46 = _ := (hy 46).symm.trans d0
        obtain ⟨t1, t2, t3, B2, h2, V2⟩ := d2
        have e2 : ysl 48 = .agg #[.int .i64 s0.pc, .slice (some ⟨t1, 0, none⟩) s0.R.length s0.R.length, .slice (some ⟨t2, 0, none⟩) s0.C.length s0.C.length, .slice (some ⟨t3, 0, none⟩) s0.M.length s0.M.length] := (hy 48).symm.trans h2
        clear hdep hL hy d0 h2
        simp only [List.foldl, List.setIfInBounds_toArray, List.set_cons_succ, List.set_cons_zero, e0, e2] at ha
        subst ha
        clear e0 e2
        refine wpOp_step rfl (fun K hK => ?_)
        go_simp
        refine (laws_eqPln_same _ B2 u s0 _ _ _ _ _ _ _ _ _ _ _ _ (HV_20.out.fr (fr_but (L := []) (Below.refl v4e.heap.size v4e) hB (fun k hk => by cases hk))) V2 hn).mono ?_
        rintro e u' ⟨rfl, f⟩
        go_simp
        exact hK _ _ ⟨_, rfl, (fun h => by cases h), rfl, But.of f, trivial⟩
      · cases ho
        intro fu act u hW hB hsz hL hdep
        replace hB := hB [] (fun j hj hd k hk => by
          cases hk)
        have d3 := hdep { on := 3, ground := .data } (by simp) rfl _ rfl
        obtain ⟨ysl, ha, hy⟩ := hL.puts [46, 47, 48, 49, 50] (by kernel_rfl)
        have e3 : ysl 49 = _ := (hy 49).symm.trans d3
        clear hdep hL hy d3
        simp only [List.foldl, List.setIfInBounds_toArray, List.set_cons_succ, List.set_cons_zero, e3] at ha
        subst ha
        clear e3
        refine wpOp_step rfl (fun K hK => ?_)
        go_simp
        exact hK _ _ ⟨_, rfl, (fun h => by cases h), rfl, But.refl _ _, trivial⟩
      · exact absurd ho (by simp)
    case fin =>
      intro act u hW hsz hB hL hsf
      replace hB := hB [] (fun j k hk => by
        cases hk)
      have d4 := hsf 4 _ rfl
      obtain ⟨ysl, ha, hy⟩ := hL.puts [46, 47, 48, 49, 50] (by kernel_rfl)
      have e4 : ysl 50 = _ := (hy 50).symm.trans d4
      clear hL hsf hy d4
      simp only [List.foldl, List.setIfInBounds_toArray, List.set_cons_succ, List.set_cons_zero, e4] at ha
      subst ha
      clear e4
      have fB : Fr v4e u := (fr_but (L := []) (Below.refl v4e.heap.size v4e) hB (fun k hk => by cases hk))
      clear hB hW
      have F_21 := Lib.hid (Fr.trans F_20.out fB)
      have HA_21 := Lib.hid (HA_20.out.fr fB)
      have VW_21 := Lib.hid (VW_20.out.fr fB)
      have HW_21 := Lib.hid (HW_20.out.fr fB)
      have EW_21 := Lib.hid (EW_20.out.fr fB)
      have HV_21 := Lib.hid (HV_20.out.fr fB)
      have HX_21 := Lib.hid (HX_20.out.fr fB)
      have VG_21 := Lib.hid (VG_20.out.fr fB)
      have HG_21 := Lib.hid (HG_20.out.fr fB)
      have EG_21 := Lib.hid (EG_20.out.fr fB)
      clear F_20 HA_20 VW_20 HW_20 EW_20 HV_20 HX_20 VG_20 HG_20 EG_20
      clear fB
      obtain ⟨_, a0, a1, a2, a3, _, _, _, _⟩ := HX_21.out
      go_wp2_with fail
      refine (laws_markPln _ s0 _ _ _ _ _ _ 1 u HV_21.out (by omega) hn (by omega) (by omega) (fun b hb => by cases hb; show q1 < _; omega) (fun b hb => by cases hb; show q2 < _; omega)).mono ?_
      rintro e v5 ⟨rfl, _, m5, l5⟩
      clear a0 a1 a2 a3
      have nb5 : ∀ k, k ∈ blks (some ⟨q1, 0, none⟩) (some ⟨q2, 0, none⟩) (some ⟨q3, 0, none⟩) → k = q1 ∨ k = q2 ∨ k = q3 := fun k hk => by simpa [blks] using hk
      clear HV_21
      have F_22 := Lib.hid (Below.trans F_21.out (l5.mono (by omega)))
      have HA_22 := Lib.hid (HA_21.out.but m5 (fun hm => by have := nb5 _ hm; omega))
      have VW_22 := Lib.hid (VW_21.out.but m5 (fun b hb hm => by have := kB b hb; have := nb5 _ hm; omega))
      have HW_22 := Lib.hid (HW_21.out.but m5 (fun hm => by have := nb5 _ hm; omega))
      have EW_22 := Lib.hid (EW_21.out.but m5 (fun hm => by have := nb5 _ hm; omega))
      have HX_22 := Lib.hid (HX_21.out.but m5 (fun hm => by have := nb5 _ hm; omega))
      have VG_22 := Lib.hid (VG_21.out.but m5 (fun b hb hm => by have := gB b hb; have := nb5 _ hm; omega))
      have HG_22 := Lib.hid (HG_21.out.but m5 (fun hm => by have := nb5 _ hm; omega))
      have EG_22 := Lib.hid (EG_21.out.but m5 (fun hm => by have := nb5 _ hm; omega))
      clear F_21 HA_21 VW_21 HW_21 EW_21 HX_21 VG_21 HG_21 EG_21
      have v5s := m5.size
      clear m5 l5 nb5
      clear HX_22
      have hk5 : ¬ (1 : Int) + s0.R.length + s0.C.length + s0.M.length < 0 := by omega
      obtain ⟨_, a0, a1, a2, a3, _, _, _, _⟩ := HG_22.out
      obtain ⟨_, b0, b1, b2, b3, _, _, _, _⟩ := HW_22.out
      go_wp2_with fail
      clear a0 a1 a2 a3 b0 b1 b2 b3
      refine (laws_eqPln_same _ _ _ t _ _ _ _ _ _ _ _ _ _ _ _ VG_22.out VW_22.out HT.out).mono ?_
      rintro e v6 ⟨rfl, v6f⟩
      have F_23 := Lib.hid (Fr.trans F_22.out v6f)
      have HA_23 := Lib.hid (HA_22.out.fr v6f)
      have VW_23 := Lib.hid (VW_22.out.fr v6f)
      have HW_23 := Lib.hid (HW_22.out.fr v6f)
      have EW_23 := Lib.hid (EW_22.out.fr v6f)
      have VG_23 := Lib.hid (VG_22.out.fr v6f)
      have HG_23 := Lib.hid (HG_22.out.fr v6f)
      have EG_23 := Lib.hid (EG_22.out.fr v6f)
      clear F_22 HA_22 VW_22 HW_22 EW_22 VG_22 HG_22 EG_22
      have v6s := v6f.size
      clear v6f
      obtain ⟨_, a0, a1, a2, a3, a4, a5, a6, _, _, _, _, _, _, _⟩ := EG_23.out
      obtain ⟨_, b0, b1, b2, b3, b4, b5, b6, _, _, _, _, _, _, _⟩ := EW_23.out
      go_wp2_with fail
      clear a0 a1 a2 a3 a4 a5 a6 b0 b1 b2 b3 b4 b5 b6
      refine (laws_eqPlnEvent_same ev _).mono ?_
      rintro e v6e ⟨rfl, v6g⟩
      have F_24 := Lib.hid (Fr.trans F_23.out v6g)
      have HA_24 := Lib.hid (HA_23.out.fr v6g)
      have VW_24 := Lib.hid (VW_23.out.fr v6g)
      have HW_24 := Lib.hid (HW_23.out.fr v6g)
      have EW_24 := Lib.hid (EW_23.out.fr v6g)
      have VG_24 := Lib.hid (VG_23.out.fr v6g)
      have HG_24 := Lib.hid (HG_23.out.fr v6g)
      have EG_24 := Lib.hid (EG_23.out.fr v6g)
      clear F_23 HA_23 VW_23 HW_23 EW_23 VG_23 HG_23 EG_23
      have v6t := v6g.size
      clear v6g
      obtain ⟨_, a0, a1, a2, a3, _, _, _, _⟩ := HG_24.out
      go_wp2_with fail
      refine (laws_markPln _ t _ _ _ _ _ _ 1 v6e VG_24.out (by omega) HT.out (by omega) (by omega) (fun b hb => by have := gB b (.inl hb); omega) (fun b hb => by have := gB b (.inr (.inl hb)); omega)).mono ?_
      rintro e v7 ⟨rfl, K7, m7, l7⟩
      clear a0 a1 a2 a3
      clear VG_24
      have F_25 := Lib.hid (Below.trans F_24.out (l7.mono (by omega)))
      have HA_25 := Lib.hid (HA_24.out.but m7 (fun hm => by obtain ⟨b, hb1, hb2⟩ := mem_blks hm; have := gB b hb2; omega))
      have VW_25 := Lib.hid (VW_24.out.but m7 (fun b hb hm => by obtain ⟨b2, hb1, hb2⟩ := mem_blks hm; have := gB b2 hb2; have := kB b hb; omega))
      have HW_25 := Lib.hid (HW_24.out.but m7 (fun hm => by obtain ⟨b, hb1, hb2⟩ := mem_blks hm; have := gB b hb2; omega))
      have EW_25 := Lib.hid (EW_24.out.but m7 (fun hm => by obtain ⟨b, hb1, hb2⟩ := mem_blks hm; have := gB b hb2; omega))
      have HG_25 := Lib.hid (HG_24.out.but m7 (fun hm => by obtain ⟨b, hb1, hb2⟩ := mem_blks hm; have := gB b hb2; omega))
      have EG_25 := Lib.hid (EG_24.out.but m7 (fun hm => by obtain ⟨b, hb1, hb2⟩ := mem_blks hm; have := gB b hb2; omega))
      clear F_24 HA_24 VW_24 HW_24 EW_24 HG_24 EG_24
      have KG_26 := Lib.hid (K7)
      have v7s := m7.size
      clear m7 l7 K7
      have h1 := HT.out.R
      have h2 := HT.out.C
      have h3 := HT.out.M
      have hk7 : ¬ (1 : Int) + t.R.length + t.C.length + t.M.length < 0 := by omega
      obtain ⟨_, a0, a1, a2, a3, _, _, _, _⟩ := HG_25.out
      go_wp2_with fail
      refine (laws_heldPln _ t _ _ _ _ _ _ 1 _ KG_26.out HT.out (by omega) (by omega) _).mono ?_
      rintro e v8 ⟨rfl, v8f⟩
      clear a0 a1 a2 a3
      have F_27 := Lib.hid (Fr.trans F_25.out v8f)
      have HA_27 := Lib.hid (HA_25.out.fr v8f)
      have VW_27 := Lib.hid (VW_25.out.fr v8f)
      have HW_27 := Lib.hid (HW_25.out.fr v8f)
      have EW_27 := Lib.hid (EW_25.out.fr v8f)
      have HG_27 := Lib.hid (HG_25.out.fr v8f)
      have EG_27 := Lib.hid (EG_25.out.fr v8f)
      have KG_27 := Lib.hid (KG_26.out.fr v8f)
      clear F_25 HA_25 VW_25 HW_25 EW_25 HG_25 EG_25 KG_26
      clear v8f
      obtain ⟨_, a0, a1, a2, a3, _, _, _, _⟩ := HA_27.out
      go_wp2_with fail
      refine (laws_toPln s0 _ _ _ _ _ _ _ (HS0.out.fr F_27.out) hn).mono ?_
      rintro e zw ⟨z1, z2, z3, rfl, zV, zb1, zb2, zb3, zl1, zl2, zl3, zf⟩
      clear a0 a1 a2 a3
      have F_28 := Lib.hid (Fr.trans F_27.out zf)
      have HA_28 := Lib.hid (HA_27.out.fr zf)
      have VW_28 := Lib.hid (VW_27.out.fr zf)
      have HW_28 := Lib.hid (HW_27.out.fr zf)
      have EW_28 := Lib.hid (EW_27.out.fr zf)
      have HG_28 := Lib.hid (HG_27.out.fr zf)
      have EG_28 := Lib.hid (EG_27.out.fr zf)
      have KG_28 := Lib.hid (KG_27.out.fr zf)
      clear F_27 HA_27 VW_27 HW_27 EW_27 HG_27 EG_27 KG_27
      have VZ_29 := Lib.hid (zV)
      have zs := zf.size
      clear zV zf
      have mEW := EW_28.out.lt
      go_wp2_with fail
      refine (impl_step_res HD.out VZ_29.out.src hn.few (HTB.out.fr F_28.out)).mono ?_
      rintro e pu ⟨pR, pC, pM, pr, pc, pm, rfl, pV, pB, pf⟩
      have pz := pf.size
      clear VZ_29
      have F_30 := Lib.hid (Fr.trans F_28.out pf)
      have HA_30 := Lib.hid (HA_28.out.fr pf)
      have VW_30 := Lib.hid (VW_28.out.fr pf)
      have HW_30 := Lib.hid (HW_28.out.fr pf)
      have EW_30 := Lib.hid (EW_28.out.fr pf)
      have HG_30 := Lib.hid (HG_28.out.fr pf)
      have EG_30 := Lib.hid (EG_28.out.fr pf)
      have KG_30 := Lib.hid (KG_28.out.fr pf)
      clear F_28 HA_28 VW_28 HW_28 EW_28 HG_28 EG_28 KG_28
      have VP_31 := Lib.hid (pV)
      clear pV pf
      obtain ⟨_, b0, b1, b2, b3, _, _, _, _⟩ := HW_30.out
      have nA : ¬ ku.heap.size = pu.heap.size := by omega
      have nB : ¬ pu.heap.size = ku.heap.size := by omega
      have nC : ¬ ku.heap.size = pu.heap.size + 1 := by omega
      have nD : ¬ ku.heap.size + 1 = pu.heap.size := by omega
      have nE : ¬ ku.heap.size + 1 = pu.heap.size + 1 := by omega
      go_wp2_with fail
      clear b0 b1 b2 b3 nA nB nC nD nE
      have pG : Fr pu ((pu.alloc (.cells #[.int .i64 t.pc, .slice pR t.R.length pr, .slice pC t.C.length pc, .slice pM t.M.length pm] 26)).alloc (.cells #[.int .i64 ev.pc, .int .i64 ev.w, .int .i64 ev.why, .int .i64 ev.d, .int .i64 ev.v, .int .i64 ev.ad, .int .i64 ev.dt] 28)) := by
        (repeat' first | (with_reducible exact Below.refl _ _) | (with_reducible assumption) | ((with_reducible refine Below.setCell ?_ ?hb _); (case hb => first | exact Nat.le_refl _ | (simp; done) | (simp; omega) | omega)) | ((with_reducible refine Below.alloc ?_ ?hb _); (case hb => first | exact Nat.le_refl _ | (simp; done) | (simp; omega) | omega)) | (with_reducible refine Below.drew ?_))
      have F_32 := Lib.hid (Fr.trans F_30.out pG)
      have HA_32 := Lib.hid (HA_30.out.fr pG)
      have VW_32 := Lib.hid (VW_30.out.fr pG)
      have HW_32 := Lib.hid (HW_30.out.fr pG)
      have EW_32 := Lib.hid (EW_30.out.fr pG)
      have HG_32 := Lib.hid (HG_30.out.fr pG)
      have EG_32 := Lib.hid (EG_30.out.fr pG)
      have KG_32 := Lib.hid (KG_30.out.fr pG)
      have VP_32 := Lib.hid (VP_31.out.fr pG)
      clear F_30 HA_30 VW_30 HW_30 EW_30 HG_30 EG_30 KG_30 VP_31
      have HP_33 := Lib.hid ((Box4.new pu (.int .i64 t.pc) (.slice pR t.R.length pr) (.slice pC t.C.length pc) (.slice pM t.M.length pm) 26 _ rfl).alloc (.cells #[.int .i64 ev.pc, .int .i64 ev.w, .int .i64 ev.why, .int .i64 ev.d, .int .i64 ev.v, .int .i64 ev.ad, .int .i64 ev.dt] 28))
      have EP_34 := Lib.hid (Box7.new (pu.alloc (.cells #[.int .i64 t.pc, .slice pR t.R.length pr, .slice pC t.C.length pc, .slice pM t.M.length pm] 26)) ev 28 (pu.heap.size + 1) (by simp))
      have ps : pu.heap.size + 1 < ((pu.alloc (.cells #[.int .i64 t.pc, .slice pR t.R.length pr, .slice pC t.C.length pc, .slice pM t.M.length pm] 26)).alloc (.cells #[.int .i64 ev.pc, .int .i64 ev.w, .int .i64 ev.why, .int .i64 ev.d, .int .i64 ev.v, .int .i64 ev.ad, .int .i64 ev.dt] 28)).heap.size := by simp
      generalize ((pu.alloc (.cells #[.int .i64 t.pc, .slice pR t.R.length pr, .slice pC t.C.length pc, .slice pM t.M.length pm] 26)).alloc (.cells #[.int .i64 ev.pc, .int .i64 ev.w, .int .i64 ev.why, .int .i64 ev.d, .int .i64 ev.v, .int .i64 ev.ad, .int .i64 ev.dt] 28)) = pv at *
      clear pG
      refine (laws_eqPln_same _ _ _ t _ _ _ _ _ _ _ _ _ _ _ _ VP_32.out VW_32.out HT.out).mono ?_
      rintro e v9 ⟨rfl, v9f⟩
      have F_35 := Lib.hid (Fr.trans F_32.out v9f)
      have HA_35 := Lib.hid (HA_32.out.fr v9f)
      have VW_35 := Lib.hid (VW_32.out.fr v9f)
      have HW_35 := Lib.hid (HW_32.out.fr v9f)
      have EW_35 := Lib.hid (EW_32.out.fr v9f)
      have HG_35 := Lib.hid (HG_32.out.fr v9f)
      have EG_35 := Lib.hid (EG_32.out.fr v9f)
      have KG_35 := Lib.hid (KG_32.out.fr v9f)
      have VP_35 := Lib.hid (VP_32.out.fr v9f)
      have HP_35 := Lib.hid (HP_33.out.fr v9f)
      have EP_35 := Lib.hid (EP_34.out.fr v9f)
      clear F_32 HA_32 VW_32 HW_32 EW_32 HG_32 EG_32 KG_32 VP_32 HP_33 EP_34
      have v9s := v9f.size
      clear v9f
      obtain ⟨_, a0, a1, a2, a3, a4, a5, a6, _, _, _, _, _, _, _⟩ := EP_35.out
      obtain ⟨_, b0, b1, b2, b3, b4, b5, b6, _, _, _, _, _, _, _⟩ := EW_35.out
      go_wp2_with fail
      clear a0 a1 a2 a3 a4 a5 a6 b0 b1 b2 b3 b4 b5 b6
      refine (laws_eqPlnEvent_same ev _).mono ?_
      rintro e v9e ⟨rfl, v9g⟩
      have F_36 := Lib.hid (Fr.trans F_35.out v9g)
      have HA_36 := Lib.hid (HA_35.out.fr v9g)
      have VW_36 := Lib.hid (VW_35.out.fr v9g)
      have HW_36 := Lib.hid (HW_35.out.fr v9g)
      have EW_36 := Lib.hid (EW_35.out.fr v9g)
      have HG_36 := Lib.hid (HG_35.out.fr v9g)
      have EG_36 := Lib.hid (EG_35.out.fr v9g)
      have KG_36 := Lib.hid (KG_35.out.fr v9g)
      have VP_36 := Lib.hid (VP_35.out.fr v9g)
      have HP_36 := Lib.hid (HP_35.out.fr v9g)
      have EP_36 := Lib.hid (EP_35.out.fr v9g)
      clear F_35 HA_35 VW_35 HW_35 EW_35 HG_35 EG_35 KG_35 VP_35 HP_35 EP_35
      have v9t := v9g.size
      clear v9g
      obtain ⟨_, a0, a1, a2, a3, _, _, _, _⟩ := HG_36.out
      go_wp2_with fail
      refine (laws_heldPln _ t _ _ _ _ _ _ 1 _ KG_36.out HT.out (by omega) (by omega) _).mono ?_
      rintro e v10 ⟨rfl, v10f⟩
      clear a0 a1 a2 a3
      have F_37 := Lib.hid (Fr.trans F_36.out v10f)
      have HA_37 := Lib.hid (HA_36.out.fr v10f)
      have VW_37 := Lib.hid (VW_36.out.fr v10f)
      have HW_37 := Lib.hid (HW_36.out.fr v10f)
      have EW_37 := Lib.hid (EW_36.out.fr v10f)
      have HG_37 := Lib.hid (HG_36.out.fr v10f)
      have EG_37 := Lib.hid (EG_36.out.fr v10f)
      have KG_37 := Lib.hid (KG_36.out.fr v10f)
      have VP_37 := Lib.hid (VP_36.out.fr v10f)
      have HP_37 := Lib.hid (HP_36.out.fr v10f)
      have EP_37 := Lib.hid (EP_36.out.fr v10f)
      clear F_36 HA_36 VW_36 HW_36 EW_36 HG_36 EG_36 KG_36 VP_36 HP_36 EP_36
      clear v10f
      go_wp2_with fail
      go_ret
      exact ⟨rfl, F_37.out⟩
  · go_wp2_with fail
    go_ret
    exact ⟨rfl, HF0.out.trans f1⟩

end Go.Proofs.YtbjapncfgancoaaDoor.fnExactPlnStep
