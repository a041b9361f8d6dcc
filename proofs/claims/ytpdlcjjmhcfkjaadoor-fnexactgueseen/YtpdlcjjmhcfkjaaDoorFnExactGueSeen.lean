/- For every guesser, place and word, GueSeen of the program returns what GueSeen of the model returns, writes into no argument, and its answer owns its memory (no condition but the laid tables that the card ties). -/
import Derived.Test.YtpdlcjjmhcfkjaaDoorCards
import Derived.Test.YtpdlcjjmhcfkjaaDoorTie
import Derived.Test.YtpdlcjjmhcfkjaaDoorLaid
import Derived.Test.YtpdlcjjmhcfkjaaDoorOpenGue
import Derived.Test.YtpdlcjjmhcfkjaaDoorGs10
import Derived.Test.YtpdlcjjmhcfkjaaDoorGc3
import Derived.Test.YtpdlcjjmhcfkjaaDoorRegion4
import Derived.Test.YtpdlcjjmhcfkjaaDoorGh4
import Derived.WalkKit
import Derived.ProofKit
import Derived.OpenShut
import Derived.ShutString
import Derived.SliceStrings
import Derived.ChangeOld
import Derived.Below
import Derived.SevenTiedAt
namespace Go.Proofs.YtpdlcjjmhcfkjaaDoor.fnExactGueSeen
open Go.ChangeShapes Go.WideShapes Go.ChangeAt Go.RowKit
set_option linter.unusedVariables false

set_option maxRecDepth 8000 in
set_option maxHeartbeats 4000000 in
theorem walk (s0 : Gu) (aS0 aC0 : Option Addr) (cS0 cC0 : Nat) (x1 : Int) (x2 : Int) (w : World) (ht : Tabs w) (h0 : Src4 w s0.S aS0) (k0 : Src w s0.C.length (ivl s0.C) aC0) (m0 : Big5 s0) (wf1 : (Lit.int .i64 x1).wf = true) (wf2 : (Lit.int .i64 x2).wf = true) :
    Calls Tryd.prog 4 #[.agg #[.slice aS0 s0.S.length cS0, .slice aC0 s0.C.length cC0], .int .i64 x1, .int .i64 x2] w fun e w' => e = .returned (.bool true) ∧ Below w.heap.size w w' := by
  have hb1 := m0.S
  have hb2 := m0.C
  have HS0 := Lib.hid h0
  have HC0 := Lib.hid k0
  have HF0 := Lib.hid (Fr.alloc w (.cells #[.slice aS0 s0.S.length cS0, .slice aC0 s0.C.length cC0] 25))
  have HA0 := Lib.hid (Box2.new w (.slice aS0 s0.S.length cS0) (.slice aC0 s0.C.length cC0) 25 _ rfl)
  clear h0 k0 m0
  have T0 := Lib.hid ht
  clear ht
  go_enter Tryd.func4, Tryd.ntmps4
  go_wp2_with fail
  generalize (w.alloc (.cells #[.slice aS0 s0.S.length cS0, .slice aC0 s0.C.length cC0] 25)) = u0 at *
  refine (laws_szGue s0 _ _ _ _ 1048576 u0 hb1 hb2 (by omega) (by omega)).mono ?_
  rintro e u1 ⟨⟨r, rfl, hr⟩, f1⟩
  rcases hr with ⟨r0, hn⟩ | rfl
  · have hr0 : ¬ r < 0 := by omega
    have hf1 : s0.S.length ≤ 100000000 := by have := hn.S; omega
    have hf2 : s0.C.length ≤ 100000000 := by have := hn.C; omega
    have F_1 := Lib.hid (HF0.out.trans f1)
    have HA_2 := Lib.hid (HA0.out.fr f1)
    have TB_3 := Lib.hid (T0.out.fr (HF0.out.trans f1))
    clear HF0 HA0 f1 hb1 hb2
    have hw1 := F_1.out.size
    have hwA := HA_2.out.lt
    obtain ⟨t, ht⟩ : ∃ t, seenA s0 x1 x2 = t := ⟨_, rfl⟩
    have HT : Hid (Few5 t) := by rw [← ht]; exact few_seen _ _ _ hn
    obtain ⟨_, a0, a1, _, _⟩ := HA_2.out
    go_wp2_with fail
    refine (laws_toGue s0 _ _ _ _ _ (HS0.out.fr F_1.out) (HC0.out.fr F_1.out) hn).mono ?_
    rintro e yw ⟨y1, y2, rfl, yV, yb1, yb2, yl1, yl2, yf⟩
    clear a0 a1
    have F_4 := Lib.hid (Fr.trans F_1.out yf)
    have HA_4 := Lib.hid (HA_2.out.fr yf)
    have TB_4 := Lib.hid (TB_3.out.fr yf)
    clear F_1 HA_2 TB_3
    have VY_5 := Lib.hid (yV)
    have ys := yf.size
    clear yV yf
    go_wp2_with fail
    refine (spec_GueSeen s0 _ _ _ _ x1 x2 _ VY_5.out.S.src VY_5.out.C.src hf1 hf2).mono ?_
    rintro e ku hk
    rw [ht] at hk
    obtain ⟨kS, kC, kr, kc, rfl, kV, kf⟩ := hk
    have kB := kV.blk
    have kz := kf.size
    clear VY_5
    have F_6 := Lib.hid (Fr.trans F_4.out kf)
    have HA_6 := Lib.hid (HA_4.out.fr kf)
    have TB_6 := Lib.hid (TB_4.out.fr kf)
    clear F_4 HA_4 TB_4
    have VW_7 := Lib.hid (kV.o)
    clear kV kf
    obtain ⟨_, a0, a1, _, _⟩ := HA_6.out
    have nA : ¬ w.heap.size = ku.heap.size := by omega
    have nB : ¬ ku.heap.size = w.heap.size := by omega
    go_wp2_with fail
    clear a0 a1 nA nB
    have F_8 := Lib.hid (Fr.trans F_6.out (Fr.alloc ku (.cells #[.slice kS t.S.length kr, .slice kC t.C.length kc] 30)))
    have HA_8 := Lib.hid (HA_6.out.fr (Fr.alloc ku (.cells #[.slice kS t.S.length kr, .slice kC t.C.length kc] 30)))
    have TB_8 := Lib.hid (TB_6.out.fr (Fr.alloc ku (.cells #[.slice kS t.S.length kr, .slice kC t.C.length kc] 30)))
    have VW_8 := Lib.hid (VW_7.out.fr (Fr.alloc ku (.cells #[.slice kS t.S.length kr, .slice kC t.C.length kc] 30)))
    clear F_6 HA_6 TB_6 VW_7
    have HW_9 := Lib.hid (Box2.new ku (.slice kS t.S.length kr) (.slice kC t.C.length kc) 30 _ rfl)
    have ks : ku.heap.size < (ku.alloc (.cells #[.slice kS t.S.length kr, .slice kC t.C.length kc] 30)).heap.size := by simp
    generalize (ku.alloc (.cells #[.slice kS t.S.length kr, .slice kC t.C.length kc] 30)) = kv at *
    refine (laws_toGue s0 _ _ _ _ _ (HS0.out.fr F_8.out) (HC0.out.fr F_8.out) hn).mono ?_
    rintro e qw ⟨q1, q2, rfl, qV, qb1, qb2, ql1, ql2, qf⟩
    have F_10 := Lib.hid (Fr.trans F_8.out qf)
    have HA_10 := Lib.hid (HA_8.out.fr qf)
    have TB_10 := Lib.hid (TB_8.out.fr qf)
    have VW_10 := Lib.hid (VW_8.out.fr qf)
    have HW_10 := Lib.hid (HW_9.out.fr qf)
    clear F_8 HA_8 TB_8 VW_8 HW_9
    have HV_11 := Lib.hid (qV)
    have qs := qf.size
    clear qV qf
    go_wp2_with fail
    have F_12 := Lib.hid (Fr.trans F_10.out (Fr.alloc qw (.cells #[.slice (some ⟨q1, 0, none⟩) s0.S.length s0.S.length, .slice (some ⟨q2, 0, none⟩) s0.C.length s0.C.length] 30)))
    have HA_12 := Lib.hid (HA_10.out.fr (Fr.alloc qw (.cells #[.slice (some ⟨q1, 0, none⟩) s0.S.length s0.S.length, .slice (some ⟨q2, 0, none⟩) s0.C.length s0.C.length] 30)))
    have TB_12 := Lib.hid (TB_10.out.fr (Fr.alloc qw (.cells #[.slice (some ⟨q1, 0, none⟩) s0.S.length s0.S.length, .slice (some ⟨q2, 0, none⟩) s0.C.length s0.C.length] 30)))
    have VW_12 := Lib.hid (VW_10.out.fr (Fr.alloc qw (.cells #[.slice (some ⟨q1, 0, none⟩) s0.S.length s0.S.length, .slice (some ⟨q2, 0, none⟩) s0.C.length s0.C.length] 30)))
    have HW_12 := Lib.hid (HW_10.out.fr (Fr.alloc qw (.cells #[.slice (some ⟨q1, 0, none⟩) s0.S.length s0.S.length, .slice (some ⟨q2, 0, none⟩) s0.C.length s0.C.length] 30)))
    have HV_12 := Lib.hid (HV_11.out.fr (Fr.alloc qw (.cells #[.slice (some ⟨q1, 0, none⟩) s0.S.length s0.S.length, .slice (some ⟨q2, 0, none⟩) s0.C.length s0.C.length] 30)))
    clear F_10 HA_10 TB_10 VW_10 HW_10 HV_11
    have HX_13 := Lib.hid (Box2.new qw (.slice (some ⟨q1, 0, none⟩) s0.S.length s0.S.length) (.slice (some ⟨q2, 0, none⟩) s0.C.length s0.C.length) 30 _ rfl)
    have v2s : qw.heap.size < (qw.alloc (.cells #[.slice (some ⟨q1, 0, none⟩) s0.S.length s0.S.length, .slice (some ⟨q2, 0, none⟩) s0.C.length s0.C.length] 30)).heap.size := by simp
    generalize (qw.alloc (.cells #[.slice (some ⟨q1, 0, none⟩) s0.S.length s0.S.length, .slice (some ⟨q2, 0, none⟩) s0.C.length s0.C.length] 30)) = v2 at *
    refine (impl_GueSeen s0 _ _ _ _ x1 x2 _ TB_12.out HV_12.out.S.src HV_12.out.C.src hf1 hf2).mono ?_
    rintro e gu hg
    rw [ht] at hg
    obtain ⟨gS, gC, gr, gc, rfl, gV, gf⟩ := hg
    have gB := gV.blk
    have gz := gf.size
    have F_14 := Lib.hid (Fr.trans F_12.out gf)
    have HA_14 := Lib.hid (HA_12.out.fr gf)
    have TB_14 := Lib.hid (TB_12.out.fr gf)
    have VW_14 := Lib.hid (VW_12.out.fr gf)
    have HW_14 := Lib.hid (HW_12.out.fr gf)
    have HV_14 := Lib.hid (HV_12.out.fr gf)
    have HX_14 := Lib.hid (HX_13.out.fr gf)
    clear F_12 HA_12 TB_12 VW_12 HW_12 HV_12 HX_13
    have VG_15 := Lib.hid (gV)
    clear gV gf
    obtain ⟨_, b0, b1, _, _⟩ := HW_14.out
    have nA : ¬ ku.heap.size = gu.heap.size := by omega
    have nB : ¬ gu.heap.size = ku.heap.size := by omega
    go_wp2_with fail
    clear b0 b1 nA nB
    have F_16 := Lib.hid (Fr.trans F_14.out (Fr.alloc gu (.cells #[.slice gS t.S.length gr, .slice gC t.C.length gc] 30)))
    have HA_16 := Lib.hid (HA_14.out.fr (Fr.alloc gu (.cells #[.slice gS t.S.length gr, .slice gC t.C.length gc] 30)))
    have TB_16 := Lib.hid (TB_14.out.fr (Fr.alloc gu (.cells #[.slice gS t.S.length gr, .slice gC t.C.length gc] 30)))
    have VW_16 := Lib.hid (VW_14.out.fr (Fr.alloc gu (.cells #[.slice gS t.S.length gr, .slice gC t.C.length gc] 30)))
    have HW_16 := Lib.hid (HW_14.out.fr (Fr.alloc gu (.cells #[.slice gS t.S.length gr, .slice gC t.C.length gc] 30)))
    have HV_16 := Lib.hid (HV_14.out.fr (Fr.alloc gu (.cells #[.slice gS t.S.length gr, .slice gC t.C.length gc] 30)))
    have HX_16 := Lib.hid (HX_14.out.fr (Fr.alloc gu (.cells #[.slice gS t.S.length gr, .slice gC t.C.length gc] 30)))
    have VG_16 := Lib.hid (VG_15.out.fr (Fr.alloc gu (.cells #[.slice gS t.S.length gr, .slice gC t.C.length gc] 30)))
    clear F_14 HA_14 TB_14 VW_14 HW_14 HV_14 HX_14 VG_15
    have HG_17 := Lib.hid (Box2.new gu (.slice gS t.S.length gr) (.slice gC t.C.length gc) 30 _ rfl)
    have gs : gu.heap.size < (gu.alloc (.cells #[.slice gS t.S.length gr, .slice gC t.C.length gc] 30)).heap.size := by simp
    generalize (gu.alloc (.cells #[.slice gS t.S.length gr, .slice gC t.C.length gc] 30)) = gv at *
    refine (laws_eqGueO_same _ _ _ t _ _ _ _ _ _ _ _ VG_16.out VW_16.out HT.out).mono ?_
    rintro e v4 ⟨rfl, v4f⟩
    have F_18 := Lib.hid (Fr.trans F_16.out v4f)
    have HA_18 := Lib.hid (HA_16.out.fr v4f)
    have TB_18 := Lib.hid (TB_16.out.fr v4f)
    have VW_18 := Lib.hid (VW_16.out.fr v4f)
    have HW_18 := Lib.hid (HW_16.out.fr v4f)
    have HV_18 := Lib.hid (HV_16.out.fr v4f)
    have HX_18 := Lib.hid (HX_16.out.fr v4f)
    have VG_18 := Lib.hid (VG_16.out.fr v4f)
    have HG_18 := Lib.hid (HG_17.out.fr v4f)
    clear F_16 HA_16 TB_16 VW_16 HW_16 HV_16 HX_16 VG_16 HG_17
    have v4s := v4f.size
    clear v4f
    go_wp2_with fail
    refine wp_region_lots 79 (fun i => []) (fun _ _ => True) (fun i v u => match i with | 0 => v = .agg #[.slice (some ⟨q1, 0, none⟩) s0.S.length s0.S.length, .slice (some ⟨q2, 0, none⟩) s0.C.length s0.C.length] | 1 => v = .agg #[.slice aS0 s0.S.length cS0, .slice aC0 s0.C.length cC0] | 2 => ToH s0 v u | 3 => v = .bool true | _ => v = .bool false) ?mono (by kernel_rfl) (by kernel_rfl) rfl (by kernel_rfl) trivial ?step ?fin
    case mono =>
      intro i j v u u' hij hsz h hB
      rcases j with _ | _ | _ | _ | j
      · exact h
      · exact h
      · exact ToH.but h hB
      · exact h
      · exact h
    case step =>
      intro i o ho
      rcases i with _ | _ | _ | _ | _ | i
      · cases ho
        intro fu act u hW hB hsz hL hdep
        replace hB := hB [] (fun j hj hd k hk => by
          cases hk)
        obtain ⟨ysl, ha, hy⟩ := hL.puts [35, 36, 37, 38, 39] (by kernel_rfl)
        clear hdep hL hy
        simp only [List.foldl, List.setIfInBounds_toArray, List.set_cons_succ, List.set_cons_zero] at ha
        subst ha
        obtain ⟨_, c0, c1, _, _⟩ := (HX_18.out.but hB (by simp))
        refine wpOp_step rfl (fun K hK => ?_)
        go_simp
        exact hK _ _ ⟨_, rfl, (fun h => by cases h), rfl, But.refl _ _, trivial⟩
      · cases ho
        intro fu act u hW hB hsz hL hdep
        replace hB := hB [] (fun j hj hd k hk => by
          cases hk)
        obtain ⟨ysl, ha, hy⟩ := hL.puts [35, 36, 37, 38, 39] (by kernel_rfl)
        clear hdep hL hy
        simp only [List.foldl, List.setIfInBounds_toArray, List.set_cons_succ, List.set_cons_zero] at ha
        subst ha
        obtain ⟨_, c0, c1, _, _⟩ := (HA_18.out.but hB (by simp))
        refine wpOp_step rfl (fun K hK => ?_)
        go_simp
        exact hK _ _ ⟨_, rfl, (fun h => by cases h), rfl, But.refl _ _, trivial⟩
      · cases ho
        intro fu act u hW hB hsz hL hdep
        replace hB := hB [] (fun j hj hd k hk => by
          cases hk)
        have d1 := hdep { on := 1, ground := .data } (by simp) rfl _ rfl
        obtain ⟨ysl, ha, hy⟩ := hL.puts [35, 36, 37, 38, 39] (by kernel_rfl)
        have e1 : ysl 36 = _ := (hy 36).symm.trans d1
        clear hdep hL hy d1
        simp only [List.foldl, List.setIfInBounds_toArray, List.set_cons_succ, List.set_cons_zero, e1] at ha
        subst ha
        clear e1
        refine wpOp_step rfl (fun K hK => ?_)
        go_simp
        refine (laws_toGue s0 _ _ _ _ u ((HS0.out.fr F_18.out).fr (fr_but (L := []) (Below.refl v4.heap.size v4) hB (fun k hk => by cases hk))) ((HC0.out.fr F_18.out).fr (fr_but (L := []) (Below.refl v4.heap.size v4) hB (fun k hk => by cases hk))) hn).mono ?_
        rintro e u' ⟨t1, t2, rfl, V, _, _, _, _, f⟩
        go_simp
        exact hK _ _ ⟨_, rfl, (fun h => by cases h), ⟨t1, t2, _, rfl, V⟩, But.of f, trivial⟩
      · cases ho
        intro fu act u hW hB hsz hL hdep
        replace hB := hB [] (fun j hj hd k hk => by
          cases hk)
        have d0 := hdep { on := 0, ground := .data } (by simp) rfl _ rfl
        have d2 := hdep { on := 2, ground := .data } (by simp) rfl _ rfl
        obtain ⟨ysl, ha, hy⟩ := hL.puts [35, 36, 37, 38, 39] (by kernel_rfl)
        have e0 : ysl 35 = _ := (hy 35).symm.trans d0
        obtain ⟨t1, t2, B2, h2, V2⟩ := d2
        have e2 : ysl 37 = .agg #[.slice (some ⟨t1, 0, none⟩) s0.S.length s0.S.length, .slice (some ⟨t2, 0, none⟩) s0.C.length s0.C.length] := (hy 37).symm.trans h2
        clear hdep hL hy d0 h2
        simp only [List.foldl, List.setIfInBounds_toArray, List.set_cons_succ, List.set_cons_zero, e0, e2] at ha
        subst ha
        clear e0 e2
        refine wpOp_step rfl (fun K hK => ?_)
        go_simp
        refine (laws_eqGue_same _ B2 u s0 _ _ _ _ _ _ _ _ (HV_18.out.fr (fr_but (L := []) (Below.refl v4.heap.size v4) hB (fun k hk => by cases hk))) V2 hn).mono ?_
        rintro e u' ⟨rfl, f⟩
        go_simp
        exact hK _ _ ⟨_, rfl, (fun h => by cases h), rfl, But.of f, trivial⟩
      · cases ho
        intro fu act u hW hB hsz hL hdep
        replace hB := hB [] (fun j hj hd k hk => by
          cases hk)
        have d3 := hdep { on := 3, ground := .data } (by simp) rfl _ rfl
        obtain ⟨ysl, ha, hy⟩ := hL.puts [35, 36, 37, 38, 39] (by kernel_rfl)
        have e3 : ysl 38 = _ := (hy 38).symm.trans d3
        clear hdep hL hy d3
        simp only [List.foldl, List.setIfInBounds_toArray, List.set_cons_succ, List.set_cons_zero, e3] at ha
        subst ha
        clear e3
        refine wpOp_step rfl (fun K hK => ?_)
        go_simp
        exact hK _ _ ⟨_, rfl, (fun h => by cases h), rfl, But.refl _ _, trivial⟩
      · exact absurd ho (by simp)
    case fin =>
      intro act u hW hsz hB hL hsf
      replace hB := hB [] (fun j k hk => by
        cases hk)
      have d4 := hsf 4 _ rfl
      obtain ⟨ysl, ha, hy⟩ := hL.puts [35, 36, 37, 38, 39] (by kernel_rfl)
      have e4 : ysl 39 = _ := (hy 39).symm.trans d4
      clear hL hsf hy d4
      simp only [List.foldl, List.setIfInBounds_toArray, List.set_cons_succ, List.set_cons_zero, e4] at ha
      subst ha
      clear e4
      have fB : Fr v4 u := (fr_but (L := []) (Below.refl v4.heap.size v4) hB (fun k hk => by cases hk))
      clear hB hW
      have F_19 := Lib.hid (Fr.trans F_18.out fB)
      have HA_19 := Lib.hid (HA_18.out.fr fB)
      have TB_19 := Lib.hid (TB_18.out.fr fB)
      have VW_19 := Lib.hid (VW_18.out.fr fB)
      have HW_19 := Lib.hid (HW_18.out.fr fB)
      have HV_19 := Lib.hid (HV_18.out.fr fB)
      have HX_19 := Lib.hid (HX_18.out.fr fB)
      have VG_19 := Lib.hid (VG_18.out.fr fB)
      have HG_19 := Lib.hid (HG_18.out.fr fB)
      clear F_18 HA_18 TB_18 VW_18 HW_18 HV_18 HX_18 VG_18 HG_18
      clear fB
      obtain ⟨_, a0, a1, _, _⟩ := HX_19.out
      go_wp2_with fail
      refine (laws_markGue _ s0 _ _ _ _ 1 u HV_19.out (by omega) hn (by omega) (by omega)).mono ?_
      rintro e v5 ⟨rfl, _, m5, l5⟩
      clear a0 a1
      have nb5 : ∀ k, k ∈ blk5 s0 (some ⟨q1, 0, none⟩) (some ⟨q2, 0, none⟩) → k = q1 ∨ k = q2 := fun k hk => by
        rcases List.mem_append.1 hk with hk | hk
        · obtain ⟨_, b, e, rfl⟩ := mem_bkS hk
          cases e
          exact .inl rfl
        · obtain ⟨_, b, e, rfl⟩ := mem_bkS hk
          cases e
          exact .inr rfl
      clear HV_19
      have F_20 := Lib.hid (Below.trans F_19.out (l5.mono (by omega)))
      have HA_20 := Lib.hid (HA_19.out.but m5 (fun hm => by have := nb5 _ hm; omega))
      have TB_20 := Lib.hid (TB_19.out.below l5 (by omega))
      have VW_20 := Lib.hid (VW_19.out.but m5 (fun j hj hm => by have := kB j hj; have := nb5 _ hm; omega))
      have HW_20 := Lib.hid (HW_19.out.but m5 (fun hm => by have := nb5 _ hm; omega))
      have HX_20 := Lib.hid (HX_19.out.but m5 (fun hm => by have := nb5 _ hm; omega))
      have VG_20 := Lib.hid (VG_19.out.but m5 (fun j hj hm => by have := gB j hj; have := nb5 _ hm; omega))
      have HG_20 := Lib.hid (HG_19.out.but m5 (fun hm => by have := nb5 _ hm; omega))
      clear F_19 HA_19 TB_19 VW_19 HW_19 HX_19 VG_19 HG_19
      have v5s := m5.size
      clear m5 l5 nb5
      clear HX_20
      have hk5 : ¬ (1 : Int) + 4 * s0.S.length + s0.C.length < 0 := by omega
      obtain ⟨_, a0, a1, _, _⟩ := HG_20.out
      obtain ⟨_, b0, b1, _, _⟩ := HW_20.out
      go_wp2_with fail
      refine (laws_eqGueO_same _ _ _ t _ _ _ _ _ _ _ _ VG_20.out VW_20.out HT.out).mono ?_
      rintro e v6 ⟨rfl, v6f⟩
      clear a0 a1 b0 b1
      have F_21 := Lib.hid (Fr.trans F_20.out v6f)
      have HA_21 := Lib.hid (HA_20.out.fr v6f)
      have TB_21 := Lib.hid (TB_20.out.fr v6f)
      have VW_21 := Lib.hid (VW_20.out.fr v6f)
      have HW_21 := Lib.hid (HW_20.out.fr v6f)
      have VG_21 := Lib.hid (VG_20.out.fr v6f)
      have HG_21 := Lib.hid (HG_20.out.fr v6f)
      clear F_20 HA_20 TB_20 VW_20 HW_20 VG_20 HG_20
      have v6s := v6f.size
      clear v6f
      obtain ⟨_, a0, a1, _, _⟩ := HG_21.out
      go_wp2_with fail
      refine (laws_markGueO _ t _ _ _ _ 1 v6 VG_21.out (by omega) HT.out (by omega) (by omega)).mono ?_
      rintro e v7 ⟨rfl, K7, m7, l7⟩
      clear a0 a1
      clear VG_21
      have F_22 := Lib.hid (Below.trans F_21.out (l7.mono (by omega)))
      have HA_22 := Lib.hid (HA_21.out.but m7 (fun hm => by have := gB _ hm; omega))
      have TB_22 := Lib.hid (TB_21.out.below l7 (by omega))
      have VW_22 := Lib.hid (VW_21.out.but m7 (fun j hj hm => by have := gB _ hm; have := kB j hj; omega))
      have HW_22 := Lib.hid (HW_21.out.but m7 (fun hm => by have := gB _ hm; omega))
      have HG_22 := Lib.hid (HG_21.out.but m7 (fun hm => by have := gB _ hm; omega))
      clear F_21 HA_21 TB_21 VW_21 HW_21 HG_21
      have KG_23 := Lib.hid (K7)
      have v7s := m7.size
      clear m7 l7 K7
      have h1 := HT.out.S
      have h2 := HT.out.C
      have hk7 : ¬ (1 : Int) + 4 * t.S.length + t.C.length < 0 := by omega
      obtain ⟨_, a0, a1, _, _⟩ := HG_22.out
      go_wp2_with fail
      refine (laws_heldGueO _ t _ _ _ _ 1 _ KG_23.out HT.out (by omega) (by omega)).mono ?_
      rintro e v8 ⟨rfl, v8f⟩
      clear a0 a1
      have F_24 := Lib.hid (Fr.trans F_22.out v8f)
      have HA_24 := Lib.hid (HA_22.out.fr v8f)
      have TB_24 := Lib.hid (TB_22.out.fr v8f)
      have VW_24 := Lib.hid (VW_22.out.fr v8f)
      have HW_24 := Lib.hid (HW_22.out.fr v8f)
      have HG_24 := Lib.hid (HG_22.out.fr v8f)
      have KG_24 := Lib.hid (KG_23.out.fr v8f)
      clear F_22 HA_22 TB_22 VW_22 HW_22 HG_22 KG_23
      clear v8f
      obtain ⟨_, a0, a1, _, _⟩ := HA_24.out
      go_wp2_with fail
      refine (laws_toGue s0 _ _ _ _ _ (HS0.out.fr F_24.out) (HC0.out.fr F_24.out) hn).mono ?_
      rintro e zw ⟨z1, z2, rfl, zV, zb1, zb2, zl1, zl2, zf⟩
      clear a0 a1
      have F_25 := Lib.hid (Fr.trans F_24.out zf)
      have HA_25 := Lib.hid (HA_24.out.fr zf)
      have TB_25 := Lib.hid (TB_24.out.fr zf)
      have VW_25 := Lib.hid (VW_24.out.fr zf)
      have HW_25 := Lib.hid (HW_24.out.fr zf)
      have HG_25 := Lib.hid (HG_24.out.fr zf)
      have KG_25 := Lib.hid (KG_24.out.fr zf)
      clear F_24 HA_24 TB_24 VW_24 HW_24 HG_24 KG_24
      have VZ_26 := Lib.hid (zV)
      have zs := zf.size
      clear zV zf
      go_wp2_with fail
      refine (impl_GueSeen s0 _ _ _ _ x1 x2 _ TB_25.out VZ_26.out.S.src VZ_26.out.C.src hf1 hf2).mono ?_
      rintro e pu hp
      rw [ht] at hp
      obtain ⟨pS, pC, pr, pc, rfl, pV, pf⟩ := hp
      have pB := pV.blk
      have pz := pf.size
      clear VZ_26
      have F_27 := Lib.hid (Fr.trans F_25.out pf)
      have HA_27 := Lib.hid (HA_25.out.fr pf)
      have TB_27 := Lib.hid (TB_25.out.fr pf)
      have VW_27 := Lib.hid (VW_25.out.fr pf)
      have HW_27 := Lib.hid (HW_25.out.fr pf)
      have HG_27 := Lib.hid (HG_25.out.fr pf)
      have KG_27 := Lib.hid (KG_25.out.fr pf)
      clear F_25 HA_25 TB_25 VW_25 HW_25 HG_25 KG_25
      have VP_28 := Lib.hid (pV)
      clear pV pf
      obtain ⟨_, b0, b1, _, _⟩ := HW_27.out
      have nA : ¬ ku.heap.size = pu.heap.size := by omega
      have nB : ¬ pu.heap.size = ku.heap.size := by omega
      go_wp2_with fail
      clear b0 b1 nA nB
      have F_29 := Lib.hid (Fr.trans F_27.out (Fr.alloc pu (.cells #[.slice pS t.S.length pr, .slice pC t.C.length pc] 30)))
      have HA_29 := Lib.hid (HA_27.out.fr (Fr.alloc pu (.cells #[.slice pS t.S.length pr, .slice pC t.C.length pc] 30)))
      have TB_29 := Lib.hid (TB_27.out.fr (Fr.alloc pu (.cells #[.slice pS t.S.length pr, .slice pC t.C.length pc] 30)))
      have VW_29 := Lib.hid (VW_27.out.fr (Fr.alloc pu (.cells #[.slice pS t.S.length pr, .slice pC t.C.length pc] 30)))
      have HW_29 := Lib.hid (HW_27.out.fr (Fr.alloc pu (.cells #[.slice pS t.S.length pr, .slice pC t.C.length pc] 30)))
      have HG_29 := Lib.hid (HG_27.out.fr (Fr.alloc pu (.cells #[.slice pS t.S.length pr, .slice pC t.C.length pc] 30)))
      have KG_29 := Lib.hid (KG_27.out.fr (Fr.alloc pu (.cells #[.slice pS t.S.length pr, .slice pC t.C.length pc] 30)))
      have VP_29 := Lib.hid (VP_28.out.fr (Fr.alloc pu (.cells #[.slice pS t.S.length pr, .slice pC t.C.length pc] 30)))
      clear F_27 HA_27 TB_27 VW_27 HW_27 HG_27 KG_27 VP_28
      have HP_30 := Lib.hid (Box2.new pu (.slice pS t.S.length pr) (.slice pC t.C.length pc) 30 _ rfl)
      have ps : pu.heap.size < (pu.alloc (.cells #[.slice pS t.S.length pr, .slice pC t.C.length pc] 30)).heap.size := by simp
      generalize (pu.alloc (.cells #[.slice pS t.S.length pr, .slice pC t.C.length pc] 30)) = pv at *
      refine (laws_eqGueO_same _ _ _ t _ _ _ _ _ _ _ _ VP_29.out VW_29.out HT.out).mono ?_
      rintro e v9 ⟨rfl, v9f⟩
      have F_31 := Lib.hid (Fr.trans F_29.out v9f)
      have HA_31 := Lib.hid (HA_29.out.fr v9f)
      have TB_31 := Lib.hid (TB_29.out.fr v9f)
      have VW_31 := Lib.hid (VW_29.out.fr v9f)
      have HW_31 := Lib.hid (HW_29.out.fr v9f)
      have HG_31 := Lib.hid (HG_29.out.fr v9f)
      have KG_31 := Lib.hid (KG_29.out.fr v9f)
      have VP_31 := Lib.hid (VP_29.out.fr v9f)
      have HP_31 := Lib.hid (HP_30.out.fr v9f)
      clear F_29 HA_29 TB_29 VW_29 HW_29 HG_29 KG_29 VP_29 HP_30
      clear v9f
      obtain ⟨_, a0, a1, _, _⟩ := HG_31.out
      go_wp2_with fail
      refine (laws_heldGueO _ t _ _ _ _ 1 _ KG_31.out HT.out (by omega) (by omega)).mono ?_
      rintro e v10 ⟨rfl, v10f⟩
      clear a0 a1
      have F_32 := Lib.hid (Fr.trans F_31.out v10f)
      have HA_32 := Lib.hid (HA_31.out.fr v10f)
      have TB_32 := Lib.hid (TB_31.out.fr v10f)
      have VW_32 := Lib.hid (VW_31.out.fr v10f)
      have HW_32 := Lib.hid (HW_31.out.fr v10f)
      have HG_32 := Lib.hid (HG_31.out.fr v10f)
      have KG_32 := Lib.hid (KG_31.out.fr v10f)
      have VP_32 := Lib.hid (VP_31.out.fr v10f)
      have HP_32 := Lib.hid (HP_31.out.fr v10f)
      clear F_31 HA_31 TB_31 VW_31 HW_31 HG_31 KG_31 VP_31 HP_31
      clear v10f
      go_wp2_with fail
      go_ret
      exact ⟨rfl, F_32.out⟩
  · go_wp2_with fail
    go_ret
    exact ⟨rfl, HF0.out.trans f1⟩

set_option maxRecDepth 100000 in
theorem lifted (os : Os) (started : os.Started) (H : Type) (enc : TypeId × Value → H) :
    ReturnsInHanded {} Tryd.checked os 4 .any (fun w args => (Rows.fnExactGueSeenSpec.pre enc Tryd.prog Tryd.f4 [] false w args ∧ laidMetH Tryd.prog laidAll w) ∧ sizedMet enc Tryd.prog Tryd.f4 (OpenSpec.ofChange Rows.fnExactGueSeenSpec) false w args)
      (Rows.fnExactGueSeenSpec.post enc Tryd.prog Tryd.f4 false true false false) := by
  refine returnsInHanded_of_change_and (C := Tryd.checked) (X := fun w _ => laidMetH Tryd.prog laidAll w) (fun _ _ _ hh h => h.of_heap hh) own started (by kernel_rfl) Tryd.func4
    (ChangeSpec.witness_shaped (enc := enc) (C := Tryd.checked) (os := os) (X := fun w _ => laidMetH Tryd.prog laidAll w) false (World.doorLaid Tryd.prog 400 os) #[.agg #[.slice none 0 0, .slice none 0 0], .int .i64 0, .int .i64 0] 8 rfl (World.shaped_of_RefB (by kernel_rfl) (by kernel_rfl)) (by kernel_rfl) (by kernel_rfl) (by kernel_rfl) (door_met os _)) ?_
  intro W base args ds gs before hval0 hW _ _ hL _
  have hval : ∀ (j : Nat) t v, Tryd.f4.params[j]? = some t → args[j]? = some v → Value.okWide Tryd.prog W .any base t v := hval0
  have hW' := hW
  obtain ⟨p, q, hA0, hV0, rfl, hfz, hnd⟩ := hW
  have hA : DataW.TrodAll enc Tryd.prog W 0 (fun _ => true) true Tryd.f4.params.toList args.toList ds p := hA0
  have hV : DataW.TrodVars enc Tryd.prog W (fun _ => true) laidNames gs q := hV0
  rw [Tryd.params4] at hA hval
  obtain ⟨v0, vs0, d0, ds0, p0, q0, hargs, rfl, rfl, h0, r0⟩ := trodAll_cons hA
  obtain ⟨v1, vs1, d1, ds1, p1, q1, rfl, rfl, rfl, h1, r1⟩ := trodAll_cons r0
  obtain ⟨v2, vs2, d2, ds2, p2, q2, rfl, rfl, rfl, h2, r2⟩ := trodAll_cons r1
  obtain ⟨rfl, rfl, rfl⟩ := trodAll_nil r2
  obtain rfl : args = #[v0, v1, v2] := by cases args; simp_all
  have hV1 := hV
  obtain ⟨g0, t0, cs0, f0, e0, s0, g1, t1, cs1, f1, e1, s1, rfl, _⟩ := trodVars_two hV1
  have k0 := h0
  have lt0 : ∀ x ∈ p0, x.block < W.heap.size := by obtain ⟨m, hm⟩ := k0; exact DataW.trod_lt m _ _ _ hm
  obtain ⟨s0, aS0, aC0, cS0, cC0, rfl, hs0, hc0, hb0⟩ := open_gue (hval 0 25 v0 rfl rfl) h0
  have k1 := h1
  have lt1 : ∀ x ∈ p1, x.block < W.heap.size := by obtain ⟨m, hm⟩ := k1; exact DataW.trod_lt m _ _ _ hm
  obtain ⟨x1, rfl, rfl, rfl, wf1⟩ := open_int Tryd.underlying3 (hval 1 3 v1 rfl rfl) h1
  have k2 := h2
  have lt2 : ∀ x ∈ p2, x.block < W.heap.size := by obtain ⟨m, hm⟩ := k2; exact DataW.trod_lt m _ _ _ hm
  obtain ⟨x2, rfl, rfl, rfl, wf2⟩ := open_int Tryd.underlying3 (hval 2 3 v2 rfl rfl) h2
  clear hA0 hval0 hV1
  refine (walk s0 aS0 aC0 cS0 cC0 x1 x2 W (tabs_of_laid hL) hs0 hc0 hb0 wf1 wf2).mono fun e W' ⟨he, bel⟩ => ?_
  subst he
  exact ⟨_, rfl, _, _, _, [], _, _, hW', trodAll_mk1 (shut_bool Tryd.underlying4 _), (trodAll_cons_mk (Below.trod laidOut (by kernel_rfl) (of_decide_eq_true (by kernel_rfl)) k0 bel lt0) (trodAll_cons_mk (Below.trod laidOut (by kernel_rfl) (of_decide_eq_true (by kernel_rfl)) k1 bel lt1) (trodAll_cons_mk (Below.trod laidOut (by kernel_rfl) (of_decide_eq_true (by kernel_rfl)) k2 bel lt2) trodAll_mk0))), bel.trodVars laidOut (by kernel_rfl) hV, bel.frame _, fun h => by cases h⟩

theorem over : Rows.fnExactGueSeenRow.holds Tryd.pinned (OpenSpec.ofChange Rows.fnExactGueSeenSpec) :=
  OpenClaim.holds_of_wide 4 Tryd.f4 rfl rfl rfl rfl rfl rfl rfl ⟨rfl, rfl, rfl, rfl, rfl⟩ rfl rfl rfl rfl rfl (by kernel_rfl) Tryd.func4 (by kernel_rfl)
    (of_decide_eq_true (by kernel_rfl)) (by unfold Func.isWrapper; first | (rw [if_pos (by decide +kernel)]; kernel_rfl) | (rw [if_neg (by decide +kernel)]; exact ⟨rfl, rfl⟩))
    (fun os started H enc _ => lifted os started H enc)

/-- THE STATEMENT: the tied card. -/
theorem proved : Rows.FnExactGueSeenCardSaid :=
  Claim7.holds_tied_plain_at .later [] [.wider, .data] true (true, "28d99e4bb5833289285c2c429367b0fb1fb952ebfb3705a8c1c83c2f0ebee928") false
    over (fun _ h => by cases h) (by kernel_rfl) (fun _ h => by cases h) fnExactGueSeen_row_tie rfl ⟨rfl, rfl⟩ (by kernel_rfl) rfl
    (fun f fn hf hfn => by
      obtain rfl : f = 4 := Option.some.inj ((show Tryd.prog.funcNamed "loop.example/harbinger/laws.FnExactGueSeen" = some 4 by kernel_rfl).symm.trans hf) |>.symm
      obtain rfl : fn = Tryd.f4 := (Option.some.inj (Tryd.func4.symm.trans hfn)).symm
      exact ⟨by kernel_rfl, fun j t ht => by
        rw [Tryd.params4] at ht
        have hm : t ∈ [25, 3, 3] := by simpa using Array.mem_of_getElem? ht
        have hall : ([25, 3, 3].all fun u => !Tryd.prog.wantsStandIn u) = true := by kernel_rfl
        exact (show Tryd.prog.wantsStandIn t = false by simpa using List.all_eq_true.1 hall t hm)⟩)
    (by kernel_rfl)
#print axioms proved
end Go.Proofs.YtpdlcjjmhcfkjaaDoor.fnExactGueSeen
