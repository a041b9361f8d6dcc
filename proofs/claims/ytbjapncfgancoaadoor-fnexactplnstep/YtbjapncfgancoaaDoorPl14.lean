/- The model's l4Step. -/
import Derived.Test.YtbjapncfgancoaaDoorPl13
namespace Go.Proofs.YtbjapncfgancoaaDoor
open Go.RowKit
set_option linter.unusedVariables false
set_option linter.unusedSimpArgs false
/-- What lies beside a machine in a step. -/
structure Lt (v : World) (B : Nat) (s : St) (gr gc gm cr cc cm : Nat) (e : Ev) : Prop where
 S : Box4 v B (.int .i64 s.pc) (.slice (some ⟨gr, 0, none⟩) 8 cr) (.slice (some ⟨gc, 0, none⟩) 5 cc) (.slice (some ⟨gm, 0, none⟩) 256 cm)
 E : Box7 v (B + 3) e
 Z : Box4 v (B + 1) (.int .i64 0) (.slice none 0 0) (.slice none 0 0) (.slice none 0 0)
 Y : Box7 v (B + 2) ev00
 O : Own v gr gc gm s
theorem Lt.but {L : List Nat} {v v' : World} {B : Nat} {s : St} {gr gc gm cr cc cm : Nat} {e : Ev} (h : Lt v B s gr gc gm cr cc cm e) (f : But L v v') (h0 : B ∉ L) (h1 : B + 1 ∉ L) (h2 : B + 2 ∉ L) (h3 : B + 3 ∉ L) (hr : gr ∉ L) (hc : gc ∉ L) (hm : gm ∉ L) : Lt v' B s gr gc gm cr cc cm e :=
 ⟨h.S.but f h0, h.E.but f h3, h.Z.but f h1, h.Y.but f h2, h.O.but f hr hc hm⟩
theorem Lt.fr {v v' : World} {B : Nat} {s : St} {gr gc gm cr cc cm : Nat} {e : Ev} (h : Lt v B s gr gc gm cr cc cm e) (f : Fr v v') : Lt v' B s gr gc gm cr cc cm e := h.but (L := []) (But.of f) (by simp) (by simp) (by simp) (by simp) (by simp) (by simp) (by simp)
set_option maxRecDepth 8000 in
set_option maxHeartbeats 4000000 in
theorem spec_Step_ring (s : St) (gr gc gm cr cc cm : Nat) (u00 : World) (ho : Own u00 gr gc gm s) (hk : OkS s) (hu : usr s.C = true) :
  Calls Tryd.prog 47 #[.agg #[.int .i64 s.pc, .slice (some ⟨gr, 0, none⟩) 8 cr, .slice (some ⟨gc, 0, none⟩) 5 cc, .slice (some ⟨gm, 0, none⟩) 256 cm], .bool true] u00 (MP (stopS s 7) ⟨s.pc, -1, 7, 0, 0, -1, 0⟩ gr gc gm cr cc cm u00) := by
 have lr := ho.R.lt
 have lc := ho.C.lt
 have lm := ho.M.lt
 have HO0 := Lib.hid ho
 have HK := Lib.hid hk
 have HCl := Lib.hid hk.Cl
 have HC3 := Lib.hid (And.intro (ok_get hk.C 3).1 hk.c3)
 have c3b := ok_get hk.C 3
 have hc4 := hk.c3
 have pb := okB_true hk.pc
 obtain ⟨t3, h3⟩ : ∃ t, t = s.C.getD 3 0 := ⟨_, rfl⟩
 have H3 := Lib.hid h3.symm
 rw [← h3] at c3b hc4
 have k3 := ho.C.cel 3 (by rw [HCl.out]; decide)
 rw [H3.out] at k3
 have l1 : gc < u00.heap.size + 1 := by omega
 have l2 : gc < u00.heap.size + 1 + 1 := by omega
 have l3 : gc < u00.heap.size + 1 + 1 + 1 := by omega
 have l4 : gc < u00.heap.size + 1 + 1 + 1 + 1 := by omega
 have m2 : gc < u00.heap.size + 2 := by omega
 have m3 : gc < u00.heap.size + 3 := by omega
 have m4 : gc < u00.heap.size + 4 := by omega
 have hp : t3 % 2 = 1 := by rw [h3]; simpa [usr] using hu
 clear ho hk hu h3
 go_enter Tryd.func47, Tryd.ntmps47
 go_wp2_with fail
 refine wp_gen (fun v => Lt v u00.heap.size s gr gc gm cr cc cm (⟨s.pc, -1, 7, 0, 0, -1, 0⟩ : Ev) ∧ But [gr, gc, gm] u00 v) ⟨⟨?_, ?_, ?_, ?_, ?_⟩, ?_⟩ ?_
 ·(repeat with_reducible first | assumption | exact Box4.new _ _ _ _ _ _ _ (by first | rfl | simp | (simp; omega)) | refine Box4.alloc ?_ _ | refine Box4.drew ?_ | refine Box4.drewN ?_ _ | refine Box4.other ?_ _ _ _ (by omega))
 ·first | (exact Box7.newv _ _ _ _ _ _ _ _ _ _ (by simp)) | (repeat with_reducible first | assumption | exact Box7.new _ _ _ _ (by first | rfl | simp | (simp; omega)) | exact Box7.newv _ _ _ _ _ _ _ _ _ _ (by first | rfl | simp | (simp; omega)) | refine Box7.alloc ?_ _ | refine Box7.drew ?_ | refine Box7.drewN ?_ _ | refine Box7.other ?_ _ _ _ (by omega))
 ·(repeat with_reducible first | assumption | exact Box4.new _ _ _ _ _ _ _ (by first | rfl | simp | (simp; omega)) | refine Box4.alloc ?_ _ | refine Box4.drew ?_ | refine Box4.drewN ?_ _ | refine Box4.other ?_ _ _ _ (by omega))
 ·(repeat with_reducible first | assumption | exact Box7.new _ _ _ _ (by first | rfl | simp | (simp; omega)) | exact Box7.newv _ _ _ _ _ _ _ _ _ _ (by first | rfl | simp | (simp; omega)) | refine Box7.alloc ?_ _ | refine Box7.drew ?_ | refine Box7.drewN ?_ _ | refine Box7.other ?_ _ _ _ (by omega))
 ·(repeat with_reducible first | refine Own.alloc ?_ _ | refine Own.drew ?_ | refine Own.drewN ?_ _ | refine Own.other ?_ _ _ _ (by omega) (by omega) (by omega))
  exact HO0.out
 ·(repeat with_reducible first | exact But.refl _ _ | assumption | refine But.alloc ?_ _ | refine But.drew ?_ | refine But.drewN ?_ _ | refine But.set ?_ _ _ _ (by first | (left; simp; done) | (right; simp; done) | (right; omega) | (right; simp; omega)))
 simp only [Nat.add_assoc, Nat.reduceAdd]
 clear k3 hp l1 l2 l3 l4 m2 m3 m4
 rintro v0 ⟨lo, hB⟩
 have HLo := Lib.hid lo
 have HBt := Lib.hid hB
 have hsz := hB.size
 obtain ⟨⟨g1, s0, s1, s2, s3, S0, S1, S2, S3⟩, ⟨g5, e0, e1, e2, e3, e4, e5, e6, E0, E1, E2, E3, E4, E5, E6⟩, g6, g7, g8⟩ := lo
 clear hB g1 g5 g6 g7 g8
 have HS := Lib.hid HLo.out.S
 have HE := Lib.hid HLo.out.E
 have HZ := Lib.hid HLo.out.Z
 have HY := Lib.hid HLo.out.Y
 have HO := Lib.hid HLo.out.O
 clear s0 s1 s2 s3 S0 S1 S2 S3 e0 e1 e2 e3 e4 e5 e6 E0 E1 E2 E3 E4 E5 E6 hsz
 clear HLo
 refine wp_region_rows 70 4 [gc, u00.heap.size + 1] (fun i => if i = 1 then [gc] else if i = 3 then [u00.heap.size + 1] else []) lb2_in (fun i => false) (fun i v u => match i with | 0 => v = .agg #[.int .i64 s.pc, .slice (some ⟨gr, 0, none⟩) 8 cr, .slice (some ⟨gc, 0, none⟩) 5 cc, .slice (some ⟨gm, 0, none⟩) 256 cm] | 1 => v = .agg #[.int .i64 8, .slice (some ⟨gr, 0, none⟩) 8 cr, .slice (some ⟨gc, 0, none⟩) 5 cc, .slice (some ⟨gm, 0, none⟩) 256 cm] ∧ Own u gr gc gm (stopS s 7) | 2 => v = .agg #[.int .i64 ((⟨s.pc, -1, 7, 0, 0, -1, 0⟩ : Ev)).pc, .int .i64 ((⟨s.pc, -1, 7, 0, 0, -1, 0⟩ : Ev)).w, .int .i64 ((⟨s.pc, -1, 7, 0, 0, -1, 0⟩ : Ev)).why, .int .i64 ((⟨s.pc, -1, 7, 0, 0, -1, 0⟩ : Ev)).d, .int .i64 ((⟨s.pc, -1, 7, 0, 0, -1, 0⟩ : Ev)).v, .int .i64 ((⟨s.pc, -1, 7, 0, 0, -1, 0⟩ : Ev)).ad, .int .i64 ((⟨s.pc, -1, 7, 0, 0, -1, 0⟩ : Ev)).dt] | 3 => v = undef ∧ Box4 u (u00.heap.size + 1) (.int .i64 8) (.slice (some ⟨gr, 0, none⟩) 8 cr) (.slice (some ⟨gc, 0, none⟩) 5 cc) (.slice (some ⟨gm, 0, none⟩) 256 cm) | _ => True) ?mono (by kernel_rfl) (by kernel_rfl) rfl (by kernel_rfl) (by kernel_rfl) (by decide) ?step ?fin
 case mono =>
  intro i j v u u' hi hij hdj hsz h hB
  rcases j with _ | _ | _ | _ | j
  ·exact h
  ·refine ⟨h.1, ?_⟩
   have hB' : But [u00.heap.size + 1] u u' := hB.mono (fun k hk _ => lb2_out i hij k hk)
   exact h.2.but hB' (by simp; omega) (by simp; omega) (by simp; omega)
  ·exact h
  ·refine ⟨h.1, ?_⟩
   have hB' : But [gc] u u' := hB.mono (fun k hk _ => lb2_out' i hij k hk)
   exact h.2.but hB' (by simp; omega)
  ·trivial
 case step =>
  intro i o ho hiz
  rcases i with _ | _ | _ | _ | _ | i
  ·clear hiz
   cases ho
   intro act u hB hL hdep hap hnw
   replace hB := hB [gc, u00.heap.size + 1] (fun j _ k hk => lb2_in j k hk)
   have x2 := out_val hL (k := 2) (by kernel_rfl) rfl rfl
   clear hdep hL hap hnw
   have Bx := HS.out.but hB (by simp; try omega)
   obtain ⟨lt, c0, c1, c2, c3, _, _, _, _⟩ := Bx
   refine wpOp_step rfl (fun K hK => ?_)
   go_simp
   exact hK _ _ ⟨_, rfl, (fun h => by cases h), rfl, But.refl _ _, (fun h => by cases h)⟩
  ·clear hiz
   cases ho
   intro act u hB hL hdep hap hnw
   replace hB := hB [u00.heap.size + 1] lb2_out
   have e0 : act.tmps.getD 23 undef = _ := hdep { on := 0, ground := .data } (by simp) rfl _ rfl
   have hdf := Lib.hid (show act.defers = [] from hL.1)
   clear hdep hL hap hnw
   refine wpOp_step rfl (fun K hK => ?_)
   go_simp
   refine (spec_l4Stop s gr gc gm cr cc cm 7 u (HO.out.but hB (by simp; omega) (by simp; omega) (by simp; omega)) HCl.out HC3.out.1 HC3.out.2).mono ?_
   rintro e u' ⟨rfl, ho', hB'⟩
   go_simp
   exact hK _ _ ⟨_, rfl, (fun h => by cases h), ⟨rfl, ho'⟩, hB', (fun h => by cases h)⟩
  ·clear hiz
   cases ho
   intro act u hB hL hdep hap hnw
   replace hB := hB [gc, u00.heap.size + 1] (fun j _ k hk => lb2_in j k hk)
   have x6 := out_val hL (k := 6) (by kernel_rfl) rfl rfl
   clear hdep hL hap hnw
   have Bx := HE.out.but hB (by simp; try omega)
   obtain ⟨lt, c0, c1, c2, c3, c4, c5, c6, _, _, _, _, _, _, _⟩ := Bx
   refine wpOp_step rfl (fun K hK => ?_)
   go_simp
   exact hK _ _ ⟨_, rfl, (fun h => by cases h), rfl, But.refl _ _, (fun h => by cases h)⟩
  ·clear hiz
   cases ho
   intro act u hB hL hdep hap hnw
   replace hB := hB [gc] lb2_out'
   obtain ⟨h1, ow⟩ := hdep { on := 1, ground := .data } (by simp) rfl _ rfl
   have e1 : act.tmps.getD 24 undef = .agg #[.int .i64 8, .slice (some ⟨gr, 0, none⟩) 8 cr, .slice (some ⟨gc, 0, none⟩) 5 cc, .slice (some ⟨gm, 0, none⟩) 256 cm] := h1
   have x4 := out_val hL (k := 4) (by kernel_rfl) rfl rfl
   clear ow
   clear hdep hL hap hnw h1
   have Bz0 := HZ.out.but hB (by simp; try omega)
   have Bz1 := Bz0
   obtain ⟨lt, c0, c1, c2, c3, f0, f1, f2, f3⟩ := Bz1
   refine wpOp_step rfl (fun K hK => ?_)
   go_simp
   exact hK _ _ ⟨undef, rfl, (fun _ => rfl), ⟨rfl, Bz0.set (.int .i64 8) (.slice (some ⟨gr, 0, none⟩) 8 cr) (.slice (some ⟨gc, 0, none⟩) 5 cc) (.slice (some ⟨gm, 0, none⟩) 256 cm)⟩, (But.refl _ _).set4 (u00.heap.size + 1) _ _ _ _ (.inl (by simp)), (fun h => by cases h)⟩
  ·exact absurd rfl hiz
  ·exact absurd ho (by simp)
 case fin =>
  intro act u hB hL hsf hap hnw
  have d2 := hsf 2 _ rfl (by decide)
  have d3 := hsf 3 _ rfl (by decide)
  have d1 := hsf 1 _ rfl (by decide)
  obtain ⟨ysl, ha, hy⟩ := hL.puts [23, 24, 25] (by kernel_rfl)
  have e2 : ysl 25 = _ := (hy 25).symm.trans d2
  obtain ⟨h3, Bz⟩ := d3
  obtain ⟨h1, ow⟩ := d1
  have e1 : ysl 24 = .agg #[.int .i64 8, .slice (some ⟨gr, 0, none⟩) 8 cr, .slice (some ⟨gc, 0, none⟩) 5 cc, .slice (some ⟨gm, 0, none⟩) 256 cm] := (hy 24).symm.trans h1
  clear hL hsf hy hap hnw d2 h1
  simp only [List.foldl, List.setIfInBounds_toArray, List.set_cons_succ, List.set_cons_zero, e2, e1] at ha
  subst ha
  clear e2 e1
  have ow1 : Own u gr gc gm (stopS s 7) := ow
  have Bz1 := Bz
  obtain ⟨_, z0, z1, z2, z3, _, _, _, _⟩ := Bz1
  have By := HY.out.but hB (by simp; try omega)
  have By1 := By
  obtain ⟨yl, y0, y1, y2, y3, y4, y5, y6, x0, x1, x2, x3, x4, x5, x6⟩ := By1
  have hB2 : But [gr, gc, gm] u00 u := HBt.out.trans2 hB (fun k hk => by simp at hk ⊢; omega)
  refine wpOp_step rfl (fun K hK => ?_)
  go_simp
  refine hK _ _ ?_
  refine wp_seq_gen (fun t => Own t gr gc gm (stopS s 7) ∧ Box4 t (u00.heap.size + 1) (.int .i64 8) (.slice (some ⟨gr, 0, none⟩) 8 cr) (.slice (some ⟨gc, 0, none⟩) 5 cc) (.slice (some ⟨gm, 0, none⟩) 256 cm) ∧ Box7 t (u00.heap.size + 2) ((⟨s.pc, -1, 7, 0, 0, -1, 0⟩ : Ev)) ∧ But [gr, gc, gm] u00 t) ⟨?_, ?_, ?_, ?_⟩ ?_
  ·(repeat with_reducible first | refine Own.alloc ?_ _ | refine Own.drew ?_ | refine Own.drewN ?_ _ | refine Own.other ?_ _ _ _ (by omega) (by omega) (by omega))
   exact ow1
  ·(repeat with_reducible first | assumption | exact Box4.new _ _ _ _ _ _ _ (by first | rfl | simp | (simp; omega)) | refine Box4.alloc ?_ _ | refine Box4.drew ?_ | refine Box4.drewN ?_ _ | refine Box4.other ?_ _ _ _ (by omega))
  ·exact ((((((By.set0 _).set1 _).set2 _).set3 _).set4 _).set5 _).set6 _
  ·(repeat with_reducible first | exact But.refl _ _ | assumption | refine But.alloc ?_ _ | refine But.drew ?_ | refine But.drewN ?_ _ | refine But.set ?_ _ _ _ (by first | (left; simp; done) | (right; simp; done) | (right; omega) | (right; simp; omega)))
  clear z0 z1 z2 z3 y0 y1 y2 y3 y4 y5 y6 x0 x1 x2 x3 x4 x5 x6 By Bz ow1 hB2 hB yl
  rintro t ⟨ow2, bz, by', hB2⟩
  obtain ⟨_, z0, z1, z2, z3, _, _, _, _⟩ := bz
  obtain ⟨_, y0, y1, y2, y3, y4, y5, y6, _, _, _, _, _, _, _⟩ := by'
  go_wp2
  refine bodyPost_ret (v := .tuple #[.agg #[.int .i64 8, .slice (some ⟨gr, 0, none⟩) 8 cr, .slice (some ⟨gc, 0, none⟩) 5 cc, .slice (some ⟨gm, 0, none⟩) 256 cm], .agg #[.int .i64 ((⟨s.pc, -1, 7, 0, 0, -1, 0⟩ : Ev)).pc, .int .i64 ((⟨s.pc, -1, 7, 0, 0, -1, 0⟩ : Ev)).w, .int .i64 ((⟨s.pc, -1, 7, 0, 0, -1, 0⟩ : Ev)).why, .int .i64 ((⟨s.pc, -1, 7, 0, 0, -1, 0⟩ : Ev)).d, .int .i64 ((⟨s.pc, -1, 7, 0, 0, -1, 0⟩ : Ev)).v, .int .i64 ((⟨s.pc, -1, 7, 0, 0, -1, 0⟩ : Ev)).ad, .int .i64 ((⟨s.pc, -1, 7, 0, 0, -1, 0⟩ : Ev)).dt]]) (by simp [results, Tryd.results47, go_sem, z0, z1, z2, z3, y0, y1, y2, y3, y4, y5, y6]) rfl ?_
  exact ⟨rfl, ow2, hB2⟩
set_option maxRecDepth 8000 in
set_option maxHeartbeats 4000000 in
theorem spec_Step_takeT (s : St) (gr gc gm cr cc cm : Nat) (u00 : World) (ho : Own u00 gr gc gm s) (hk : OkS s) (hu : usr s.C = false) (hs : see s.C s.M s.pc false < 0) :
  Calls Tryd.prog 47 #[.agg #[.int .i64 s.pc, .slice (some ⟨gr, 0, none⟩) 8 cr, .slice (some ⟨gc, 0, none⟩) 5 cc, .slice (some ⟨gm, 0, none⟩) 256 cm], .bool true] u00 (MP (stopS s 2) ⟨s.pc, -1, 2, 0, 0, -1, 0⟩ gr gc gm cr cc cm u00) := by
 have lr := ho.R.lt
 have lc := ho.C.lt
 have lm := ho.M.lt
 have HO0 := Lib.hid ho
 have HK := Lib.hid hk
 have HCl := Lib.hid hk.Cl
 have HC3 := Lib.hid (And.intro (ok_get hk.C 3).1 hk.c3)
 have c3b := ok_get hk.C 3
 have hc4 := hk.c3
 have pb := okB_true hk.pc
 obtain ⟨t3, h3⟩ : ∃ t, t = s.C.getD 3 0 := ⟨_, rfl⟩
 have H3 := Lib.hid h3.symm
 rw [← h3] at c3b hc4
 have k3 := ho.C.cel 3 (by rw [HCl.out]; decide)
 rw [H3.out] at k3
 have l1 : gc < u00.heap.size + 1 := by omega
 have l2 : gc < u00.heap.size + 1 + 1 := by omega
 have l3 : gc < u00.heap.size + 1 + 1 + 1 := by omega
 have l4 : gc < u00.heap.size + 1 + 1 + 1 + 1 := by omega
 have m2 : gc < u00.heap.size + 2 := by omega
 have m3 : gc < u00.heap.size + 3 := by omega
 have m4 : gc < u00.heap.size + 4 := by omega
 have EP := Lib.hid (fun (v : World) (ov : Own v gr gc gm s) => spec_l4Page s.C s.M (some ⟨gc, 0, none⟩) (some ⟨gm, 0, none⟩) cc cm s.pc false v ov.C.src ov.M.src hk.Cl hk.Ml hk.C hk.M pb.1 pb.2)
 rw [hk.Cl, hk.Ml] at EP
 have HQ := see_bd s.C s.M s.pc false pb.1
 have HMl := Lib.hid hk.Ml
 have h5 : ¬ s.C.getD 3 0 % 2 = 1 := by simpa [usr] using hu
 have hp : t3 % 2 = 0 := by omega
 clear h5
 generalize see s.C s.M s.pc false = q at *
 clear ho hk h3 hu
 go_enter Tryd.func47, Tryd.ntmps47
 go_wp2_with fail
 refine calls_gen (fun v => Lt v u00.heap.size s gr gc gm cr cc cm (⟨s.pc, -1, 0, 0, 0, -1, 0⟩ : Ev) ∧ But [gr, gc, gm] u00 v) ⟨⟨?_, ?_, ?_, ?_, ?_⟩, ?_⟩ ?_
 ·(repeat with_reducible first | assumption | exact Box4.new _ _ _ _ _ _ _ (by first | rfl | simp | (simp; omega)) | refine Box4.alloc ?_ _ | refine Box4.drew ?_ | refine Box4.drewN ?_ _ | refine Box4.other ?_ _ _ _ (by omega))
 ·first | (exact Box7.newv _ _ _ _ _ _ _ _ _ _ (by simp)) | (repeat with_reducible first | assumption | exact Box7.new _ _ _ _ (by first | rfl | simp | (simp; omega)) | exact Box7.newv _ _ _ _ _ _ _ _ _ _ (by first | rfl | simp | (simp; omega)) | refine Box7.alloc ?_ _ | refine Box7.drew ?_ | refine Box7.drewN ?_ _ | refine Box7.other ?_ _ _ _ (by omega))
 ·(repeat with_reducible first | assumption | exact Box4.new _ _ _ _ _ _ _ (by first | rfl | simp | (simp; omega)) | refine Box4.alloc ?_ _ | refine Box4.drew ?_ | refine Box4.drewN ?_ _ | refine Box4.other ?_ _ _ _ (by omega))
 ·(repeat with_reducible first | assumption | exact Box7.new _ _ _ _ (by first | rfl | simp | (simp; omega)) | exact Box7.newv _ _ _ _ _ _ _ _ _ _ (by first | rfl | simp | (simp; omega)) | refine Box7.alloc ?_ _ | refine Box7.drew ?_ | refine Box7.drewN ?_ _ | refine Box7.other ?_ _ _ _ (by omega))
 ·(repeat with_reducible first | refine Own.alloc ?_ _ | refine Own.drew ?_ | refine Own.drewN ?_ _ | refine Own.other ?_ _ _ _ (by omega) (by omega) (by omega))
  exact HO0.out
 ·(repeat with_reducible first | exact But.refl _ _ | assumption | refine But.alloc ?_ _ | refine But.drew ?_ | refine But.drewN ?_ _ | refine But.set ?_ _ _ _ (by first | (left; simp; done) | (right; simp; done) | (right; omega) | (right; simp; omega)))
 simp only [Nat.add_assoc, Nat.reduceAdd]
 clear k3 l1 l2 l3 l4 m2 m3 m4 hp
 rintro v1 ⟨lo, hB⟩
 have HLo := Lib.hid lo
 have HBt := Lib.hid hB
 have hsz := hB.size
 obtain ⟨⟨g1, s0, s1, s2, s3, S0, S1, S2, S3⟩, ⟨g5, e0, e1, e2, e3, e4, e5, e6, E0, E1, E2, E3, E4, E5, E6⟩, g6, g7, g8⟩ := lo
 clear hB g1 g5 g6 g7 g8
 refine (EP.out v1 HLo.out.O).mono ?_
 rintro r w' ⟨rfl, rfl⟩
 go_wp2_with fail
 refine wp_gen (fun v => Lt v u00.heap.size s gr gc gm cr cc cm (⟨s.pc, -1, 2, 0, 0, -1, 0⟩ : Ev) ∧ But [gr, gc, gm] u00 v) ⟨⟨?_, ?_, ?_, ?_, ?_⟩, ?_⟩ ?_
 ·have q1 := HLo.out.S
  (repeat with_reducible first | assumption | exact Box4.new _ _ _ _ _ _ _ (by first | rfl | simp | (simp; omega)) | refine Box4.alloc ?_ _ | refine Box4.drew ?_ | refine Box4.drewN ?_ _ | refine Box4.other ?_ _ _ _ (by omega))
 ·have q1 := HLo.out.E
  exact q1.set2 2
 ·have q1 := HLo.out.Z
  (repeat with_reducible first | assumption | exact Box4.new _ _ _ _ _ _ _ (by first | rfl | simp | (simp; omega)) | refine Box4.alloc ?_ _ | refine Box4.drew ?_ | refine Box4.drewN ?_ _ | refine Box4.other ?_ _ _ _ (by omega))
 ·have q1 := HLo.out.Y
  (repeat with_reducible first | assumption | exact Box7.new _ _ _ _ (by first | rfl | simp | (simp; omega)) | exact Box7.newv _ _ _ _ _ _ _ _ _ _ (by first | rfl | simp | (simp; omega)) | refine Box7.alloc ?_ _ | refine Box7.drew ?_ | refine Box7.drewN ?_ _ | refine Box7.other ?_ _ _ _ (by omega))
 ·have q1 := HLo.out.O
  (repeat with_reducible first | refine Own.alloc ?_ _ | refine Own.drew ?_ | refine Own.drewN ?_ _ | refine Own.other ?_ _ _ _ (by omega) (by omega) (by omega))
  exact q1
 ·have hB := HBt.out
  (repeat with_reducible first | exact But.refl _ _ | assumption | refine But.alloc ?_ _ | refine But.drew ?_ | refine But.drewN ?_ _ | refine But.set ?_ _ _ _ (by first | (left; simp; done) | (right; simp; done) | (right; omega) | (right; simp; omega)))
 clear s0 s1 s2 s3 S0 S1 S2 S3 e0 e1 e2 e3 e4 e5 e6 E0 E1 E2 E3 E4 E5 E6 hsz
 clear HLo HBt
 clear v1
 rintro v0 ⟨lo, hB⟩
 have HLo := Lib.hid lo
 have HBt := Lib.hid hB
 have hsz := hB.size
 obtain ⟨⟨g1, s0, s1, s2, s3, S0, S1, S2, S3⟩, ⟨g5, e0, e1, e2, e3, e4, e5, e6, E0, E1, E2, E3, E4, E5, E6⟩, g6, g7, g8⟩ := lo
 clear hB g1 g5 g6 g7 g8
 have HS := Lib.hid HLo.out.S
 have HE := Lib.hid HLo.out.E
 have HZ := Lib.hid HLo.out.Z
 have HY := Lib.hid HLo.out.Y
 have HO := Lib.hid HLo.out.O
 clear s0 s1 s2 s3 S0 S1 S2 S3 e0 e1 e2 e3 e4 e5 e6 E0 E1 E2 E3 E4 E5 E6 hsz
 clear HLo
 refine wp_region_rows 70 4 [gc, u00.heap.size + 1] (fun i => if i = 1 then [gc] else if i = 3 then [u00.heap.size + 1] else []) lb2_in (fun i => false) (fun i v u => match i with | 0 => v = .agg #[.int .i64 s.pc, .slice (some ⟨gr, 0, none⟩) 8 cr, .slice (some ⟨gc, 0, none⟩) 5 cc, .slice (some ⟨gm, 0, none⟩) 256 cm] | 1 => v = .agg #[.int .i64 8, .slice (some ⟨gr, 0, none⟩) 8 cr, .slice (some ⟨gc, 0, none⟩) 5 cc, .slice (some ⟨gm, 0, none⟩) 256 cm] ∧ Own u gr gc gm (stopS s 2) | 2 => v = .agg #[.int .i64 ((⟨s.pc, -1, 2, 0, 0, -1, 0⟩ : Ev)).pc, .int .i64 ((⟨s.pc, -1, 2, 0, 0, -1, 0⟩ : Ev)).w, .int .i64 ((⟨s.pc, -1, 2, 0, 0, -1, 0⟩ : Ev)).why, .int .i64 ((⟨s.pc, -1, 2, 0, 0, -1, 0⟩ : Ev)).d, .int .i64 ((⟨s.pc, -1, 2, 0, 0, -1, 0⟩ : Ev)).v, .int .i64 ((⟨s.pc, -1, 2, 0, 0, -1, 0⟩ : Ev)).ad, .int .i64 ((⟨s.pc, -1, 2, 0, 0, -1, 0⟩ : Ev)).dt] | 3 => v = undef ∧ Box4 u (u00.heap.size + 1) (.int .i64 8) (.slice (some ⟨gr, 0, none⟩) 8 cr) (.slice (some ⟨gc, 0, none⟩) 5 cc) (.slice (some ⟨gm, 0, none⟩) 256 cm) | _ => True) ?mono (by kernel_rfl) (by kernel_rfl) rfl (by kernel_rfl) (by kernel_rfl) (by decide) ?step ?fin
 case mono =>
  intro i j v u u' hi hij hdj hsz h hB
  rcases j with _ | _ | _ | _ | j
  ·exact h
  ·refine ⟨h.1, ?_⟩
   have hB' : But [u00.heap.size + 1] u u' := hB.mono (fun k hk _ => lb2_out i hij k hk)
   exact h.2.but hB' (by simp; omega) (by simp; omega) (by simp; omega)
  ·exact h
  ·refine ⟨h.1, ?_⟩
   have hB' : But [gc] u u' := hB.mono (fun k hk _ => lb2_out' i hij k hk)
   exact h.2.but hB' (by simp; omega)
  ·trivial
 case step =>
  intro i o ho hiz
  rcases i with _ | _ | _ | _ | _ | i
  ·clear hiz
   cases ho
   intro act u hB hL hdep hap hnw
   replace hB := hB [gc, u00.heap.size + 1] (fun j _ k hk => lb2_in j k hk)
   have x2 := out_val hL (k := 2) (by kernel_rfl) rfl rfl
   clear hdep hL hap hnw
   have Bx := HS.out.but hB (by simp; try omega)
   obtain ⟨lt, c0, c1, c2, c3, _, _, _, _⟩ := Bx
   refine wpOp_step rfl (fun K hK => ?_)
   go_simp
   exact hK _ _ ⟨_, rfl, (fun h => by cases h), rfl, But.refl _ _, (fun h => by cases h)⟩
  ·clear hiz
   cases ho
   intro act u hB hL hdep hap hnw
   replace hB := hB [u00.heap.size + 1] lb2_out
   have e0 : act.tmps.getD 36 undef = _ := hdep { on := 0, ground := .data } (by simp) rfl _ rfl
   have hdf := Lib.hid (show act.defers = [] from hL.1)
   clear hdep hL hap hnw
   refine wpOp_step rfl (fun K hK => ?_)
   go_simp
   refine (spec_l4Stop s gr gc gm cr cc cm 2 u (HO.out.but hB (by simp; omega) (by simp; omega) (by simp; omega)) HCl.out HC3.out.1 HC3.out.2).mono ?_
   rintro e u' ⟨rfl, ho', hB'⟩
   go_simp
   exact hK _ _ ⟨_, rfl, (fun h => by cases h), ⟨rfl, ho'⟩, hB', (fun h => by cases h)⟩
  ·clear hiz
   cases ho
   intro act u hB hL hdep hap hnw
   replace hB := hB [gc, u00.heap.size + 1] (fun j _ k hk => lb2_in j k hk)
   have x6 := out_val hL (k := 6) (by kernel_rfl) rfl rfl
   clear hdep hL hap hnw
   have Bx := HE.out.but hB (by simp; try omega)
   obtain ⟨lt, c0, c1, c2, c3, c4, c5, c6, _, _, _, _, _, _, _⟩ := Bx
   refine wpOp_step rfl (fun K hK => ?_)
   go_simp
   exact hK _ _ ⟨_, rfl, (fun h => by cases h), rfl, But.refl _ _, (fun h => by cases h)⟩
  ·clear hiz
   cases ho
   intro act u hB hL hdep hap hnw
   replace hB := hB [gc] lb2_out'
   obtain ⟨h1, ow⟩ := hdep { on := 1, ground := .data } (by simp) rfl _ rfl
   have e1 : act.tmps.getD 37 undef = .agg #[.int .i64 8, .slice (some ⟨gr, 0, none⟩) 8 cr, .slice (some ⟨gc, 0, none⟩) 5 cc, .slice (some ⟨gm, 0, none⟩) 256 cm] := h1
   have x4 := out_val hL (k := 4) (by kernel_rfl) rfl rfl
   clear ow
   clear hdep hL hap hnw h1
   have Bz0 := HZ.out.but hB (by simp; try omega)
   have Bz1 := Bz0
   obtain ⟨lt, c0, c1, c2, c3, f0, f1, f2, f3⟩ := Bz1
   refine wpOp_step rfl (fun K hK => ?_)
   go_simp
   exact hK _ _ ⟨undef, rfl, (fun _ => rfl), ⟨rfl, Bz0.set (.int .i64 8) (.slice (some ⟨gr, 0, none⟩) 8 cr) (.slice (some ⟨gc, 0, none⟩) 5 cc) (.slice (some ⟨gm, 0, none⟩) 256 cm)⟩, (But.refl _ _).set4 (u00.heap.size + 1) _ _ _ _ (.inl (by simp)), (fun h => by cases h)⟩
  ·exact absurd rfl hiz
  ·exact absurd ho (by simp)
 case fin =>
  intro act u hB hL hsf hap hnw
  have d2 := hsf 2 _ rfl (by decide)
  have d3 := hsf 3 _ rfl (by decide)
  have d1 := hsf 1 _ rfl (by decide)
  obtain ⟨ysl, ha, hy⟩ := hL.puts [36, 37, 38] (by kernel_rfl)
  have e2 : ysl 38 = _ := (hy 38).symm.trans d2
  obtain ⟨h3, Bz⟩ := d3
  obtain ⟨h1, ow⟩ := d1
  have e1 : ysl 37 = .agg #[.int .i64 8, .slice (some ⟨gr, 0, none⟩) 8 cr, .slice (some ⟨gc, 0, none⟩) 5 cc, .slice (some ⟨gm, 0, none⟩) 256 cm] := (hy 37).symm.trans h1
  clear hL hsf hy hap hnw d2 h1
  simp only [List.foldl, List.setIfInBounds_toArray, List.set_cons_succ, List.set_cons_zero, e2, e1] at ha
  subst ha
  clear e2 e1
  have ow1 : Own u gr gc gm (stopS s 2) := ow
  have Bz1 := Bz
  obtain ⟨_, z0, z1, z2, z3, _, _, _, _⟩ := Bz1
  have By := HY.out.but hB (by simp; try omega)
  have By1 := By
  obtain ⟨yl, y0, y1, y2, y3, y4, y5, y6, x0, x1, x2, x3, x4, x5, x6⟩ := By1
  have hB2 : But [gr, gc, gm] u00 u := HBt.out.trans2 hB (fun k hk => by simp at hk ⊢; omega)
  refine wpOp_step rfl (fun K hK => ?_)
  go_simp
  refine hK _ _ ?_
  refine wp_seq_gen (fun t => Own t gr gc gm (stopS s 2) ∧ Box4 t (u00.heap.size + 1) (.int .i64 8) (.slice (some ⟨gr, 0, none⟩) 8 cr) (.slice (some ⟨gc, 0, none⟩) 5 cc) (.slice (some ⟨gm, 0, none⟩) 256 cm) ∧ Box7 t (u00.heap.size + 2) ((⟨s.pc, -1, 2, 0, 0, -1, 0⟩ : Ev)) ∧ But [gr, gc, gm] u00 t) ⟨?_, ?_, ?_, ?_⟩ ?_
  ·(repeat with_reducible first | refine Own.alloc ?_ _ | refine Own.drew ?_ | refine Own.drewN ?_ _ | refine Own.other ?_ _ _ _ (by omega) (by omega) (by omega))
   exact ow1
  ·(repeat with_reducible first | assumption | exact Box4.new _ _ _ _ _ _ _ (by first | rfl | simp | (simp; omega)) | refine Box4.alloc ?_ _ | refine Box4.drew ?_ | refine Box4.drewN ?_ _ | refine Box4.other ?_ _ _ _ (by omega))
  ·exact ((((((By.set0 _).set1 _).set2 _).set3 _).set4 _).set5 _).set6 _
  ·(repeat with_reducible first | exact But.refl _ _ | assumption | refine But.alloc ?_ _ | refine But.drew ?_ | refine But.drewN ?_ _ | refine But.set ?_ _ _ _ (by first | (left; simp; done) | (right; simp; done) | (right; omega) | (right; simp; omega)))
  clear z0 z1 z2 z3 y0 y1 y2 y3 y4 y5 y6 x0 x1 x2 x3 x4 x5 x6 By Bz ow1 hB2 hB yl
  rintro t ⟨ow2, bz, by', hB2⟩
  obtain ⟨_, z0, z1, z2, z3, _, _, _, _⟩ := bz
  obtain ⟨_, y0, y1, y2, y3, y4, y5, y6, _, _, _, _, _, _, _⟩ := by'
  go_wp2
  refine bodyPost_ret (v := .tuple #[.agg #[.int .i64 8, .slice (some ⟨gr, 0, none⟩) 8 cr, .slice (some ⟨gc, 0, none⟩) 5 cc, .slice (some ⟨gm, 0, none⟩) 256 cm], .agg #[.int .i64 ((⟨s.pc, -1, 2, 0, 0, -1, 0⟩ : Ev)).pc, .int .i64 ((⟨s.pc, -1, 2, 0, 0, -1, 0⟩ : Ev)).w, .int .i64 ((⟨s.pc, -1, 2, 0, 0, -1, 0⟩ : Ev)).why, .int .i64 ((⟨s.pc, -1, 2, 0, 0, -1, 0⟩ : Ev)).d, .int .i64 ((⟨s.pc, -1, 2, 0, 0, -1, 0⟩ : Ev)).v, .int .i64 ((⟨s.pc, -1, 2, 0, 0, -1, 0⟩ : Ev)).ad, .int .i64 ((⟨s.pc, -1, 2, 0, 0, -1, 0⟩ : Ev)).dt]]) (by simp [results, Tryd.results47, go_sem, z0, z1, z2, z3, y0, y1, y2, y3, y4, y5, y6]) rfl ?_
  exact ⟨rfl, ow2, hB2⟩
set_option maxRecDepth 8000 in
set_option maxHeartbeats 4000000 in
theorem spec_Step_codeT (s : St) (gr gc gm cr cc cm : Nat) (u00 : World) (ho : Own u00 gr gc gm s) (hk : OkS s) (hu : usr s.C = false) (hs : 0 ≤ see s.C s.M s.pc false) (hg : gd (wAt s) = false) :
  Calls Tryd.prog 47 #[.agg #[.int .i64 s.pc, .slice (some ⟨gr, 0, none⟩) 8 cr, .slice (some ⟨gc, 0, none⟩) 5 cc, .slice (some ⟨gm, 0, none⟩) 256 cm], .bool true] u00 (MP (stopS s 1) ⟨s.pc, wAt s, 1, 0, 0, -1, 0⟩ gr gc gm cr cc cm u00) := by
 have lr := ho.R.lt
 have lc := ho.C.lt
 have lm := ho.M.lt
 have HO0 := Lib.hid ho
 have HK := Lib.hid hk
 have HCl := Lib.hid hk.Cl
 have HC3 := Lib.hid (And.intro (ok_get hk.C 3).1 hk.c3)
 have c3b := ok_get hk.C 3
 have hc4 := hk.c3
 have pb := okB_true hk.pc
 obtain ⟨t3, h3⟩ : ∃ t, t = s.C.getD 3 0 := ⟨_, rfl⟩
 have H3 := Lib.hid h3.symm
 rw [← h3] at c3b hc4
 have k3 := ho.C.cel 3 (by rw [HCl.out]; decide)
 rw [H3.out] at k3
 have l1 : gc < u00.heap.size + 1 := by omega
 have l2 : gc < u00.heap.size + 1 + 1 := by omega
 have l3 : gc < u00.heap.size + 1 + 1 + 1 := by omega
 have l4 : gc < u00.heap.size + 1 + 1 + 1 + 1 := by omega
 have m2 : gc < u00.heap.size + 2 := by omega
 have m3 : gc < u00.heap.size + 3 := by omega
 have m4 : gc < u00.heap.size + 4 := by omega
 have EP := Lib.hid (fun (v : World) (ov : Own v gr gc gm s) => spec_l4Page s.C s.M (some ⟨gc, 0, none⟩) (some ⟨gm, 0, none⟩) cc cm s.pc false v ov.C.src ov.M.src hk.Cl hk.Ml hk.C hk.M pb.1 pb.2)
 rw [hk.Cl, hk.Ml] at EP
 have HQ := see_bd s.C s.M s.pc false pb.1
 have HMl := Lib.hid hk.Ml
 have h5 : ¬ s.C.getD 3 0 % 2 = 1 := by simpa [usr] using hu
 have hp : t3 % 2 = 0 := by omega
 clear h5
 obtain ⟨m, hm⟩ : ∃ m, m = wAt s := ⟨_, rfl⟩
 have HM := Lib.hid (show s.M.getD (see s.C s.M s.pc false).toNat 0 = m from hm.symm)
 have HD := Lib.hid (fun (v : World) => spec_CodRead m v)
 rw [← hm] at hg ⊢
 rw [rV_f hg] at HD
 clear hg
 clear hm
 generalize see s.C s.M s.pc false = q at *
 clear ho hk h3 hu
 go_enter Tryd.func47, Tryd.ntmps47
 go_wp2_with fail
 refine calls_gen (fun v => Lt v u00.heap.size s gr gc gm cr cc cm (⟨s.pc, -1, 0, 0, 0, -1, 0⟩ : Ev) ∧ But [gr, gc, gm] u00 v) ⟨⟨?_, ?_, ?_, ?_, ?_⟩, ?_⟩ ?_
 ·(repeat with_reducible first | assumption | exact Box4.new _ _ _ _ _ _ _ (by first | rfl | simp | (simp; omega)) | refine Box4.alloc ?_ _ | refine Box4.drew ?_ | refine Box4.drewN ?_ _ | refine Box4.other ?_ _ _ _ (by omega))
 ·first | (exact Box7.newv _ _ _ _ _ _ _ _ _ _ (by simp)) | (repeat with_reducible first | assumption | exact Box7.new _ _ _ _ (by first | rfl | simp | (simp; omega)) | exact Box7.newv _ _ _ _ _ _ _ _ _ _ (by first | rfl | simp | (simp; omega)) | refine Box7.alloc ?_ _ | refine Box7.drew ?_ | refine Box7.drewN ?_ _ | refine Box7.other ?_ _ _ _ (by omega))
 ·(repeat with_reducible first | assumption | exact Box4.new _ _ _ _ _ _ _ (by first | rfl | simp | (simp; omega)) | refine Box4.alloc ?_ _ | refine Box4.drew ?_ | refine Box4.drewN ?_ _ | refine Box4.other ?_ _ _ _ (by omega))
 ·(repeat with_reducible first | assumption | exact Box7.new _ _ _ _ (by first | rfl | simp | (simp; omega)) | exact Box7.newv _ _ _ _ _ _ _ _ _ _ (by first | rfl | simp | (simp; omega)) | refine Box7.alloc ?_ _ | refine Box7.drew ?_ | refine Box7.drewN ?_ _ | refine Box7.other ?_ _ _ _ (by omega))
 ·(repeat with_reducible first | refine Own.alloc ?_ _ | refine Own.drew ?_ | refine Own.drewN ?_ _ | refine Own.other ?_ _ _ _ (by omega) (by omega) (by omega))
  exact HO0.out
 ·(repeat with_reducible first | exact But.refl _ _ | assumption | refine But.alloc ?_ _ | refine But.drew ?_ | refine But.drewN ?_ _ | refine But.set ?_ _ _ _ (by first | (left; simp; done) | (right; simp; done) | (right; omega) | (right; simp; omega)))
 simp only [Nat.add_assoc, Nat.reduceAdd]
 clear k3 l1 l2 l3 l4 m2 m3 m4 hp
 rintro v1 ⟨lo, hB⟩
 have HLo := Lib.hid lo
 have HBt := Lib.hid hB
 have hsz := hB.size
 obtain ⟨⟨g1, s0, s1, s2, s3, S0, S1, S2, S3⟩, ⟨g5, e0, e1, e2, e3, e4, e5, e6, E0, E1, E2, E3, E4, E5, E6⟩, g6, g7, g8⟩ := lo
 clear hB g1 g5 g6 g7 g8
 refine (EP.out v1 HLo.out.O).mono ?_
 rintro r w' ⟨rfl, rfl⟩
 have cq := HLo.out.O.M.cel q.toNat (by rw [HMl.out]; omega)
 rw [HM.out] at cq
 go_wp2_with fail
 refine calls_gen (fun v => Lt v u00.heap.size s gr gc gm cr cc cm (⟨s.pc, m, 0, 0, 0, -1, 0⟩ : Ev) ∧ But [gr, gc, gm] u00 v) ⟨⟨?_, ?_, ?_, ?_, ?_⟩, ?_⟩ ?_
 ·have q1 := HLo.out.S
  (repeat with_reducible first | assumption | exact Box4.new _ _ _ _ _ _ _ (by first | rfl | simp | (simp; omega)) | refine Box4.alloc ?_ _ | refine Box4.drew ?_ | refine Box4.drewN ?_ _ | refine Box4.other ?_ _ _ _ (by omega))
 ·have q1 := HLo.out.E
  exact q1.set1 m
 ·have q1 := HLo.out.Z
  (repeat with_reducible first | assumption | exact Box4.new _ _ _ _ _ _ _ (by first | rfl | simp | (simp; omega)) | refine Box4.alloc ?_ _ | refine Box4.drew ?_ | refine Box4.drewN ?_ _ | refine Box4.other ?_ _ _ _ (by omega))
 ·have q1 := HLo.out.Y
  (repeat with_reducible first | assumption | exact Box7.new _ _ _ _ (by first | rfl | simp | (simp; omega)) | exact Box7.newv _ _ _ _ _ _ _ _ _ _ (by first | rfl | simp | (simp; omega)) | refine Box7.alloc ?_ _ | refine Box7.drew ?_ | refine Box7.drewN ?_ _ | refine Box7.other ?_ _ _ _ (by omega))
 ·have q1 := HLo.out.O
  (repeat with_reducible first | refine Own.alloc ?_ _ | refine Own.drew ?_ | refine Own.drewN ?_ _ | refine Own.other ?_ _ _ _ (by omega) (by omega) (by omega))
  exact q1
 ·have hB := HBt.out
  (repeat with_reducible first | exact But.refl _ _ | assumption | refine But.alloc ?_ _ | refine But.drew ?_ | refine But.drewN ?_ _ | refine But.set ?_ _ _ _ (by first | (left; simp; done) | (right; simp; done) | (right; omega) | (right; simp; omega)))
 clear s0 s1 s2 s3 S0 S1 S2 S3 e0 e1 e2 e3 e4 e5 e6 E0 E1 E2 E3 E4 E5 E6 hsz
 clear HLo HBt cq
 clear v1
 rintro v2 ⟨lo, hB⟩
 refine (HD.out v2).mono ?_
 rintro r v3 ⟨rfl, f⟩
 refine wp_seq_gen2 (fun v => Lt v u00.heap.size s gr gc gm cr cc cm (⟨s.pc, m, 0, 0, 0, -1, 0⟩ : Ev) ∧ But [gr, gc, gm] u00 v ∧ u00.heap.size + 4 ≤ v.heap.size) ⟨lo.fr f, hB.trans (But.of f), by have h1 := lo.E.lt; have h2 := f.size; omega⟩ ?_
 clear lo hB f
 clear v2 v3
 rintro v4 ⟨lo, hB, hz4⟩
 have HLo := Lib.hid lo
 have HBt := Lib.hid hB
 obtain ⟨⟨g1, s0, s1, s2, s3, S0, S1, S2, S3⟩, ⟨g5, e0, e1, e2, e3, e4, e5, e6, E0, E1, E2, E3, E4, E5, E6⟩, g6, g7, g8⟩ := lo
 clear hB g1 g6 g7 g8
 have n1 : ¬ v4.heap.size = u00.heap.size := by omega
 have n2 : ¬ u00.heap.size = v4.heap.size := by omega
 have n3 : ¬ v4.heap.size = u00.heap.size + 3 := by omega
 have n4 : ¬ u00.heap.size + 3 = v4.heap.size := by omega
 have n5 : u00.heap.size < v4.heap.size := by omega
 go_wp2_with fail
 refine wp_gen (fun v => Lt v u00.heap.size s gr gc gm cr cc cm (⟨s.pc, m, 1, 0, 0, -1, 0⟩ : Ev) ∧ But [gr, gc, gm] u00 v) ⟨⟨?_, ?_, ?_, ?_, ?_⟩, ?_⟩ ?_
 ·have q1 := HLo.out.S
  (repeat with_reducible first | assumption | exact Box4.new _ _ _ _ _ _ _ (by first | rfl | simp | (simp; omega)) | refine Box4.alloc ?_ _ | refine Box4.drew ?_ | refine Box4.drewN ?_ _ | refine Box4.other ?_ _ _ _ (by omega))
 ·have q1 := HLo.out.E
  first | (refine Box7.alloc ?_ _; exact q1.set2 1) | exact (q1.alloc _).set2 1
 ·have q1 := HLo.out.Z
  (repeat with_reducible first | assumption | exact Box4.new _ _ _ _ _ _ _ (by first | rfl | simp | (simp; omega)) | refine Box4.alloc ?_ _ | refine Box4.drew ?_ | refine Box4.drewN ?_ _ | refine Box4.other ?_ _ _ _ (by omega))
 ·have q1 := HLo.out.Y
  (repeat with_reducible first | assumption | exact Box7.new _ _ _ _ (by first | rfl | simp | (simp; omega)) | exact Box7.newv _ _ _ _ _ _ _ _ _ _ (by first | rfl | simp | (simp; omega)) | refine Box7.alloc ?_ _ | refine Box7.drew ?_ | refine Box7.drewN ?_ _ | refine Box7.other ?_ _ _ _ (by omega))
 ·have q1 := HLo.out.O
  (repeat with_reducible first | refine Own.alloc ?_ _ | refine Own.drew ?_ | refine Own.drewN ?_ _ | refine Own.other ?_ _ _ _ (by omega) (by omega) (by omega))
  exact q1
 ·have hB := HBt.out
  (repeat with_reducible first | exact But.refl _ _ | assumption | refine But.alloc ?_ _ | refine But.drew ?_ | refine But.drewN ?_ _ | refine But.set ?_ _ _ _ (by first | (left; simp; done) | (right; simp; done) | (right; omega) | (right; simp; omega)))
 clear s0 s1 s2 s3 S0 S1 S2 S3 e0 e1 e2 e3 e4 e5 e6 E0 E1 E2 E3 E4 E5 E6 g5 n1 n2 n3 n4 n5
 clear HLo HBt
 rintro v0 ⟨lo, hB⟩
 have HLo := Lib.hid lo
 have HBt := Lib.hid hB
 have hsz := hB.size
 obtain ⟨⟨g1, s0, s1, s2, s3, S0, S1, S2, S3⟩, ⟨g5, e0, e1, e2, e3, e4, e5, e6, E0, E1, E2, E3, E4, E5, E6⟩, g6, g7, g8⟩ := lo
 clear hB g1 g5 g6 g7 g8
 have HS := Lib.hid HLo.out.S
 have HE := Lib.hid HLo.out.E
 have HZ := Lib.hid HLo.out.Z
 have HY := Lib.hid HLo.out.Y
 have HO := Lib.hid HLo.out.O
 clear s0 s1 s2 s3 S0 S1 S2 S3 e0 e1 e2 e3 e4 e5 e6 E0 E1 E2 E3 E4 E5 E6 hsz
 clear HLo
 refine wp_region_rows 70 4 [gc, u00.heap.size + 1] (fun i => if i = 1 then [gc] else if i = 3 then [u00.heap.size + 1] else []) lb2_in (fun i => false) (fun i v u => match i with | 0 => v = .agg #[.int .i64 s.pc, .slice (some ⟨gr, 0, none⟩) 8 cr, .slice (some ⟨gc, 0, none⟩) 5 cc, .slice (some ⟨gm, 0, none⟩) 256 cm] | 1 => v = .agg #[.int .i64 8, .slice (some ⟨gr, 0, none⟩) 8 cr, .slice (some ⟨gc, 0, none⟩) 5 cc, .slice (some ⟨gm, 0, none⟩) 256 cm] ∧ Own u gr gc gm (stopS s 1) | 2 => v = .agg #[.int .i64 ((⟨s.pc, m, 1, 0, 0, -1, 0⟩ : Ev)).pc, .int .i64 ((⟨s.pc, m, 1, 0, 0, -1, 0⟩ : Ev)).w, .int .i64 ((⟨s.pc, m, 1, 0, 0, -1, 0⟩ : Ev)).why, .int .i64 ((⟨s.pc, m, 1, 0, 0, -1, 0⟩ : Ev)).d, .int .i64 ((⟨s.pc, m, 1, 0, 0, -1, 0⟩ : Ev)).v, .int .i64 ((⟨s.pc, m, 1, 0, 0, -1, 0⟩ : Ev)).ad, .int .i64 ((⟨s.pc, m, 1, 0, 0, -1, 0⟩ : Ev)).dt] | 3 => v = undef ∧ Box4 u (u00.heap.size + 1) (.int .i64 8) (.slice (some ⟨gr, 0, none⟩) 8 cr) (.slice (some ⟨gc, 0, none⟩) 5 cc) (.slice (some ⟨gm, 0, none⟩) 256 cm) | _ => True) ?mono (by kernel_rfl) (by kernel_rfl) rfl (by kernel_rfl) (by kernel_rfl) (by decide) ?step ?fin
 case mono =>
  intro i j v u u' hi hij hdj hsz h hB
  rcases j with _ | _ | _ | _ | j
  ·exact h
  ·refine ⟨h.1, ?_⟩
   have hB' : But [u00.heap.size + 1] u u' := hB.mono (fun k hk _ => lb2_out i hij k hk)
   exact h.2.but hB' (by simp; omega) (by simp; omega) (by simp; omega)
  ·exact h
  ·refine ⟨h.1, ?_⟩
   have hB' : But [gc] u u' := hB.mono (fun k hk _ => lb2_out' i hij k hk)
   exact h.2.but hB' (by simp; omega)
  ·trivial
 case step =>
  intro i o ho hiz
  rcases i with _ | _ | _ | _ | _ | i
  ·clear hiz
   cases ho
   intro act u hB hL hdep hap hnw
   replace hB := hB [gc, u00.heap.size + 1] (fun j _ k hk => lb2_in j k hk)
   have x2 := out_val hL (k := 2) (by kernel_rfl) rfl rfl
   clear hdep hL hap hnw
   have Bx := HS.out.but hB (by simp; try omega)
   obtain ⟨lt, c0, c1, c2, c3, _, _, _, _⟩ := Bx
   refine wpOp_step rfl (fun K hK => ?_)
   go_simp
   exact hK _ _ ⟨_, rfl, (fun h => by cases h), rfl, But.refl _ _, (fun h => by cases h)⟩
  ·clear hiz
   cases ho
   intro act u hB hL hdep hap hnw
   replace hB := hB [u00.heap.size + 1] lb2_out
   have e0 : act.tmps.getD 54 undef = _ := hdep { on := 0, ground := .data } (by simp) rfl _ rfl
   have hdf := Lib.hid (show act.defers = [] from hL.1)
   clear hdep hL hap hnw
   refine wpOp_step rfl (fun K hK => ?_)
   go_simp
   refine (spec_l4Stop s gr gc gm cr cc cm 1 u (HO.out.but hB (by simp; omega) (by simp; omega) (by simp; omega)) HCl.out HC3.out.1 HC3.out.2).mono ?_
   rintro e u' ⟨rfl, ho', hB'⟩
   go_simp
   exact hK _ _ ⟨_, rfl, (fun h => by cases h), ⟨rfl, ho'⟩, hB', (fun h => by cases h)⟩
  ·clear hiz
   cases ho
   intro act u hB hL hdep hap hnw
   replace hB := hB [gc, u00.heap.size + 1] (fun j _ k hk => lb2_in j k hk)
   have x6 := out_val hL (k := 6) (by kernel_rfl) rfl rfl
   clear hdep hL hap hnw
   have Bx := HE.out.but hB (by simp; try omega)
   obtain ⟨lt, c0, c1, c2, c3, c4, c5, c6, _, _, _, _, _, _, _⟩ := Bx
   refine wpOp_step rfl (fun K hK => ?_)
   go_simp
   exact hK _ _ ⟨_, rfl, (fun h => by cases h), rfl, But.refl _ _, (fun h => by cases h)⟩
  ·clear hiz
   cases ho
   intro act u hB hL hdep hap hnw
   replace hB := hB [gc] lb2_out'
   obtain ⟨h1, ow⟩ := hdep { on := 1, ground := .data } (by simp) rfl _ rfl
   have e1 : act.tmps.getD 55 undef = .agg #[.int .i64 8, .slice (some ⟨gr, 0, none⟩) 8 cr, .slice (some ⟨gc, 0, none⟩) 5 cc, .slice (some ⟨gm, 0, none⟩) 256 cm] := h1
   have x4 := out_val hL (k := 4) (by kernel_rfl) rfl rfl
   clear ow
   clear hdep hL hap hnw h1
   have Bz0 := HZ.out.but hB (by simp; try omega)
   have Bz1 := Bz0
   obtain ⟨lt, c0, c1, c2, c3, f0, f1, f2, f3⟩ := Bz1
   refine wpOp_step rfl (fun K hK => ?_)
   go_simp
   exact hK _ _ ⟨undef, rfl, (fun _ => rfl), ⟨rfl, Bz0.set (.int .i64 8) (.slice (some ⟨gr, 0, none⟩) 8 cr) (.slice (some ⟨gc, 0, none⟩) 5 cc) (.slice (some ⟨gm, 0, none⟩) 256 cm)⟩, (But.refl _ _).set4 (u00.heap.size + 1) _ _ _ _ (.inl (by simp)), (fun h => by cases h)⟩
  ·exact absurd rfl hiz
  ·exact absurd ho (by simp)
 case fin =>
  intro act u hB hL hsf hap hnw
  have d2 := hsf 2 _ rfl (by decide)
  have d3 := hsf 3 _ rfl (by decide)
  have d1 := hsf 1 _ rfl (by decide)
  obtain ⟨ysl, ha, hy⟩ := hL.puts [54, 55, 56] (by kernel_rfl)
  have e2 : ysl 56 = _ := (hy 56).symm.trans d2
  obtain ⟨h3, Bz⟩ := d3
  obtain ⟨h1, ow⟩ := d1
  have e1 : ysl 55 = .agg #[.int .i64 8, .slice (some ⟨gr, 0, none⟩) 8 cr, .slice (some ⟨gc, 0, none⟩) 5 cc, .slice (some ⟨gm, 0, none⟩) 256 cm] := (hy 55).symm.trans h1
  clear hL hsf hy hap hnw d2 h1
  simp only [List.foldl, List.setIfInBounds_toArray, List.set_cons_succ, List.set_cons_zero, e2, e1] at ha
  subst ha
  clear e2 e1
  have ow1 : Own u gr gc gm (stopS s 1) := ow
  have Bz1 := Bz
  obtain ⟨_, z0, z1, z2, z3, _, _, _, _⟩ := Bz1
  have By := HY.out.but hB (by simp; try omega)
  have By1 := By
  obtain ⟨yl, y0, y1, y2, y3, y4, y5, y6, x0, x1, x2, x3, x4, x5, x6⟩ := By1
  have hB2 : But [gr, gc, gm] u00 u := HBt.out.trans2 hB (fun k hk => by simp at hk ⊢; omega)
  refine wpOp_step rfl (fun K hK => ?_)
  go_simp
  refine hK _ _ ?_
  refine wp_seq_gen (fun t => Own t gr gc gm (stopS s 1) ∧ Box4 t (u00.heap.size + 1) (.int .i64 8) (.slice (some ⟨gr, 0, none⟩) 8 cr) (.slice (some ⟨gc, 0, none⟩) 5 cc) (.slice (some ⟨gm, 0, none⟩) 256 cm) ∧ Box7 t (u00.heap.size + 2) ((⟨s.pc, m, 1, 0, 0, -1, 0⟩ : Ev)) ∧ But [gr, gc, gm] u00 t) ⟨?_, ?_, ?_, ?_⟩ ?_
  ·(repeat with_reducible first | refine Own.alloc ?_ _ | refine Own.drew ?_ | refine Own.drewN ?_ _ | refine Own.other ?_ _ _ _ (by omega) (by omega) (by omega))
   exact ow1
  ·(repeat with_reducible first | assumption | exact Box4.new _ _ _ _ _ _ _ (by first | rfl | simp | (simp; omega)) | refine Box4.alloc ?_ _ | refine Box4.drew ?_ | refine Box4.drewN ?_ _ | refine Box4.other ?_ _ _ _ (by omega))
  ·exact ((((((By.set0 _).set1 _).set2 _).set3 _).set4 _).set5 _).set6 _
  ·(repeat with_reducible first | exact But.refl _ _ | assumption | refine But.alloc ?_ _ | refine But.drew ?_ | refine But.drewN ?_ _ | refine But.set ?_ _ _ _ (by first | (left; simp; done) | (right; simp; done) | (right; omega) | (right; simp; omega)))
  clear z0 z1 z2 z3 y0 y1 y2 y3 y4 y5 y6 x0 x1 x2 x3 x4 x5 x6 By Bz ow1 hB2 hB yl
  rintro t ⟨ow2, bz, by', hB2⟩
  obtain ⟨_, z0, z1, z2, z3, _, _, _, _⟩ := bz
  obtain ⟨_, y0, y1, y2, y3, y4, y5, y6, _, _, _, _, _, _, _⟩ := by'
  go_wp2
  refine bodyPost_ret (v := .tuple #[.agg #[.int .i64 8, .slice (some ⟨gr, 0, none⟩) 8 cr, .slice (some ⟨gc, 0, none⟩) 5 cc, .slice (some ⟨gm, 0, none⟩) 256 cm], .agg #[.int .i64 ((⟨s.pc, m, 1, 0, 0, -1, 0⟩ : Ev)).pc, .int .i64 ((⟨s.pc, m, 1, 0, 0, -1, 0⟩ : Ev)).w, .int .i64 ((⟨s.pc, m, 1, 0, 0, -1, 0⟩ : Ev)).why, .int .i64 ((⟨s.pc, m, 1, 0, 0, -1, 0⟩ : Ev)).d, .int .i64 ((⟨s.pc, m, 1, 0, 0, -1, 0⟩ : Ev)).v, .int .i64 ((⟨s.pc, m, 1, 0, 0, -1, 0⟩ : Ev)).ad, .int .i64 ((⟨s.pc, m, 1, 0, 0, -1, 0⟩ : Ev)).dt]]) (by simp [results, Tryd.results47, go_sem, z0, z1, z2, z3, y0, y1, y2, y3, y4, y5, y6]) rfl ?_
  exact ⟨rfl, ow2, hB2⟩
set_option maxRecDepth 8000 in
set_option maxHeartbeats 4000000 in
theorem spec_Step_exeT (s : St) (gr gc gm cr cc cm : Nat) (u00 : World) (ho : Own u00 gr gc gm s) (hk : OkS s) (hu : usr s.C = false) (hs : 0 ≤ see s.C s.M s.pc false) (hg : gd (wAt s) = true) :
  Calls Tryd.prog 47 #[.agg #[.int .i64 s.pc, .slice (some ⟨gr, 0, none⟩) 8 cr, .slice (some ⟨gc, 0, none⟩) 5 cc, .slice (some ⟨gm, 0, none⟩) 256 cm], .bool true] u00 (MP ((exeS s).fin s (ev1 s)).1 ((exeS s).fin s (ev1 s)).2 gr gc gm cr cc cm u00) := by
 have lr := ho.R.lt
 have lc := ho.C.lt
 have lm := ho.M.lt
 have HO0 := Lib.hid ho
 have HK := Lib.hid hk
 have HCl := Lib.hid hk.Cl
 have HC3 := Lib.hid (And.intro (ok_get hk.C 3).1 hk.c3)
 have c3b := ok_get hk.C 3
 have hc4 := hk.c3
 have pb := okB_true hk.pc
 obtain ⟨t3, h3⟩ : ∃ t, t = s.C.getD 3 0 := ⟨_, rfl⟩
 have H3 := Lib.hid h3.symm
 rw [← h3] at c3b hc4
 have k3 := ho.C.cel 3 (by rw [HCl.out]; decide)
 rw [H3.out] at k3
 have l1 : gc < u00.heap.size + 1 := by omega
 have l2 : gc < u00.heap.size + 1 + 1 := by omega
 have l3 : gc < u00.heap.size + 1 + 1 + 1 := by omega
 have l4 : gc < u00.heap.size + 1 + 1 + 1 + 1 := by omega
 have m2 : gc < u00.heap.size + 2 := by omega
 have m3 : gc < u00.heap.size + 3 := by omega
 have m4 : gc < u00.heap.size + 4 := by omega
 have EP := Lib.hid (fun (v : World) (ov : Own v gr gc gm s) => spec_l4Page s.C s.M (some ⟨gc, 0, none⟩) (some ⟨gm, 0, none⟩) cc cm s.pc false v ov.C.src ov.M.src hk.Cl hk.Ml hk.C hk.M pb.1 pb.2)
 rw [hk.Cl, hk.Ml] at EP
 have HQ := see_bd s.C s.M s.pc false pb.1
 have HMl := Lib.hid hk.Ml
 have h5 : ¬ s.C.getD 3 0 % 2 = 1 := by simpa [usr] using hu
 have hp : t3 % 2 = 0 := by omega
 clear h5
 obtain ⟨m, hm⟩ : ∃ m, m = wAt s := ⟨_, rfl⟩
 have HM := Lib.hid (show s.M.getD (see s.C s.M s.pc false).toNat 0 = m from hm.symm)
 have HD := Lib.hid (fun (v : World) => spec_CodRead m v)
 have hi := (read_ok hg).1
 have HDo := Lib.hid (fun (v : World) (ov : Own v gr gc gm s) => spec_l4Do s (ev1 s) gr gc gm cr cc cm (wAt s / 4096) (rdv (wAt s) 0) (rdv (wAt s) 1) (rdv (wAt s) 2) (rdv (wAt s) 3) (rdv (wAt s) 4) v ov hk hi rfl rfl rfl rfl)
 have HEx := Lib.hid (show exeS s = effS s (ev1 s) (wAt s / 4096) (rdv (wAt s) 0) (rdv (wAt s) 1) (rdv (wAt s) 2) (rdv (wAt s) 3) (rdv (wAt s) 4) from rfl)
 have HE1 := Lib.hid (show ev1 s = ⟨s.pc, wAt s, 0, 0, 0, -1, 0⟩ from rfl)
 rw [← HEx.out, HE1.out] at HDo
 rw [HE1.out]
 generalize exeS s = oo at *
 rw [← hm] at HDo hg ⊢
 rw [rV_t hg] at HD
 generalize m / 4096 = ik at *
 generalize rdv m 0 = i0 at *
 generalize rdv m 1 = i1 at *
 generalize rdv m 2 = i2 at *
 generalize rdv m 3 = i3 at *
 generalize rdv m 4 = i4 at *
 clear hi hg HEx HE1
 clear hm
 generalize see s.C s.M s.pc false = q at *
 clear ho hk h3 hu
 go_enter Tryd.func47, Tryd.ntmps47
 go_wp2_with fail
 refine calls_gen (fun v => Lt v u00.heap.size s gr gc gm cr cc cm (⟨s.pc, -1, 0, 0, 0, -1, 0⟩ : Ev) ∧ But [gr, gc, gm] u00 v) ⟨⟨?_, ?_, ?_, ?_, ?_⟩, ?_⟩ ?_
 ·(repeat with_reducible first | assumption | exact Box4.new _ _ _ _ _ _ _ (by first | rfl | simp | (simp; omega)) | refine Box4.alloc ?_ _ | refine Box4.drew ?_ | refine Box4.drewN ?_ _ | refine Box4.other ?_ _ _ _ (by omega))
 ·first | (exact Box7.newv _ _ _ _ _ _ _ _ _ _ (by simp)) | (repeat with_reducible first | assumption | exact Box7.new _ _ _ _ (by first | rfl | simp | (simp; omega)) | exact Box7.newv _ _ _ _ _ _ _ _ _ _ (by first | rfl | simp | (simp; omega)) | refine Box7.alloc ?_ _ | refine Box7.drew ?_ | refine Box7.drewN ?_ _ | refine Box7.other ?_ _ _ _ (by omega))
 ·(repeat with_reducible first | assumption | exact Box4.new _ _ _ _ _ _ _ (by first | rfl | simp | (simp; omega)) | refine Box4.alloc ?_ _ | refine Box4.drew ?_ | refine Box4.drewN ?_ _ | refine Box4.other ?_ _ _ _ (by omega))
 ·(repeat with_reducible first | assumption | exact Box7.new _ _ _ _ (by first | rfl | simp | (simp; omega)) | exact Box7.newv _ _ _ _ _ _ _ _ _ _ (by first | rfl | simp | (simp; omega)) | refine Box7.alloc ?_ _ | refine Box7.drew ?_ | refine Box7.drewN ?_ _ | refine Box7.other ?_ _ _ _ (by omega))
 ·(repeat with_reducible first | refine Own.alloc ?_ _ | refine Own.drew ?_ | refine Own.drewN ?_ _ | refine Own.other ?_ _ _ _ (by omega) (by omega) (by omega))
  exact HO0.out
 ·(repeat with_reducible first | exact But.refl _ _ | assumption | refine But.alloc ?_ _ | refine But.drew ?_ | refine But.drewN ?_ _ | refine But.set ?_ _ _ _ (by first | (left; simp; done) | (right; simp; done) | (right; omega) | (right; simp; omega)))
 simp only [Nat.add_assoc, Nat.reduceAdd]
 clear k3 l1 l2 l3 l4 m2 m3 m4 hp
 rintro v1 ⟨lo, hB⟩
 have HLo := Lib.hid lo
 have HBt := Lib.hid hB
 have hsz := hB.size
 obtain ⟨⟨g1, s0, s1, s2, s3, S0, S1, S2, S3⟩, ⟨g5, e0, e1, e2, e3, e4, e5, e6, E0, E1, E2, E3, E4, E5, E6⟩, g6, g7, g8⟩ := lo
 clear hB g1 g5 g6 g7 g8
 refine (EP.out v1 HLo.out.O).mono ?_
 rintro r w' ⟨rfl, rfl⟩
 have cq := HLo.out.O.M.cel q.toNat (by rw [HMl.out]; omega)
 rw [HM.out] at cq
 go_wp2_with fail
 refine calls_gen (fun v => Lt v u00.heap.size s gr gc gm cr cc cm (⟨s.pc, m, 0, 0, 0, -1, 0⟩ : Ev) ∧ But [gr, gc, gm] u00 v) ⟨⟨?_, ?_, ?_, ?_, ?_⟩, ?_⟩ ?_
 ·have q1 := HLo.out.S
  (repeat with_reducible first | assumption | exact Box4.new _ _ _ _ _ _ _ (by first | rfl | simp | (simp; omega)) | refine Box4.alloc ?_ _ | refine Box4.drew ?_ | refine Box4.drewN ?_ _ | refine Box4.other ?_ _ _ _ (by omega))
 ·have q1 := HLo.out.E
  exact q1.set1 m
 ·have q1 := HLo.out.Z
  (repeat with_reducible first | assumption | exact Box4.new _ _ _ _ _ _ _ (by first | rfl | simp | (simp; omega)) | refine Box4.alloc ?_ _ | refine Box4.drew ?_ | refine Box4.drewN ?_ _ | refine Box4.other ?_ _ _ _ (by omega))
 ·have q1 := HLo.out.Y
  (repeat with_reducible first | assumption | exact Box7.new _ _ _ _ (by first | rfl | simp | (simp; omega)) | exact Box7.newv _ _ _ _ _ _ _ _ _ _ (by first | rfl | simp | (simp; omega)) | refine Box7.alloc ?_ _ | refine Box7.drew ?_ | refine Box7.drewN ?_ _ | refine Box7.other ?_ _ _ _ (by omega))
 ·have q1 := HLo.out.O
  (repeat with_reducible first | refine Own.alloc ?_ _ | refine Own.drew ?_ | refine Own.drewN ?_ _ | refine Own.other ?_ _ _ _ (by omega) (by omega) (by omega))
  exact q1
 ·have hB := HBt.out
  (repeat with_reducible first | exact But.refl _ _ | assumption | refine But.alloc ?_ _ | refine But.drew ?_ | refine But.drewN ?_ _ | refine But.set ?_ _ _ _ (by first | (left; simp; done) | (right; simp; done) | (right; omega) | (right; simp; omega)))
 clear s0 s1 s2 s3 S0 S1 S2 S3 e0 e1 e2 e3 e4 e5 e6 E0 E1 E2 E3 E4 E5 E6 hsz
 clear HLo HBt cq
 clear v1
 rintro v2 ⟨lo, hB⟩
 refine (HD.out v2).mono ?_
 rintro r v3 ⟨rfl, f⟩
 refine wp_seq_gen2 (fun v => Lt v u00.heap.size s gr gc gm cr cc cm (⟨s.pc, m, 0, 0, 0, -1, 0⟩ : Ev) ∧ But [gr, gc, gm] u00 v ∧ u00.heap.size + 4 ≤ v.heap.size) ⟨lo.fr f, hB.trans (But.of f), by have h1 := lo.E.lt; have h2 := f.size; omega⟩ ?_
 clear lo hB f
 clear v2 v3
 rintro v4 ⟨lo, hB, hz4⟩
 have HLo := Lib.hid lo
 have HBt := Lib.hid hB
 obtain ⟨⟨g1, s0, s1, s2, s3, S0, S1, S2, S3⟩, ⟨g5, e0, e1, e2, e3, e4, e5, e6, E0, E1, E2, E3, E4, E5, E6⟩, g6, g7, g8⟩ := lo
 clear hB g1 g6 g7 g8
 have n1 : ¬ v4.heap.size = u00.heap.size := by omega
 have n2 : ¬ u00.heap.size = v4.heap.size := by omega
 have n3 : ¬ v4.heap.size = u00.heap.size + 3 := by omega
 have n4 : ¬ u00.heap.size + 3 = v4.heap.size := by omega
 have n5 : u00.heap.size < v4.heap.size := by omega
 go_wp2_with fail
 refine calls_gen (fun v => Lt v u00.heap.size s gr gc gm cr cc cm (⟨s.pc, m, 0, 0, 0, -1, 0⟩ : Ev) ∧ But [gr, gc, gm] u00 v) ⟨⟨?_, ?_, ?_, ?_, ?_⟩, ?_⟩ ?_
 ·have q1 := HLo.out.S
  (repeat with_reducible first | assumption | exact Box4.new _ _ _ _ _ _ _ (by first | rfl | simp | (simp; omega)) | refine Box4.alloc ?_ _ | refine Box4.drew ?_ | refine Box4.drewN ?_ _ | refine Box4.other ?_ _ _ _ (by omega))
 ·have q1 := HLo.out.E
  (repeat with_reducible first | assumption | exact Box7.new _ _ _ _ (by first | rfl | simp | (simp; omega)) | exact Box7.newv _ _ _ _ _ _ _ _ _ _ (by first | rfl | simp | (simp; omega)) | refine Box7.alloc ?_ _ | refine Box7.drew ?_ | refine Box7.drewN ?_ _ | refine Box7.other ?_ _ _ _ (by omega))
 ·have q1 := HLo.out.Z
  (repeat with_reducible first | assumption | exact Box4.new _ _ _ _ _ _ _ (by first | rfl | simp | (simp; omega)) | refine Box4.alloc ?_ _ | refine Box4.drew ?_ | refine Box4.drewN ?_ _ | refine Box4.other ?_ _ _ _ (by omega))
 ·have q1 := HLo.out.Y
  (repeat with_reducible first | assumption | exact Box7.new _ _ _ _ (by first | rfl | simp | (simp; omega)) | exact Box7.newv _ _ _ _ _ _ _ _ _ _ (by first | rfl | simp | (simp; omega)) | refine Box7.alloc ?_ _ | refine Box7.drew ?_ | refine Box7.drewN ?_ _ | refine Box7.other ?_ _ _ _ (by omega))
 ·have q1 := HLo.out.O
  (repeat with_reducible first | refine Own.alloc ?_ _ | refine Own.drew ?_ | refine Own.drewN ?_ _ | refine Own.other ?_ _ _ _ (by omega) (by omega) (by omega))
  exact q1
 ·have hB := HBt.out
  (repeat with_reducible first | exact But.refl _ _ | assumption | refine But.alloc ?_ _ | refine But.drew ?_ | refine But.drewN ?_ _ | refine But.set ?_ _ _ _ (by first | (left; simp; done) | (right; simp; done) | (right; omega) | (right; simp; omega)))
 clear s0 s1 s2 s3 S0 S1 S2 S3 e0 e1 e2 e3 e4 e5 e6 E0 E1 E2 E3 E4 E5 E6 g5 n1 n2 n3 n4 n5
 clear HLo HBt hz4
 rintro v5 ⟨lo, hB⟩
 refine (HDo.out v5 lo.O).mono ?_
 rintro r v6 ⟨e', ⟨rfl, ho', hB'⟩, hfx⟩
 have hsz := hB.size
 generalize (Out.fin s (⟨s.pc, m, 0, 0, 0, -1, 0⟩ : Ev) oo).1 = s' at *
 generalize (Out.fin s (⟨s.pc, m, 0, 0, 0, -1, 0⟩ : Ev) oo).2 = ee at *
 have HFF := Lib.hid hfx
 clear hfx
 refine wp_seq_gen2 (fun v => Box4 v u00.heap.size (.int .i64 s.pc) (.slice (some ⟨gr, 0, none⟩) 8 cr) (.slice (some ⟨gc, 0, none⟩) 5 cc) (.slice (some ⟨gm, 0, none⟩) 256 cm) ∧ Box7 v (u00.heap.size + 3) (⟨s.pc, m, 0, 0, 0, -1, 0⟩ : Ev) ∧ Box4 v (u00.heap.size + 1) (.int .i64 0) (.slice none 0 0) (.slice none 0 0) (.slice none 0 0) ∧ Box7 v (u00.heap.size + 2) ev00 ∧ Own v gr gc gm s' ∧ But [gr, gc, gm] u00 v) ⟨lo.S.but hB' (by simp; omega), lo.E.but hB' (by simp; omega), lo.Z.but hB' (by simp; omega), lo.Y.but hB' (by simp; omega), ho', hB.trans hB'⟩ ?_
 clear lo hB ho' hB' hsz
 clear v5 v6
 rintro v7 ⟨qs, qe, qz, qy, qo, qb⟩
 have HQS := Lib.hid qs
 have HQE := Lib.hid qe
 have HQZ := Lib.hid qz
 have HQY := Lib.hid qy
 have HQO := Lib.hid qo
 have HQB := Lib.hid qb
 have hsz := qb.size
 obtain ⟨g1, s0, s1, s2, s3, S0, S1, S2, S3⟩ := qs
 obtain ⟨g5, e0, e1, e2, e3, e4, e5, e6, E0, E1, E2, E3, E4, E5, E6⟩ := qe
 clear qz qy qo qb g1
 cases hd0 : (e'.d == 0)
 ·have HEE := Lib.hid (show ee = e' by rw [← HFF.out]; rw [fixE, if_neg (by simpa using hd0)])
  go_wp2_with fail
  clear hd0
  refine wp_gen (fun v => Lt v u00.heap.size s' gr gc gm cr cc cm e' ∧ But [gr, gc, gm] u00 v) ⟨⟨?_, ?_, ?_, ?_, ?_⟩, ?_⟩ ?_
  ·have q1 := HQS.out
   (repeat (first | (with_reducible refine Box4.other ?_ _ _ _ (by omega))))
   exact q1.set _ _ _ _
  ·have q1 := (HQE.out.other u00.heap.size 0 (.int .i64 s'.pc) (by omega)).other u00.heap.size 1 (.slice (some ⟨gr, 0, none⟩) 8 cr) (by omega) |>.other u00.heap.size 2 (.slice (some ⟨gc, 0, none⟩) 5 cc) (by omega) |>.other u00.heap.size 3 (.slice (some ⟨gm, 0, none⟩) 256 cm) (by omega)
   exact ((((((q1.set0 _).set1 _).set2 _).set3 _).set4 _).set5 _).set6 _
  ·have q1 := HQZ.out
   (repeat with_reducible first | assumption | exact Box4.new _ _ _ _ _ _ _ (by first | rfl | simp | (simp; omega)) | refine Box4.alloc ?_ _ | refine Box4.drew ?_ | refine Box4.drewN ?_ _ | refine Box4.other ?_ _ _ _ (by omega))
  ·have q1 := HQY.out
   (repeat with_reducible first | assumption | exact Box7.new _ _ _ _ (by first | rfl | simp | (simp; omega)) | exact Box7.newv _ _ _ _ _ _ _ _ _ _ (by first | rfl | simp | (simp; omega)) | refine Box7.alloc ?_ _ | refine Box7.drew ?_ | refine Box7.drewN ?_ _ | refine Box7.other ?_ _ _ _ (by omega))
  ·have q1 := HQO.out
   (repeat with_reducible first | refine Own.alloc ?_ _ | refine Own.drew ?_ | refine Own.drewN ?_ _ | refine Own.other ?_ _ _ _ (by omega) (by omega) (by omega))
   exact q1
  ·have hB := HQB.out
   (repeat with_reducible first | exact But.refl _ _ | assumption | refine But.alloc ?_ _ | refine But.drew ?_ | refine But.drewN ?_ _ | refine But.set ?_ _ _ _ (by first | (left; simp; done) | (right; simp; done) | (right; omega) | (right; simp; omega)))
  clear s0 s1 s2 s3 S0 S1 S2 S3 e0 e1 e2 e3 e4 e5 e6 E0 E1 E2 E3 E4 E5 E6 g5 HQS HQE HQZ HQY HQO HQB hsz
  clear v7
  rintro v0 ⟨lo, hB⟩
  have HLo := Lib.hid lo
  have HBt := Lib.hid hB
  have hsz := hB.size
  obtain ⟨⟨g1, s0, s1, s2, s3, S0, S1, S2, S3⟩, ⟨g5, e0, e1, e2, e3, e4, e5, e6, E0, E1, E2, E3, E4, E5, E6⟩, g6, g7, g8⟩ := lo
  clear hB g1 g5 g6 g7 g8
  have HS := Lib.hid HLo.out.S
  have HE := Lib.hid HLo.out.E
  have HZ := Lib.hid HLo.out.Z
  have HY := Lib.hid HLo.out.Y
  have HO := Lib.hid HLo.out.O
  clear s0 s1 s2 s3 S0 S1 S2 S3 e0 e1 e2 e3 e4 e5 e6 E0 E1 E2 E3 E4 E5 E6 hsz
  clear HLo
  refine wp_region_rows 70 3 [u00.heap.size + 1] (fun i => if i = 2 then [u00.heap.size + 1] else []) lb1_in (fun i => false) (fun i v u => match i with | 0 => v = .agg #[.int .i64 s'.pc, .slice (some ⟨gr, 0, none⟩) 8 cr, .slice (some ⟨gc, 0, none⟩) 5 cc, .slice (some ⟨gm, 0, none⟩) 256 cm] | 1 => v = .agg #[.int .i64 (e').pc, .int .i64 (e').w, .int .i64 (e').why, .int .i64 (e').d, .int .i64 (e').v, .int .i64 (e').ad, .int .i64 (e').dt] | 2 => v = undef ∧ Box4 u (u00.heap.size + 1) (.int .i64 s'.pc) (.slice (some ⟨gr, 0, none⟩) 8 cr) (.slice (some ⟨gc, 0, none⟩) 5 cc) (.slice (some ⟨gm, 0, none⟩) 256 cm) | _ => True) ?mono (by kernel_rfl) (by kernel_rfl) rfl (by kernel_rfl) (by kernel_rfl) (by decide) ?step ?fin
  case mono =>
   intro i j v u u' hi hij hdj hsz h hB
   rcases j with _ | _ | _ | j
   ·exact h
   ·exact h
   ·refine ⟨h.1, ?_⟩
    have hB' : But [] u u' := hB.mono (fun k hk _ => lb1_out i hij k hk)
    exact h.2.but hB' (by simp)
   ·trivial
  case step =>
   intro i o ho hiz
   rcases i with _ | _ | _ | _ | i
   ·clear hiz
    cases ho
    intro act u hB hL hdep hap hnw
    replace hB := hB [u00.heap.size + 1] (fun j _ k hk => lb1_in j k hk)
    have x2 := out_val hL (k := 2) (by kernel_rfl) rfl rfl
    clear hdep hL hap hnw
    have Bx := HS.out.but hB (by simp; try omega)
    obtain ⟨lt, c0, c1, c2, c3, _, _, _, _⟩ := Bx
    refine wpOp_step rfl (fun K hK => ?_)
    go_simp
    exact hK _ _ ⟨_, rfl, (fun h => by cases h), rfl, But.refl _ _, (fun h => by cases h)⟩
   ·clear hiz
    cases ho
    intro act u hB hL hdep hap hnw
    replace hB := hB [u00.heap.size + 1] (fun j _ k hk => lb1_in j k hk)
    have x6 := out_val hL (k := 6) (by kernel_rfl) rfl rfl
    clear hdep hL hap hnw
    have Bx := HE.out.but hB (by simp; try omega)
    obtain ⟨lt, c0, c1, c2, c3, c4, c5, c6, _, _, _, _, _, _, _⟩ := Bx
    refine wpOp_step rfl (fun K hK => ?_)
    go_simp
    exact hK _ _ ⟨_, rfl, (fun h => by cases h), rfl, But.refl _ _, (fun h => by cases h)⟩
   ·clear hiz
    cases ho
    intro act u hB hL hdep hap hnw
    replace hB := hB [] lb1_out
    have e0 : act.tmps.getD 68 undef = _ := hdep { on := 0, ground := .data } (by simp) rfl _ rfl
    have x4 := out_val hL (k := 4) (by kernel_rfl) rfl rfl
    clear hdep hL hap hnw
    have Bz0 := HZ.out.but hB (by simp; try omega)
    have Bz1 := Bz0
    obtain ⟨lt, c0, c1, c2, c3, f0, f1, f2, f3⟩ := Bz1
    refine wpOp_step rfl (fun K hK => ?_)
    go_simp
    exact hK _ _ ⟨undef, rfl, (fun _ => rfl), ⟨rfl, Bz0.set (.int .i64 s'.pc) (.slice (some ⟨gr, 0, none⟩) 8 cr) (.slice (some ⟨gc, 0, none⟩) 5 cc) (.slice (some ⟨gm, 0, none⟩) 256 cm)⟩, (But.refl _ _).set4 (u00.heap.size + 1) _ _ _ _ (.inl (by simp)), (fun h => by cases h)⟩
   ·exact absurd rfl hiz
   ·exact absurd ho (by simp)
  case fin =>
   intro act u hB hL hsf hap hnw
   have d1 := hsf 1 _ rfl (by decide)
   have d2 := hsf 2 _ rfl (by decide)
   obtain ⟨ysl, ha, hy⟩ := hL.puts [68, 69] (by kernel_rfl)
   have e1 : ysl 69 = _ := (hy 69).symm.trans d1
   obtain ⟨h2, Bz⟩ := d2
   clear hL hsf hy hap hnw d1
   simp only [List.foldl, List.setIfInBounds_toArray, List.set_cons_succ, List.set_cons_zero, e1] at ha
   subst ha
   clear e1
   have ow1 : Own u gr gc gm s' := HO.out.but hB (by simp; omega) (by simp; omega) (by simp; omega)
   have Bz1 := Bz
   obtain ⟨_, z0, z1, z2, z3, _, _, _, _⟩ := Bz1
   have By := HY.out.but hB (by simp; try omega)
   have By1 := By
   obtain ⟨yl, y0, y1, y2, y3, y4, y5, y6, x0, x1, x2, x3, x4, x5, x6⟩ := By1
   have hB2 : But [gr, gc, gm] u00 u := HBt.out.trans2 hB (fun k hk => by simp at hk ⊢; omega)
   refine wpOp_step rfl (fun K hK => ?_)
   go_simp
   refine hK _ _ ?_
   refine wp_seq_gen (fun t => Own t gr gc gm s' ∧ Box4 t (u00.heap.size + 1) (.int .i64 s'.pc) (.slice (some ⟨gr, 0, none⟩) 8 cr) (.slice (some ⟨gc, 0, none⟩) 5 cc) (.slice (some ⟨gm, 0, none⟩) 256 cm) ∧ Box7 t (u00.heap.size + 2) (e') ∧ But [gr, gc, gm] u00 t) ⟨?_, ?_, ?_, ?_⟩ ?_
   ·(repeat with_reducible first | refine Own.alloc ?_ _ | refine Own.drew ?_ | refine Own.drewN ?_ _ | refine Own.other ?_ _ _ _ (by omega) (by omega) (by omega))
    exact ow1
   ·(repeat with_reducible first | assumption | exact Box4.new _ _ _ _ _ _ _ (by first | rfl | simp | (simp; omega)) | refine Box4.alloc ?_ _ | refine Box4.drew ?_ | refine Box4.drewN ?_ _ | refine Box4.other ?_ _ _ _ (by omega))
   ·exact ((((((By.set0 _).set1 _).set2 _).set3 _).set4 _).set5 _).set6 _
   ·(repeat with_reducible first | exact But.refl _ _ | assumption | refine But.alloc ?_ _ | refine But.drew ?_ | refine But.drewN ?_ _ | refine But.set ?_ _ _ _ (by first | (left; simp; done) | (right; simp; done) | (right; omega) | (right; simp; omega)))
   clear z0 z1 z2 z3 y0 y1 y2 y3 y4 y5 y6 x0 x1 x2 x3 x4 x5 x6 By Bz ow1 hB2 hB yl
   rintro t ⟨ow2, bz, by', hB2⟩
   obtain ⟨_, z0, z1, z2, z3, _, _, _, _⟩ := bz
   obtain ⟨_, y0, y1, y2, y3, y4, y5, y6, _, _, _, _, _, _, _⟩ := by'
   go_wp2
   refine bodyPost_ret (v := .tuple #[.agg #[.int .i64 s'.pc, .slice (some ⟨gr, 0, none⟩) 8 cr, .slice (some ⟨gc, 0, none⟩) 5 cc, .slice (some ⟨gm, 0, none⟩) 256 cm], .agg #[.int .i64 (e').pc, .int .i64 (e').w, .int .i64 (e').why, .int .i64 (e').d, .int .i64 (e').v, .int .i64 (e').ad, .int .i64 (e').dt]]) (by simp [results, Tryd.results47, go_sem, z0, z1, z2, z3, y0, y1, y2, y3, y4, y5, y6]) rfl ?_
   exact ⟨by rw [HEE.out], ow2, hB2⟩
 ·have HEE := Lib.hid (show ee = { e' with v := 0 } by rw [← HFF.out]; rw [fixE, if_pos (by simpa using hd0)])
  go_wp2_with fail
  clear hd0
  refine wp_gen (fun v => Lt v u00.heap.size s' gr gc gm cr cc cm { e' with v := 0 } ∧ But [gr, gc, gm] u00 v) ⟨⟨?_, ?_, ?_, ?_, ?_⟩, ?_⟩ ?_
  ·have q1 := HQS.out
   (repeat (first | (with_reducible refine Box4.other ?_ _ _ _ (by omega))))
   exact q1.set _ _ _ _
  ·have q1 := (HQE.out.other u00.heap.size 0 (.int .i64 s'.pc) (by omega)).other u00.heap.size 1 (.slice (some ⟨gr, 0, none⟩) 8 cr) (by omega) |>.other u00.heap.size 2 (.slice (some ⟨gc, 0, none⟩) 5 cc) (by omega) |>.other u00.heap.size 3 (.slice (some ⟨gm, 0, none⟩) 256 cm) (by omega)
   exact (((((((q1.set0 _).set1 _).set2 _).set3 _).set4 _).set5 _).set6 _).set4 0
  ·have q1 := HQZ.out
   (repeat with_reducible first | assumption | exact Box4.new _ _ _ _ _ _ _ (by first | rfl | simp | (simp; omega)) | refine Box4.alloc ?_ _ | refine Box4.drew ?_ | refine Box4.drewN ?_ _ | refine Box4.other ?_ _ _ _ (by omega))
  ·have q1 := HQY.out
   (repeat with_reducible first | assumption | exact Box7.new _ _ _ _ (by first | rfl | simp | (simp; omega)) | exact Box7.newv _ _ _ _ _ _ _ _ _ _ (by first | rfl | simp | (simp; omega)) | refine Box7.alloc ?_ _ | refine Box7.drew ?_ | refine Box7.drewN ?_ _ | refine Box7.other ?_ _ _ _ (by omega))
  ·have q1 := HQO.out
   (repeat with_reducible first | refine Own.alloc ?_ _ | refine Own.drew ?_ | refine Own.drewN ?_ _ | refine Own.other ?_ _ _ _ (by omega) (by omega) (by omega))
   exact q1
  ·have hB := HQB.out
   (repeat with_reducible first | exact But.refl _ _ | assumption | refine But.alloc ?_ _ | refine But.drew ?_ | refine But.drewN ?_ _ | refine But.set ?_ _ _ _ (by first | (left; simp; done) | (right; simp; done) | (right; omega) | (right; simp; omega)))
  clear s0 s1 s2 s3 S0 S1 S2 S3 e0 e1 e2 e3 e4 e5 e6 E0 E1 E2 E3 E4 E5 E6 g5 HQS HQE HQZ HQY HQO HQB hsz
  clear v7
  rintro v0 ⟨lo, hB⟩
  have HLo := Lib.hid lo
  have HBt := Lib.hid hB
  have hsz := hB.size
  obtain ⟨⟨g1, s0, s1, s2, s3, S0, S1, S2, S3⟩, ⟨g5, e0, e1, e2, e3, e4, e5, e6, E0, E1, E2, E3, E4, E5, E6⟩, g6, g7, g8⟩ := lo
  clear hB g1 g5 g6 g7 g8
  have HS := Lib.hid HLo.out.S
  have HE := Lib.hid HLo.out.E
  have HZ := Lib.hid HLo.out.Z
  have HY := Lib.hid HLo.out.Y
  have HO := Lib.hid HLo.out.O
  clear s0 s1 s2 s3 S0 S1 S2 S3 e0 e1 e2 e3 e4 e5 e6 E0 E1 E2 E3 E4 E5 E6 hsz
  clear HLo
  refine wp_region_rows 70 3 [u00.heap.size + 1] (fun i => if i = 2 then [u00.heap.size + 1] else []) lb1_in (fun i => false) (fun i v u => match i with | 0 => v = .agg #[.int .i64 s'.pc, .slice (some ⟨gr, 0, none⟩) 8 cr, .slice (some ⟨gc, 0, none⟩) 5 cc, .slice (some ⟨gm, 0, none⟩) 256 cm] | 1 => v = .agg #[.int .i64 ({ e' with v := 0 }).pc, .int .i64 ({ e' with v := 0 }).w, .int .i64 ({ e' with v := 0 }).why, .int .i64 ({ e' with v := 0 }).d, .int .i64 ({ e' with v := 0 }).v, .int .i64 ({ e' with v := 0 }).ad, .int .i64 ({ e' with v := 0 }).dt] | 2 => v = undef ∧ Box4 u (u00.heap.size + 1) (.int .i64 s'.pc) (.slice (some ⟨gr, 0, none⟩) 8 cr) (.slice (some ⟨gc, 0, none⟩) 5 cc) (.slice (some ⟨gm, 0, none⟩) 256 cm) | _ => True) ?mono (by kernel_rfl) (by kernel_rfl) rfl (by kernel_rfl) (by kernel_rfl) (by decide) ?step ?fin
  case mono =>
   intro i j v u u' hi hij hdj hsz h hB
   rcases j with _ | _ | _ | j
   ·exact h
   ·exact h
   ·refine ⟨h.1, ?_⟩
    have hB' : But [] u u' := hB.mono (fun k hk _ => lb1_out i hij k hk)
    exact h.2.but hB' (by simp)
   ·trivial
  case step =>
   intro i o ho hiz
   rcases i with _ | _ | _ | _ | i
   ·clear hiz
    cases ho
    intro act u hB hL hdep hap hnw
    replace hB := hB [u00.heap.size + 1] (fun j _ k hk => lb1_in j k hk)
    have x2 := out_val hL (k := 2) (by kernel_rfl) rfl rfl
    clear hdep hL hap hnw
    have Bx := HS.out.but hB (by simp; try omega)
    obtain ⟨lt, c0, c1, c2, c3, _, _, _, _⟩ := Bx
    refine wpOp_step rfl (fun K hK => ?_)
    go_simp
    exact hK _ _ ⟨_, rfl, (fun h => by cases h), rfl, But.refl _ _, (fun h => by cases h)⟩
   ·clear hiz
    cases ho
    intro act u hB hL hdep hap hnw
    replace hB := hB [u00.heap.size + 1] (fun j _ k hk => lb1_in j k hk)
    have x6 := out_val hL (k := 6) (by kernel_rfl) rfl rfl
    clear hdep hL hap hnw
    have Bx := HE.out.but hB (by simp; try omega)
    obtain ⟨lt, c0, c1, c2, c3, c4, c5, c6, _, _, _, _, _, _, _⟩ := Bx
    refine wpOp_step rfl (fun K hK => ?_)
    go_simp
    exact hK _ _ ⟨_, rfl, (fun h => by cases h), rfl, But.refl _ _, (fun h => by cases h)⟩
   ·clear hiz
    cases ho
    intro act u hB hL hdep hap hnw
    replace hB := hB [] lb1_out
    have e0 : act.tmps.getD 68 undef = _ := hdep { on := 0, ground := .data } (by simp) rfl _ rfl
    have x4 := out_val hL (k := 4) (by kernel_rfl) rfl rfl
    clear hdep hL hap hnw
    have Bz0 := HZ.out.but hB (by simp; try omega)
    have Bz1 := Bz0
    obtain ⟨lt, c0, c1, c2, c3, f0, f1, f2, f3⟩ := Bz1
    refine wpOp_step rfl (fun K hK => ?_)
    go_simp
    exact hK _ _ ⟨undef, rfl, (fun _ => rfl), ⟨rfl, Bz0.set (.int .i64 s'.pc) (.slice (some ⟨gr, 0, none⟩) 8 cr) (.slice (some ⟨gc, 0, none⟩) 5 cc) (.slice (some ⟨gm, 0, none⟩) 256 cm)⟩, (But.refl _ _).set4 (u00.heap.size + 1) _ _ _ _ (.inl (by simp)), (fun h => by cases h)⟩
   ·exact absurd rfl hiz
   ·exact absurd ho (by simp)
  case fin =>
   intro act u hB hL hsf hap hnw
   have d1 := hsf 1 _ rfl (by decide)
   have d2 := hsf 2 _ rfl (by decide)
   obtain ⟨ysl, ha, hy⟩ := hL.puts [68, 69] (by kernel_rfl)
   have e1 : ysl 69 = _ := (hy 69).symm.trans d1
   obtain ⟨h2, Bz⟩ := d2
   clear hL hsf hy hap hnw d1
   simp only [List.foldl, List.setIfInBounds_toArray, List.set_cons_succ, List.set_cons_zero, e1] at ha
   subst ha
   clear e1
   have ow1 : Own u gr gc gm s' := HO.out.but hB (by simp; omega) (by simp; omega) (by simp; omega)
   have Bz1 := Bz
   obtain ⟨_, z0, z1, z2, z3, _, _, _, _⟩ := Bz1
   have By := HY.out.but hB (by simp; try omega)
   have By1 := By
   obtain ⟨yl, y0, y1, y2, y3, y4, y5, y6, x0, x1, x2, x3, x4, x5, x6⟩ := By1
   have hB2 : But [gr, gc, gm] u00 u := HBt.out.trans2 hB (fun k hk => by simp at hk ⊢; omega)
   refine wpOp_step rfl (fun K hK => ?_)
   go_simp
   refine hK _ _ ?_
   refine wp_seq_gen (fun t => Own t gr gc gm s' ∧ Box4 t (u00.heap.size + 1) (.int .i64 s'.pc) (.slice (some ⟨gr, 0, none⟩) 8 cr) (.slice (some ⟨gc, 0, none⟩) 5 cc) (.slice (some ⟨gm, 0, none⟩) 256 cm) ∧ Box7 t (u00.heap.size + 2) ({ e' with v := 0 }) ∧ But [gr, gc, gm] u00 t) ⟨?_, ?_, ?_, ?_⟩ ?_
   ·(repeat with_reducible first | refine Own.alloc ?_ _ | refine Own.drew ?_ | refine Own.drewN ?_ _ | refine Own.other ?_ _ _ _ (by omega) (by omega) (by omega))
    exact ow1
   ·(repeat with_reducible first | assumption | exact Box4.new _ _ _ _ _ _ _ (by first | rfl | simp | (simp; omega)) | refine Box4.alloc ?_ _ | refine Box4.drew ?_ | refine Box4.drewN ?_ _ | refine Box4.other ?_ _ _ _ (by omega))
   ·exact ((((((By.set0 _).set1 _).set2 _).set3 _).set4 _).set5 _).set6 _
   ·(repeat with_reducible first | exact But.refl _ _ | assumption | refine But.alloc ?_ _ | refine But.drew ?_ | refine But.drewN ?_ _ | refine But.set ?_ _ _ _ (by first | (left; simp; done) | (right; simp; done) | (right; omega) | (right; simp; omega)))
   clear z0 z1 z2 z3 y0 y1 y2 y3 y4 y5 y6 x0 x1 x2 x3 x4 x5 x6 By Bz ow1 hB2 hB yl
   rintro t ⟨ow2, bz, by', hB2⟩
   obtain ⟨_, z0, z1, z2, z3, _, _, _, _⟩ := bz
   obtain ⟨_, y0, y1, y2, y3, y4, y5, y6, _, _, _, _, _, _, _⟩ := by'
   go_wp2
   refine bodyPost_ret (v := .tuple #[.agg #[.int .i64 s'.pc, .slice (some ⟨gr, 0, none⟩) 8 cr, .slice (some ⟨gc, 0, none⟩) 5 cc, .slice (some ⟨gm, 0, none⟩) 256 cm], .agg #[.int .i64 ({ e' with v := 0 }).pc, .int .i64 ({ e' with v := 0 }).w, .int .i64 ({ e' with v := 0 }).why, .int .i64 ({ e' with v := 0 }).d, .int .i64 ({ e' with v := 0 }).v, .int .i64 ({ e' with v := 0 }).ad, .int .i64 ({ e' with v := 0 }).dt]]) (by simp [results, Tryd.results47, go_sem, z0, z1, z2, z3, y0, y1, y2, y3, y4, y5, y6]) rfl ?_
   exact ⟨by rw [HEE.out], ow2, hB2⟩
set_option maxRecDepth 8000 in
set_option maxHeartbeats 4000000 in
theorem spec_Step_takeF (s : St) (gr gc gm cr cc cm : Nat) (u00 : World) (ho : Own u00 gr gc gm s) (hk : OkS s)  (hs : see s.C s.M s.pc false < 0) :
  Calls Tryd.prog 47 #[.agg #[.int .i64 s.pc, .slice (some ⟨gr, 0, none⟩) 8 cr, .slice (some ⟨gc, 0, none⟩) 5 cc, .slice (some ⟨gm, 0, none⟩) 256 cm], .bool false] u00 (MP (stopS s 2) ⟨s.pc, -1, 2, 0, 0, -1, 0⟩ gr gc gm cr cc cm u00) := by
 have lr := ho.R.lt
 have lc := ho.C.lt
 have lm := ho.M.lt
 have HO0 := Lib.hid ho
 have HK := Lib.hid hk
 have HCl := Lib.hid hk.Cl
 have HC3 := Lib.hid (And.intro (ok_get hk.C 3).1 hk.c3)
 have c3b := ok_get hk.C 3
 have hc4 := hk.c3
 have pb := okB_true hk.pc
 obtain ⟨t3, h3⟩ : ∃ t, t = s.C.getD 3 0 := ⟨_, rfl⟩
 have H3 := Lib.hid h3.symm
 rw [← h3] at c3b hc4
 have k3 := ho.C.cel 3 (by rw [HCl.out]; decide)
 rw [H3.out] at k3
 have l1 : gc < u00.heap.size + 1 := by omega
 have l2 : gc < u00.heap.size + 1 + 1 := by omega
 have l3 : gc < u00.heap.size + 1 + 1 + 1 := by omega
 have l4 : gc < u00.heap.size + 1 + 1 + 1 + 1 := by omega
 have m2 : gc < u00.heap.size + 2 := by omega
 have m3 : gc < u00.heap.size + 3 := by omega
 have m4 : gc < u00.heap.size + 4 := by omega
 have EP := Lib.hid (fun (v : World) (ov : Own v gr gc gm s) => spec_l4Page s.C s.M (some ⟨gc, 0, none⟩) (some ⟨gm, 0, none⟩) cc cm s.pc false v ov.C.src ov.M.src hk.Cl hk.Ml hk.C hk.M pb.1 pb.2)
 rw [hk.Cl, hk.Ml] at EP
 have HQ := see_bd s.C s.M s.pc false pb.1
 have HMl := Lib.hid hk.Ml
 generalize see s.C s.M s.pc false = q at *
 clear ho hk h3
 go_enter Tryd.func47, Tryd.ntmps47
 go_wp2_with fail
 refine calls_gen (fun v => Lt v u00.heap.size s gr gc gm cr cc cm (⟨s.pc, -1, 0, 0, 0, -1, 0⟩ : Ev) ∧ But [gr, gc, gm] u00 v) ⟨⟨?_, ?_, ?_, ?_, ?_⟩, ?_⟩ ?_
 ·(repeat with_reducible first | assumption | exact Box4.new _ _ _ _ _ _ _ (by first | rfl | simp | (simp; omega)) | refine Box4.alloc ?_ _ | refine Box4.drew ?_ | refine Box4.drewN ?_ _ | refine Box4.other ?_ _ _ _ (by omega))
 ·first | (exact Box7.newv _ _ _ _ _ _ _ _ _ _ (by simp)) | (repeat with_reducible first | assumption | exact Box7.new _ _ _ _ (by first | rfl | simp | (simp; omega)) | exact Box7.newv _ _ _ _ _ _ _ _ _ _ (by first | rfl | simp | (simp; omega)) | refine Box7.alloc ?_ _ | refine Box7.drew ?_ | refine Box7.drewN ?_ _ | refine Box7.other ?_ _ _ _ (by omega))
 ·(repeat with_reducible first | assumption | exact Box4.new _ _ _ _ _ _ _ (by first | rfl | simp | (simp; omega)) | refine Box4.alloc ?_ _ | refine Box4.drew ?_ | refine Box4.drewN ?_ _ | refine Box4.other ?_ _ _ _ (by omega))
 ·(repeat with_reducible first | assumption | exact Box7.new _ _ _ _ (by first | rfl | simp | (simp; omega)) | exact Box7.newv _ _ _ _ _ _ _ _ _ _ (by first | rfl | simp | (simp; omega)) | refine Box7.alloc ?_ _ | refine Box7.drew ?_ | refine Box7.drewN ?_ _ | refine Box7.other ?_ _ _ _ (by omega))
 ·(repeat with_reducible first | refine Own.alloc ?_ _ | refine Own.drew ?_ | refine Own.drewN ?_ _ | refine Own.other ?_ _ _ _ (by omega) (by omega) (by omega))
  exact HO0.out
 ·(repeat with_reducible first | exact But.refl _ _ | assumption | refine But.alloc ?_ _ | refine But.drew ?_ | refine But.drewN ?_ _ | refine But.set ?_ _ _ _ (by first | (left; simp; done) | (right; simp; done) | (right; omega) | (right; simp; omega)))
 simp only [Nat.add_assoc, Nat.reduceAdd]
 clear k3 l1 l2 l3 l4 m2 m3 m4
 rintro v1 ⟨lo, hB⟩
 have HLo := Lib.hid lo
 have HBt := Lib.hid hB
 have hsz := hB.size
 obtain ⟨⟨g1, s0, s1, s2, s3, S0, S1, S2, S3⟩, ⟨g5, e0, e1, e2, e3, e4, e5, e6, E0, E1, E2, E3, E4, E5, E6⟩, g6, g7, g8⟩ := lo
 clear hB g1 g5 g6 g7 g8
 refine (EP.out v1 HLo.out.O).mono ?_
 rintro r w' ⟨rfl, rfl⟩
 go_wp2_with fail
 refine wp_gen (fun v => Lt v u00.heap.size s gr gc gm cr cc cm (⟨s.pc, -1, 2, 0, 0, -1, 0⟩ : Ev) ∧ But [gr, gc, gm] u00 v) ⟨⟨?_, ?_, ?_, ?_, ?_⟩, ?_⟩ ?_
 ·have q1 := HLo.out.S
  (repeat with_reducible first | assumption | exact Box4.new _ _ _ _ _ _ _ (by first | rfl | simp | (simp; omega)) | refine Box4.alloc ?_ _ | refine Box4.drew ?_ | refine Box4.drewN ?_ _ | refine Box4.other ?_ _ _ _ (by omega))
 ·have q1 := HLo.out.E
  exact q1.set2 2
 ·have q1 := HLo.out.Z
  (repeat with_reducible first | assumption | exact Box4.new _ _ _ _ _ _ _ (by first | rfl | simp | (simp; omega)) | refine Box4.alloc ?_ _ | refine Box4.drew ?_ | refine Box4.drewN ?_ _ | refine Box4.other ?_ _ _ _ (by omega))
 ·have q1 := HLo.out.Y
  (repeat with_reducible first | assumption | exact Box7.new _ _ _ _ (by first | rfl | simp | (simp; omega)) | exact Box7.newv _ _ _ _ _ _ _ _ _ _ (by first | rfl | simp | (simp; omega)) | refine Box7.alloc ?_ _ | refine Box7.drew ?_ | refine Box7.drewN ?_ _ | refine Box7.other ?_ _ _ _ (by omega))
 ·have q1 := HLo.out.O
  (repeat with_reducible first | refine Own.alloc ?_ _ | refine Own.drew ?_ | refine Own.drewN ?_ _ | refine Own.other ?_ _ _ _ (by omega) (by omega) (by omega))
  exact q1
 ·have hB := HBt.out
  (repeat with_reducible first | exact But.refl _ _ | assumption | refine But.alloc ?_ _ | refine But.drew ?_ | refine But.drewN ?_ _ | refine But.set ?_ _ _ _ (by first | (left; simp; done) | (right; simp; done) | (right; omega) | (right; simp; omega)))
 clear s0 s1 s2 s3 S0 S1 S2 S3 e0 e1 e2 e3 e4 e5 e6 E0 E1 E2 E3 E4 E5 E6 hsz
 clear HLo HBt
 clear v1
 rintro v0 ⟨lo, hB⟩
 have HLo := Lib.hid lo
 have HBt := Lib.hid hB
 have hsz := hB.size
 obtain ⟨⟨g1, s0, s1, s2, s3, S0, S1, S2, S3⟩, ⟨g5, e0, e1, e2, e3, e4, e5, e6, E0, E1, E2, E3, E4, E5, E6⟩, g6, g7, g8⟩ := lo
 clear hB g1 g5 g6 g7 g8
 have HS := Lib.hid HLo.out.S
 have HE := Lib.hid HLo.out.E
 have HZ := Lib.hid HLo.out.Z
 have HY := Lib.hid HLo.out.Y
 have HO := Lib.hid HLo.out.O
 clear s0 s1 s2 s3 S0 S1 S2 S3 e0 e1 e2 e3 e4 e5 e6 E0 E1 E2 E3 E4 E5 E6 hsz
 clear HLo
 refine wp_region_rows 70 4 [gc, u00.heap.size + 1] (fun i => if i = 1 then [gc] else if i = 3 then [u00.heap.size + 1] else []) lb2_in (fun i => false) (fun i v u => match i with | 0 => v = .agg #[.int .i64 s.pc, .slice (some ⟨gr, 0, none⟩) 8 cr, .slice (some ⟨gc, 0, none⟩) 5 cc, .slice (some ⟨gm, 0, none⟩) 256 cm] | 1 => v = .agg #[.int .i64 8, .slice (some ⟨gr, 0, none⟩) 8 cr, .slice (some ⟨gc, 0, none⟩) 5 cc, .slice (some ⟨gm, 0, none⟩) 256 cm] ∧ Own u gr gc gm (stopS s 2) | 2 => v = .agg #[.int .i64 ((⟨s.pc, -1, 2, 0, 0, -1, 0⟩ : Ev)).pc, .int .i64 ((⟨s.pc, -1, 2, 0, 0, -1, 0⟩ : Ev)).w, .int .i64 ((⟨s.pc, -1, 2, 0, 0, -1, 0⟩ : Ev)).why, .int .i64 ((⟨s.pc, -1, 2, 0, 0, -1, 0⟩ : Ev)).d, .int .i64 ((⟨s.pc, -1, 2, 0, 0, -1, 0⟩ : Ev)).v, .int .i64 ((⟨s.pc, -1, 2, 0, 0, -1, 0⟩ : Ev)).ad, .int .i64 ((⟨s.pc, -1, 2, 0, 0, -1, 0⟩ : Ev)).dt] | 3 => v = undef ∧ Box4 u (u00.heap.size + 1) (.int .i64 8) (.slice (some ⟨gr, 0, none⟩) 8 cr) (.slice (some ⟨gc, 0, none⟩) 5 cc) (.slice (some ⟨gm, 0, none⟩) 256 cm) | _ => True) ?mono (by kernel_rfl) (by kernel_rfl) rfl (by kernel_rfl) (by kernel_rfl) (by decide) ?step ?fin
 case mono =>
  intro i j v u u' hi hij hdj hsz h hB
  rcases j with _ | _ | _ | _ | j
  ·exact h
  ·refine ⟨h.1, ?_⟩
   have hB' : But [u00.heap.size + 1] u u' := hB.mono (fun k hk _ => lb2_out i hij k hk)
   exact h.2.but hB' (by simp; omega) (by simp; omega) (by simp; omega)
  ·exact h
  ·refine ⟨h.1, ?_⟩
   have hB' : But [gc] u u' := hB.mono (fun k hk _ => lb2_out' i hij k hk)
   exact h.2.but hB' (by simp; omega)
  ·trivial
 case step =>
  intro i o ho hiz
  rcases i with _ | _ | _ | _ | _ | i
  ·clear hiz
   cases ho
   intro act u hB hL hdep hap hnw
   replace hB := hB [gc, u00.heap.size + 1] (fun j _ k hk => lb2_in j k hk)
   have x2 := out_val hL (k := 2) (by kernel_rfl) rfl rfl
   clear hdep hL hap hnw
   have Bx := HS.out.but hB (by simp; try omega)
   obtain ⟨lt, c0, c1, c2, c3, _, _, _, _⟩ := Bx
   refine wpOp_step rfl (fun K hK => ?_)
   go_simp
   exact hK _ _ ⟨_, rfl, (fun h => by cases h), rfl, But.refl _ _, (fun h => by cases h)⟩
  ·clear hiz
   cases ho
   intro act u hB hL hdep hap hnw
   replace hB := hB [u00.heap.size + 1] lb2_out
   have e0 : act.tmps.getD 36 undef = _ := hdep { on := 0, ground := .data } (by simp) rfl _ rfl
   have hdf := Lib.hid (show act.defers = [] from hL.1)
   clear hdep hL hap hnw
   refine wpOp_step rfl (fun K hK => ?_)
   go_simp
   refine (spec_l4Stop s gr gc gm cr cc cm 2 u (HO.out.but hB (by simp; omega) (by simp; omega) (by simp; omega)) HCl.out HC3.out.1 HC3.out.2).mono ?_
   rintro e u' ⟨rfl, ho', hB'⟩
   go_simp
   exact hK _ _ ⟨_, rfl, (fun h => by cases h), ⟨rfl, ho'⟩, hB', (fun h => by cases h)⟩
  ·clear hiz
   cases ho
   intro act u hB hL hdep hap hnw
   replace hB := hB [gc, u00.heap.size + 1] (fun j _ k hk => lb2_in j k hk)
   have x6 := out_val hL (k := 6) (by kernel_rfl) rfl rfl
   clear hdep hL hap hnw
   have Bx := HE.out.but hB (by simp; try omega)
   obtain ⟨lt, c0, c1, c2, c3, c4, c5, c6, _, _, _, _, _, _, _⟩ := Bx
   refine wpOp_step rfl (fun K hK => ?_)
   go_simp
   exact hK _ _ ⟨_, rfl, (fun h => by cases h), rfl, But.refl _ _, (fun h => by cases h)⟩
  ·clear hiz
   cases ho
   intro act u hB hL hdep hap hnw
   replace hB := hB [gc] lb2_out'
   obtain ⟨h1, ow⟩ := hdep { on := 1, ground := .data } (by simp) rfl _ rfl
   have e1 : act.tmps.getD 37 undef = .agg #[.int .i64 8, .slice (some ⟨gr, 0, none⟩) 8 cr, .slice (some ⟨gc, 0, none⟩) 5 cc, .slice (some ⟨gm, 0, none⟩) 256 cm] := h1
   have x4 := out_val hL (k := 4) (by kernel_rfl) rfl rfl
   clear ow
   clear hdep hL hap hnw h1
   have Bz0 := HZ.out.but hB (by simp; try omega)
   have Bz1 := Bz0
   obtain ⟨lt, c0, c1, c2, c3, f0, f1, f2, f3⟩ := Bz1
   refine wpOp_step rfl (fun K hK => ?_)
   go_simp
   exact hK _ _ ⟨undef, rfl, (fun _ => rfl), ⟨rfl, Bz0.set (.int .i64 8) (.slice (some ⟨gr, 0, none⟩) 8 cr) (.slice (some ⟨gc, 0, none⟩) 5 cc) (.slice (some ⟨gm, 0, none⟩) 256 cm)⟩, (But.refl _ _).set4 (u00.heap.size + 1) _ _ _ _ (.inl (by simp)), (fun h => by cases h)⟩
  ·exact absurd rfl hiz
  ·exact absurd ho (by simp)
 case fin =>
  intro act u hB hL hsf hap hnw
  have d2 := hsf 2 _ rfl (by decide)
  have d3 := hsf 3 _ rfl (by decide)
  have d1 := hsf 1 _ rfl (by decide)
  obtain ⟨ysl, ha, hy⟩ := hL.puts [36, 37, 38] (by kernel_rfl)
  have e2 : ysl 38 = _ := (hy 38).symm.trans d2
  obtain ⟨h3, Bz⟩ := d3
  obtain ⟨h1, ow⟩ := d1
  have e1 : ysl 37 = .agg #[.int .i64 8, .slice (some ⟨gr, 0, none⟩) 8 cr, .slice (some ⟨gc, 0, none⟩) 5 cc, .slice (some ⟨gm, 0, none⟩) 256 cm] := (hy 37).symm.trans h1
  clear hL hsf hy hap hnw d2 h1
  simp only [List.foldl, List.setIfInBounds_toArray, List.set_cons_succ, List.set_cons_zero, e2, e1] at ha
  subst ha
  clear e2 e1
  have ow1 : Own u gr gc gm (stopS s 2) := ow
  have Bz1 := Bz
  obtain ⟨_, z0, z1, z2, z3, _, _, _, _⟩ := Bz1
  have By := HY.out.but hB (by simp; try omega)
  have By1 := By
  obtain ⟨yl, y0, y1, y2, y3, y4, y5, y6, x0, x1, x2, x3, x4, x5, x6⟩ := By1
  have hB2 : But [gr, gc, gm] u00 u := HBt.out.trans2 hB (fun k hk => by simp at hk ⊢; omega)
  refine wpOp_step rfl (fun K hK => ?_)
  go_simp
  refine hK _ _ ?_
  refine wp_seq_gen (fun t => Own t gr gc gm (stopS s 2) ∧ Box4 t (u00.heap.size + 1) (.int .i64 8) (.slice (some ⟨gr, 0, none⟩) 8 cr) (.slice (some ⟨gc, 0, none⟩) 5 cc) (.slice (some ⟨gm, 0, none⟩) 256 cm) ∧ Box7 t (u00.heap.size + 2) ((⟨s.pc, -1, 2, 0, 0, -1, 0⟩ : Ev)) ∧ But [gr, gc, gm] u00 t) ⟨?_, ?_, ?_, ?_⟩ ?_
  ·(repeat with_reducible first | refine Own.alloc ?_ _ | refine Own.drew ?_ | refine Own.drewN ?_ _ | refine Own.other ?_ _ _ _ (by omega) (by omega) (by omega))
   exact ow1
  ·(repeat with_reducible first | assumption | exact Box4.new _ _ _ _ _ _ _ (by first | rfl | simp | (simp; omega)) | refine Box4.alloc ?_ _ | refine Box4.drew ?_ | refine Box4.drewN ?_ _ | refine Box4.other ?_ _ _ _ (by omega))
  ·exact ((((((By.set0 _).set1 _).set2 _).set3 _).set4 _).set5 _).set6 _
  ·(repeat with_reducible first | exact But.refl _ _ | assumption | refine But.alloc ?_ _ | refine But.drew ?_ | refine But.drewN ?_ _ | refine But.set ?_ _ _ _ (by first | (left; simp; done) | (right; simp; done) | (right; omega) | (right; simp; omega)))
  clear z0 z1 z2 z3 y0 y1 y2 y3 y4 y5 y6 x0 x1 x2 x3 x4 x5 x6 By Bz ow1 hB2 hB yl
  rintro t ⟨ow2, bz, by', hB2⟩
  obtain ⟨_, z0, z1, z2, z3, _, _, _, _⟩ := bz
  obtain ⟨_, y0, y1, y2, y3, y4, y5, y6, _, _, _, _, _, _, _⟩ := by'
  go_wp2
  refine bodyPost_ret (v := .tuple #[.agg #[.int .i64 8, .slice (some ⟨gr, 0, none⟩) 8 cr, .slice (some ⟨gc, 0, none⟩) 5 cc, .slice (some ⟨gm, 0, none⟩) 256 cm], .agg #[.int .i64 ((⟨s.pc, -1, 2, 0, 0, -1, 0⟩ : Ev)).pc, .int .i64 ((⟨s.pc, -1, 2, 0, 0, -1, 0⟩ : Ev)).w, .int .i64 ((⟨s.pc, -1, 2, 0, 0, -1, 0⟩ : Ev)).why, .int .i64 ((⟨s.pc, -1, 2, 0, 0, -1, 0⟩ : Ev)).d, .int .i64 ((⟨s.pc, -1, 2, 0, 0, -1, 0⟩ : Ev)).v, .int .i64 ((⟨s.pc, -1, 2, 0, 0, -1, 0⟩ : Ev)).ad, .int .i64 ((⟨s.pc, -1, 2, 0, 0, -1, 0⟩ : Ev)).dt]]) (by simp [results, Tryd.results47, go_sem, z0, z1, z2, z3, y0, y1, y2, y3, y4, y5, y6]) rfl ?_
  exact ⟨rfl, ow2, hB2⟩
set_option maxRecDepth 8000 in
set_option maxHeartbeats 4000000 in
theorem spec_Step_codeF (s : St) (gr gc gm cr cc cm : Nat) (u00 : World) (ho : Own u00 gr gc gm s) (hk : OkS s)  (hs : 0 ≤ see s.C s.M s.pc false) (hg : gd (wAt s) = false) :
  Calls Tryd.prog 47 #[.agg #[.int .i64 s.pc, .slice (some ⟨gr, 0, none⟩) 8 cr, .slice (some ⟨gc, 0, none⟩) 5 cc, .slice (some ⟨gm, 0, none⟩) 256 cm], .bool false] u00 (MP (stopS s 1) ⟨s.pc, wAt s, 1, 0, 0, -1, 0⟩ gr gc gm cr cc cm u00) := by
 have lr := ho.R.lt
 have lc := ho.C.lt
 have lm := ho.M.lt
 have HO0 := Lib.hid ho
 have HK := Lib.hid hk
 have HCl := Lib.hid hk.Cl
 have HC3 := Lib.hid (And.intro (ok_get hk.C 3).1 hk.c3)
 have c3b := ok_get hk.C 3
 have hc4 := hk.c3
 have pb := okB_true hk.pc
 obtain ⟨t3, h3⟩ : ∃ t, t = s.C.getD 3 0 := ⟨_, rfl⟩
 have H3 := Lib.hid h3.symm
 rw [← h3] at c3b hc4
 have k3 := ho.C.cel 3 (by rw [HCl.out]; decide)
 rw [H3.out] at k3
 have l1 : gc < u00.heap.size + 1 := by omega
 have l2 : gc < u00.heap.size + 1 + 1 := by omega
 have l3 : gc < u00.heap.size + 1 + 1 + 1 := by omega
 have l4 : gc < u00.heap.size + 1 + 1 + 1 + 1 := by omega
 have m2 : gc < u00.heap.size + 2 := by omega
 have m3 : gc < u00.heap.size + 3 := by omega
 have m4 : gc < u00.heap.size + 4 := by omega
 have EP := Lib.hid (fun (v : World) (ov : Own v gr gc gm s) => spec_l4Page s.C s.M (some ⟨gc, 0, none⟩) (some ⟨gm, 0, none⟩) cc cm s.pc false v ov.C.src ov.M.src hk.Cl hk.Ml hk.C hk.M pb.1 pb.2)
 rw [hk.Cl, hk.Ml] at EP
 have HQ := see_bd s.C s.M s.pc false pb.1
 have HMl := Lib.hid hk.Ml
 obtain ⟨m, hm⟩ : ∃ m, m = wAt s := ⟨_, rfl⟩
 have HM := Lib.hid (show s.M.getD (see s.C s.M s.pc false).toNat 0 = m from hm.symm)
 have HD := Lib.hid (fun (v : World) => spec_CodRead m v)
 rw [← hm] at hg ⊢
 rw [rV_f hg] at HD
 clear hg
 clear hm
 generalize see s.C s.M s.pc false = q at *
 clear ho hk h3
 go_enter Tryd.func47, Tryd.ntmps47
 go_wp2_with fail
 refine calls_gen (fun v => Lt v u00.heap.size s gr gc gm cr cc cm (⟨s.pc, -1, 0, 0, 0, -1, 0⟩ : Ev) ∧ But [gr, gc, gm] u00 v) ⟨⟨?_, ?_, ?_, ?_, ?_⟩, ?_⟩ ?_
 ·(repeat with_reducible first | assumption | exact Box4.new _ _ _ _ _ _ _ (by first | rfl | simp | (simp; omega)) | refine Box4.alloc ?_ _ | refine Box4.drew ?_ | refine Box4.drewN ?_ _ | refine Box4.other ?_ _ _ _ (by omega))
 ·first | (exact Box7.newv _ _ _ _ _ _ _ _ _ _ (by simp)) | (repeat with_reducible first | assumption | exact Box7.new _ _ _ _ (by first | rfl | simp | (simp; omega)) | exact Box7.newv _ _ _ _ _ _ _ _ _ _ (by first | rfl | simp | (simp; omega)) | refine Box7.alloc ?_ _ | refine Box7.drew ?_ | refine Box7.drewN ?_ _ | refine Box7.other ?_ _ _ _ (by omega))
 ·(repeat with_reducible first | assumption | exact Box4.new _ _ _ _ _ _ _ (by first | rfl | simp | (simp; omega)) | refine Box4.alloc ?_ _ | refine Box4.drew ?_ | refine Box4.drewN ?_ _ | refine Box4.other ?_ _ _ _ (by omega))
 ·(repeat with_reducible first | assumption | exact Box7.new _ _ _ _ (by first | rfl | simp | (simp; omega)) | exact Box7.newv _ _ _ _ _ _ _ _ _ _ (by first | rfl | simp | (simp; omega)) | refine Box7.alloc ?_ _ | refine Box7.drew ?_ | refine Box7.drewN ?_ _ | refine Box7.other ?_ _ _ _ (by omega))
 ·(repeat with_reducible first | refine Own.alloc ?_ _ | refine Own.drew ?_ | refine Own.drewN ?_ _ | refine Own.other ?_ _ _ _ (by omega) (by omega) (by omega))
  exact HO0.out
 ·(repeat with_reducible first | exact But.refl _ _ | assumption | refine But.alloc ?_ _ | refine But.drew ?_ | refine But.drewN ?_ _ | refine But.set ?_ _ _ _ (by first | (left; simp; done) | (right; simp; done) | (right; omega) | (right; simp; omega)))
 simp only [Nat.add_assoc, Nat.reduceAdd]
 clear k3 l1 l2 l3 l4 m2 m3 m4
 rintro v1 ⟨lo, hB⟩
 have HLo := Lib.hid lo
 have HBt := Lib.hid hB
 have hsz := hB.size
 obtain ⟨⟨g1, s0, s1, s2, s3, S0, S1, S2, S3⟩, ⟨g5, e0, e1, e2, e3, e4, e5, e6, E0, E1, E2, E3, E4, E5, E6⟩, g6, g7, g8⟩ := lo
 clear hB g1 g5 g6 g7 g8
 refine (EP.out v1 HLo.out.O).mono ?_
 rintro r w' ⟨rfl, rfl⟩
 have cq := HLo.out.O.M.cel q.toNat (by rw [HMl.out]; omega)
 rw [HM.out] at cq
 go_wp2_with fail
 refine calls_gen (fun v => Lt v u00.heap.size s gr gc gm cr cc cm (⟨s.pc, m, 0, 0, 0, -1, 0⟩ : Ev) ∧ But [gr, gc, gm] u00 v) ⟨⟨?_, ?_, ?_, ?_, ?_⟩, ?_⟩ ?_
 ·have q1 := HLo.out.S
  (repeat with_reducible first | assumption | exact Box4.new _ _ _ _ _ _ _ (by first | rfl | simp | (simp; omega)) | refine Box4.alloc ?_ _ | refine Box4.drew ?_ | refine Box4.drewN ?_ _ | refine Box4.other ?_ _ _ _ (by omega))
 ·have q1 := HLo.out.E
  exact q1.set1 m
 ·have q1 := HLo.out.Z
  (repeat with_reducible first | assumption | exact Box4.new _ _ _ _ _ _ _ (by first | rfl | simp | (simp; omega)) | refine Box4.alloc ?_ _ | refine Box4.drew ?_ | refine Box4.drewN ?_ _ | refine Box4.other ?_ _ _ _ (by omega))
 ·have q1 := HLo.out.Y
  (repeat with_reducible first | assumption | exact Box7.new _ _ _ _ (by first | rfl | simp | (simp; omega)) | exact Box7.newv _ _ _ _ _ _ _ _ _ _ (by first | rfl | simp | (simp; omega)) | refine Box7.alloc ?_ _ | refine Box7.drew ?_ | refine Box7.drewN ?_ _ | refine Box7.other ?_ _ _ _ (by omega))
 ·have q1 := HLo.out.O
  (repeat with_reducible first | refine Own.alloc ?_ _ | refine Own.drew ?_ | refine Own.drewN ?_ _ | refine Own.other ?_ _ _ _ (by omega) (by omega) (by omega))
  exact q1
 ·have hB := HBt.out
  (repeat with_reducible first | exact But.refl _ _ | assumption | refine But.alloc ?_ _ | refine But.drew ?_ | refine But.drewN ?_ _ | refine But.set ?_ _ _ _ (by first | (left; simp; done) | (right; simp; done) | (right; omega) | (right; simp; omega)))
 clear s0 s1 s2 s3 S0 S1 S2 S3 e0 e1 e2 e3 e4 e5 e6 E0 E1 E2 E3 E4 E5 E6 hsz
 clear HLo HBt cq
 clear v1
 rintro v2 ⟨lo, hB⟩
 refine (HD.out v2).mono ?_
 rintro r v3 ⟨rfl, f⟩
 refine wp_seq_gen2 (fun v => Lt v u00.heap.size s gr gc gm cr cc cm (⟨s.pc, m, 0, 0, 0, -1, 0⟩ : Ev) ∧ But [gr, gc, gm] u00 v ∧ u00.heap.size + 4 ≤ v.heap.size) ⟨lo.fr f, hB.trans (But.of f), by have h1 := lo.E.lt; have h2 := f.size; omega⟩ ?_
 clear lo hB f
 clear v2 v3
 rintro v4 ⟨lo, hB, hz4⟩
 have HLo := Lib.hid lo
 have HBt := Lib.hid hB
 obtain ⟨⟨g1, s0, s1, s2, s3, S0, S1, S2, S3⟩, ⟨g5, e0, e1, e2, e3, e4, e5, e6, E0, E1, E2, E3, E4, E5, E6⟩, g6, g7, g8⟩ := lo
 clear hB g1 g6 g7 g8
 have n1 : ¬ v4.heap.size = u00.heap.size := by omega
 have n2 : ¬ u00.heap.size = v4.heap.size := by omega
 have n3 : ¬ v4.heap.size = u00.heap.size + 3 := by omega
 have n4 : ¬ u00.heap.size + 3 = v4.heap.size := by omega
 have n5 : u00.heap.size < v4.heap.size := by omega
 go_wp2_with fail
 refine wp_gen (fun v => Lt v u00.heap.size s gr gc gm cr cc cm (⟨s.pc, m, 1, 0, 0, -1, 0⟩ : Ev) ∧ But [gr, gc, gm] u00 v) ⟨⟨?_, ?_, ?_, ?_, ?_⟩, ?_⟩ ?_
 ·have q1 := HLo.out.S
  (repeat with_reducible first | assumption | exact Box4.new _ _ _ _ _ _ _ (by first | rfl | simp | (simp; omega)) | refine Box4.alloc ?_ _ | refine Box4.drew ?_ | refine Box4.drewN ?_ _ | refine Box4.other ?_ _ _ _ (by omega))
 ·have q1 := HLo.out.E
  first | (refine Box7.alloc ?_ _; exact q1.set2 1) | exact (q1.alloc _).set2 1
 ·have q1 := HLo.out.Z
  (repeat with_reducible first | assumption | exact Box4.new _ _ _ _ _ _ _ (by first | rfl | simp | (simp; omega)) | refine Box4.alloc ?_ _ | refine Box4.drew ?_ | refine Box4.drewN ?_ _ | refine Box4.other ?_ _ _ _ (by omega))
 ·have q1 := HLo.out.Y
  (repeat with_reducible first | assumption | exact Box7.new _ _ _ _ (by first | rfl | simp | (simp; omega)) | exact Box7.newv _ _ _ _ _ _ _ _ _ _ (by first | rfl | simp | (simp; omega)) | refine Box7.alloc ?_ _ | refine Box7.drew ?_ | refine Box7.drewN ?_ _ | refine Box7.other ?_ _ _ _ (by omega))
 ·have q1 := HLo.out.O
  (repeat with_reducible first | refine Own.alloc ?_ _ | refine Own.drew ?_ | refine Own.drewN ?_ _ | refine Own.other ?_ _ _ _ (by omega) (by omega) (by omega))
  exact q1
 ·have hB := HBt.out
  (repeat with_reducible first | exact But.refl _ _ | assumption | refine But.alloc ?_ _ | refine But.drew ?_ | refine But.drewN ?_ _ | refine But.set ?_ _ _ _ (by first | (left; simp; done) | (right; simp; done) | (right; omega) | (right; simp; omega)))
 clear s0 s1 s2 s3 S0 S1 S2 S3 e0 e1 e2 e3 e4 e5 e6 E0 E1 E2 E3 E4 E5 E6 g5 n1 n2 n3 n4 n5
 clear HLo HBt
 rintro v0 ⟨lo, hB⟩
 have HLo := Lib.hid lo
 have HBt := Lib.hid hB
 have hsz := hB.size
 obtain ⟨⟨g1, s0, s1, s2, s3, S0, S1, S2, S3⟩, ⟨g5, e0, e1, e2, e3, e4, e5, e6, E0, E1, E2, E3, E4, E5, E6⟩, g6, g7, g8⟩ := lo
 clear hB g1 g5 g6 g7 g8
 have HS := Lib.hid HLo.out.S
 have HE := Lib.hid HLo.out.E
 have HZ := Lib.hid HLo.out.Z
 have HY := Lib.hid HLo.out.Y
 have HO := Lib.hid HLo.out.O
 clear s0 s1 s2 s3 S0 S1 S2 S3 e0 e1 e2 e3 e4 e5 e6 E0 E1 E2 E3 E4 E5 E6 hsz
 clear HLo
 refine wp_region_rows 70 4 [gc, u00.heap.size + 1] (fun i => if i = 1 then [gc] else if i = 3 then [u00.heap.size + 1] else []) lb2_in (fun i => false) (fun i v u => match i with | 0 => v = .agg #[.int .i64 s.pc, .slice (some ⟨gr, 0, none⟩) 8 cr, .slice (some ⟨gc, 0, none⟩) 5 cc, .slice (some ⟨gm, 0, none⟩) 256 cm] | 1 => v = .agg #[.int .i64 8, .slice (some ⟨gr, 0, none⟩) 8 cr, .slice (some ⟨gc, 0, none⟩) 5 cc, .slice (some ⟨gm, 0, none⟩) 256 cm] ∧ Own u gr gc gm (stopS s 1) | 2 => v = .agg #[.int .i64 ((⟨s.pc, m, 1, 0, 0, -1, 0⟩ : Ev)).pc, .int .i64 ((⟨s.pc, m, 1, 0, 0, -1, 0⟩ : Ev)).w, .int .i64 ((⟨s.pc, m, 1, 0, 0, -1, 0⟩ : Ev)).why, .int .i64 ((⟨s.pc, m, 1, 0, 0, -1, 0⟩ : Ev)).d, .int .i64 ((⟨s.pc, m, 1, 0, 0, -1, 0⟩ : Ev)).v, .int .i64 ((⟨s.pc, m, 1, 0, 0, -1, 0⟩ : Ev)).ad, .int .i64 ((⟨s.pc, m, 1, 0, 0, -1, 0⟩ : Ev)).dt] | 3 => v = undef ∧ Box4 u (u00.heap.size + 1) (.int .i64 8) (.slice (some ⟨gr, 0, none⟩) 8 cr) (.slice (some ⟨gc, 0, none⟩) 5 cc) (.slice (some ⟨gm, 0, none⟩) 256 cm) | _ => True) ?mono (by kernel_rfl) (by kernel_rfl) rfl (by kernel_rfl) (by kernel_rfl) (by decide) ?step ?fin
 case mono =>
  intro i j v u u' hi hij hdj hsz h hB
  rcases j with _ | _ | _ | _ | j
  ·exact h
  ·refine ⟨h.1, ?_⟩
   have hB' : But [u00.heap.size + 1] u u' := hB.mono (fun k hk _ => lb2_out i hij k hk)
   exact h.2.but hB' (by simp; omega) (by simp; omega) (by simp; omega)
  ·exact h
  ·refine ⟨h.1, ?_⟩
   have hB' : But [gc] u u' := hB.mono (fun k hk _ => lb2_out' i hij k hk)
   exact h.2.but hB' (by simp; omega)
  ·trivial
 case step =>
  intro i o ho hiz
  rcases i with _ | _ | _ | _ | _ | i
  ·clear hiz
   cases ho
   intro act u hB hL hdep hap hnw
   replace hB := hB [gc, u00.heap.size + 1] (fun j _ k hk => lb2_in j k hk)
   have x2 := out_val hL (k := 2) (by kernel_rfl) rfl rfl
   clear hdep hL hap hnw
   have Bx := HS.out.but hB (by simp; try omega)
   obtain ⟨lt, c0, c1, c2, c3, _, _, _, _⟩ := Bx
   refine wpOp_step rfl (fun K hK => ?_)
   go_simp
   exact hK _ _ ⟨_, rfl, (fun h => by cases h), rfl, But.refl _ _, (fun h => by cases h)⟩
  ·clear hiz
   cases ho
   intro act u hB hL hdep hap hnw
   replace hB := hB [u00.heap.size + 1] lb2_out
   have e0 : act.tmps.getD 54 undef = _ := hdep { on := 0, ground := .data } (by simp) rfl _ rfl
   have hdf := Lib.hid (show act.defers = [] from hL.1)
   clear hdep hL hap hnw
   refine wpOp_step rfl (fun K hK => ?_)
   go_simp
   refine (spec_l4Stop s gr gc gm cr cc cm 1 u (HO.out.but hB (by simp; omega) (by simp; omega) (by simp; omega)) HCl.out HC3.out.1 HC3.out.2).mono ?_
   rintro e u' ⟨rfl, ho', hB'⟩
   go_simp
   exact hK _ _ ⟨_, rfl, (fun h => by cases h), ⟨rfl, ho'⟩, hB', (fun h => by cases h)⟩
  ·clear hiz
   cases ho
   intro act u hB hL hdep hap hnw
   replace hB := hB [gc, u00.heap.size + 1] (fun j _ k hk => lb2_in j k hk)
   have x6 := out_val hL (k := 6) (by kernel_rfl) rfl rfl
   clear hdep hL hap hnw
   have Bx := HE.out.but hB (by simp; try omega)
   obtain ⟨lt, c0, c1, c2, c3, c4, c5, c6, _, _, _, _, _, _, _⟩ := Bx
   refine wpOp_step rfl (fun K hK => ?_)
   go_simp
   exact hK _ _ ⟨_, rfl, (fun h => by cases h), rfl, But.refl _ _, (fun h => by cases h)⟩
  ·clear hiz
   cases ho
   intro act u hB hL hdep hap hnw
   replace hB := hB [gc] lb2_out'
   obtain ⟨h1, ow⟩ := hdep { on := 1, ground := .data } (by simp) rfl _ rfl
   have e1 : act.tmps.getD 55 undef = .agg #[.int .i64 8, .slice (some ⟨gr, 0, none⟩) 8 cr, .slice (some ⟨gc, 0, none⟩) 5 cc, .slice (some ⟨gm, 0, none⟩) 256 cm] := h1
   have x4 := out_val hL (k := 4) (by kernel_rfl) rfl rfl
   clear ow
   clear hdep hL hap hnw h1
   have Bz0 := HZ.out.but hB (by simp; try omega)
   have Bz1 := Bz0
   obtain ⟨lt, c0, c1, c2, c3, f0, f1, f2, f3⟩ := Bz1
   refine wpOp_step rfl (fun K hK => ?_)
   go_simp
   exact hK _ _ ⟨undef, rfl, (fun _ => rfl), ⟨rfl, Bz0.set (.int .i64 8) (.slice (some ⟨gr, 0, none⟩) 8 cr) (.slice (some ⟨gc, 0, none⟩) 5 cc) (.slice (some ⟨gm, 0, none⟩) 256 cm)⟩, (But.refl _ _).set4 (u00.heap.size + 1) _ _ _ _ (.inl (by simp)), (fun h => by cases h)⟩
  ·exact absurd rfl hiz
  ·exact absurd ho (by simp)
 case fin =>
  intro act u hB hL hsf hap hnw
  have d2 := hsf 2 _ rfl (by decide)
  have d3 := hsf 3 _ rfl (by decide)
  have d1 := hsf 1 _ rfl (by decide)
  obtain ⟨ysl, ha, hy⟩ := hL.puts [54, 55, 56] (by kernel_rfl)
  have e2 : ysl 56 = _ := (hy 56).symm.trans d2
  obtain ⟨h3, Bz⟩ := d3
  obtain ⟨h1, ow⟩ := d1
  have e1 : ysl 55 = .agg #[.int .i64 8, .slice (some ⟨gr, 0, none⟩) 8 cr, .slice (some ⟨gc, 0, none⟩) 5 cc, .slice (some ⟨gm, 0, none⟩) 256 cm] := (hy 55).symm.trans h1
  clear hL hsf hy hap hnw d2 h1
  simp only [List.foldl, List.setIfInBounds_toArray, List.set_cons_succ, List.set_cons_zero, e2, e1] at ha
  subst ha
  clear e2 e1
  have ow1 : Own u gr gc gm (stopS s 1) := ow
  have Bz1 := Bz
  obtain ⟨_, z0, z1, z2, z3, _, _, _, _⟩ := Bz1
  have By := HY.out.but hB (by simp; try omega)
  have By1 := By
  obtain ⟨yl, y0, y1, y2, y3, y4, y5, y6, x0, x1, x2, x3, x4, x5, x6⟩ := By1
  have hB2 : But [gr, gc, gm] u00 u := HBt.out.trans2 hB (fun k hk => by simp at hk ⊢; omega)
  refine wpOp_step rfl (fun K hK => ?_)
  go_simp
  refine hK _ _ ?_
  refine wp_seq_gen (fun t => Own t gr gc gm (stopS s 1) ∧ Box4 t (u00.heap.size + 1) (.int .i64 8) (.slice (some ⟨gr, 0, none⟩) 8 cr) (.slice (some ⟨gc, 0, none⟩) 5 cc) (.slice (some ⟨gm, 0, none⟩) 256 cm) ∧ Box7 t (u00.heap.size + 2) ((⟨s.pc, m, 1, 0, 0, -1, 0⟩ : Ev)) ∧ But [gr, gc, gm] u00 t) ⟨?_, ?_, ?_, ?_⟩ ?_
  ·(repeat with_reducible first | refine Own.alloc ?_ _ | refine Own.drew ?_ | refine Own.drewN ?_ _ | refine Own.other ?_ _ _ _ (by omega) (by omega) (by omega))
   exact ow1
  ·(repeat with_reducible first | assumption | exact Box4.new _ _ _ _ _ _ _ (by first | rfl | simp | (simp; omega)) | refine Box4.alloc ?_ _ | refine Box4.drew ?_ | refine Box4.drewN ?_ _ | refine Box4.other ?_ _ _ _ (by omega))
  ·exact ((((((By.set0 _).set1 _).set2 _).set3 _).set4 _).set5 _).set6 _
  ·(repeat with_reducible first | exact But.refl _ _ | assumption | refine But.alloc ?_ _ | refine But.drew ?_ | refine But.drewN ?_ _ | refine But.set ?_ _ _ _ (by first | (left; simp; done) | (right; simp; done) | (right; omega) | (right; simp; omega)))
  clear z0 z1 z2 z3 y0 y1 y2 y3 y4 y5 y6 x0 x1 x2 x3 x4 x5 x6 By Bz ow1 hB2 hB yl
  rintro t ⟨ow2, bz, by', hB2⟩
  obtain ⟨_, z0, z1, z2, z3, _, _, _, _⟩ := bz
  obtain ⟨_, y0, y1, y2, y3, y4, y5, y6, _, _, _, _, _, _, _⟩ := by'
  go_wp2
  refine bodyPost_ret (v := .tuple #[.agg #[.int .i64 8, .slice (some ⟨gr, 0, none⟩) 8 cr, .slice (some ⟨gc, 0, none⟩) 5 cc, .slice (some ⟨gm, 0, none⟩) 256 cm], .agg #[.int .i64 ((⟨s.pc, m, 1, 0, 0, -1, 0⟩ : Ev)).pc, .int .i64 ((⟨s.pc, m, 1, 0, 0, -1, 0⟩ : Ev)).w, .int .i64 ((⟨s.pc, m, 1, 0, 0, -1, 0⟩ : Ev)).why, .int .i64 ((⟨s.pc, m, 1, 0, 0, -1, 0⟩ : Ev)).d, .int .i64 ((⟨s.pc, m, 1, 0, 0, -1, 0⟩ : Ev)).v, .int .i64 ((⟨s.pc, m, 1, 0, 0, -1, 0⟩ : Ev)).ad, .int .i64 ((⟨s.pc, m, 1, 0, 0, -1, 0⟩ : Ev)).dt]]) (by simp [results, Tryd.results47, go_sem, z0, z1, z2, z3, y0, y1, y2, y3, y4, y5, y6]) rfl ?_
  exact ⟨rfl, ow2, hB2⟩
set_option maxRecDepth 8000 in
set_option maxHeartbeats 4000000 in
theorem spec_Step_exeF (s : St) (gr gc gm cr cc cm : Nat) (u00 : World) (ho : Own u00 gr gc gm s) (hk : OkS s)  (hs : 0 ≤ see s.C s.M s.pc false) (hg : gd (wAt s) = true) :
  Calls Tryd.prog 47 #[.agg #[.int .i64 s.pc, .slice (some ⟨gr, 0, none⟩) 8 cr, .slice (some ⟨gc, 0, none⟩) 5 cc, .slice (some ⟨gm, 0, none⟩) 256 cm], .bool false] u00 (MP ((exeS s).fin s (ev1 s)).1 ((exeS s).fin s (ev1 s)).2 gr gc gm cr cc cm u00) := by
 have lr := ho.R.lt
 have lc := ho.C.lt
 have lm := ho.M.lt
 have HO0 := Lib.hid ho
 have HK := Lib.hid hk
 have HCl := Lib.hid hk.Cl
 have HC3 := Lib.hid (And.intro (ok_get hk.C 3).1 hk.c3)
 have c3b := ok_get hk.C 3
 have hc4 := hk.c3
 have pb := okB_true hk.pc
 obtain ⟨t3, h3⟩ : ∃ t, t = s.C.getD 3 0 := ⟨_, rfl⟩
 have H3 := Lib.hid h3.symm
 rw [← h3] at c3b hc4
 have k3 := ho.C.cel 3 (by rw [HCl.out]; decide)
 rw [H3.out] at k3
 have l1 : gc < u00.heap.size + 1 := by omega
 have l2 : gc < u00.heap.size + 1 + 1 := by omega
 have l3 : gc < u00.heap.size + 1 + 1 + 1 := by omega
 have l4 : gc < u00.heap.size + 1 + 1 + 1 + 1 := by omega
 have m2 : gc < u00.heap.size + 2 := by omega
 have m3 : gc < u00.heap.size + 3 := by omega
 have m4 : gc < u00.heap.size + 4 := by omega
 have EP := Lib.hid (fun (v : World) (ov : Own v gr gc gm s) => spec_l4Page s.C s.M (some ⟨gc, 0, none⟩) (some ⟨gm, 0, none⟩) cc cm s.pc false v ov.C.src ov.M.src hk.Cl hk.Ml hk.C hk.M pb.1 pb.2)
 rw [hk.Cl, hk.Ml] at EP
 have HQ := see_bd s.C s.M s.pc false pb.1
 have HMl := Lib.hid hk.Ml
 obtain ⟨m, hm⟩ : ∃ m, m = wAt s := ⟨_, rfl⟩
 have HM := Lib.hid (show s.M.getD (see s.C s.M s.pc false).toNat 0 = m from hm.symm)
 have HD := Lib.hid (fun (v : World) => spec_CodRead m v)
 have hi := (read_ok hg).1
 have HDo := Lib.hid (fun (v : World) (ov : Own v gr gc gm s) => spec_l4Do s (ev1 s) gr gc gm cr cc cm (wAt s / 4096) (rdv (wAt s) 0) (rdv (wAt s) 1) (rdv (wAt s) 2) (rdv (wAt s) 3) (rdv (wAt s) 4) v ov hk hi rfl rfl rfl rfl)
 have HEx := Lib.hid (show exeS s = effS s (ev1 s) (wAt s / 4096) (rdv (wAt s) 0) (rdv (wAt s) 1) (rdv (wAt s) 2) (rdv (wAt s) 3) (rdv (wAt s) 4) from rfl)
 have HE1 := Lib.hid (show ev1 s = ⟨s.pc, wAt s, 0, 0, 0, -1, 0⟩ from rfl)
 rw [← HEx.out, HE1.out] at HDo
 rw [HE1.out]
 generalize exeS s = oo at *
 rw [← hm] at HDo hg ⊢
 rw [rV_t hg] at HD
 generalize m / 4096 = ik at *
 generalize rdv m 0 = i0 at *
 generalize rdv m 1 = i1 at *
 generalize rdv m 2 = i2 at *
 generalize rdv m 3 = i3 at *
 generalize rdv m 4 = i4 at *
 clear hi hg HEx HE1
 clear hm
 generalize see s.C s.M s.pc false = q at *
 clear ho hk h3
 go_enter Tryd.func47, Tryd.ntmps47
 go_wp2_with fail
 refine calls_gen (fun v => Lt v u00.heap.size s gr gc gm cr cc cm (⟨s.pc, -1, 0, 0, 0, -1, 0⟩ : Ev) ∧ But [gr, gc, gm] u00 v) ⟨⟨?_, ?_, ?_, ?_, ?_⟩, ?_⟩ ?_
 ·(repeat with_reducible first | assumption | exact Box4.new _ _ _ _ _ _ _ (by first | rfl | simp | (simp; omega)) | refine Box4.alloc ?_ _ | refine Box4.drew ?_ | refine Box4.drewN ?_ _ | refine Box4.other ?_ _ _ _ (by omega))
 ·first | (exact Box7.newv _ _ _ _ _ _ _ _ _ _ (by simp)) | (repeat with_reducible first | assumption | exact Box7.new _ _ _ _ (by first | rfl | simp | (simp; omega)) | exact Box7.newv _ _ _ _ _ _ _ _ _ _ (by first | rfl | simp | (simp; omega)) | refine Box7.alloc ?_ _ | refine Box7.drew ?_ | refine Box7.drewN ?_ _ | refine Box7.other ?_ _ _ _ (by omega))
 ·(repeat with_reducible first | assumption | exact Box4.new _ _ _ _ _ _ _ (by first | rfl | simp | (simp; omega)) | refine Box4.alloc ?_ _ | refine Box4.drew ?_ | refine Box4.drewN ?_ _ | refine Box4.other ?_ _ _ _ (by omega))
 ·(repeat with_reducible first | assumption | exact Box7.new _ _ _ _ (by first | rfl | simp | (simp; omega)) | exact Box7.newv _ _ _ _ _ _ _ _ _ _ (by first | rfl | simp | (simp; omega)) | refine Box7.alloc ?_ _ | refine Box7.drew ?_ | refine Box7.drewN ?_ _ | refine Box7.other ?_ _ _ _ (by omega))
 ·(repeat with_reducible first | refine Own.alloc ?_ _ | refine Own.drew ?_ | refine Own.drewN ?_ _ | refine Own.other ?_ _ _ _ (by omega) (by omega) (by omega))
  exact HO0.out
 ·(repeat with_reducible first | exact But.refl _ _ | assumption | refine But.alloc ?_ _ | refine But.drew ?_ | refine But.drewN ?_ _ | refine But.set ?_ _ _ _ (by first | (left; simp; done) | (right; simp; done) | (right; omega) | (right; simp; omega)))
 simp only [Nat.add_assoc, Nat.reduceAdd]
 clear k3 l1 l2 l3 l4 m2 m3 m4
 rintro v1 ⟨lo, hB⟩
 have HLo := Lib.hid lo
 have HBt := Lib.hid hB
 have hsz := hB.size
 obtain ⟨⟨g1, s0, s1, s2, s3, S0, S1, S2, S3⟩, ⟨g5, e0, e1, e2, e3, e4, e5, e6, E0, E1, E2, E3, E4, E5, E6⟩, g6, g7, g8⟩ := lo
 clear hB g1 g5 g6 g7 g8
 refine (EP.out v1 HLo.out.O).mono ?_
 rintro r w' ⟨rfl, rfl⟩
 have cq := HLo.out.O.M.cel q.toNat (by rw [HMl.out]; omega)
 rw [HM.out] at cq
 go_wp2_with fail
 refine calls_gen (fun v => Lt v u00.heap.size s gr gc gm cr cc cm (⟨s.pc, m, 0, 0, 0, -1, 0⟩ : Ev) ∧ But [gr, gc, gm] u00 v) ⟨⟨?_, ?_, ?_, ?_, ?_⟩, ?_⟩ ?_
 ·have q1 := HLo.out.S
  (repeat with_reducible first | assumption | exact Box4.new _ _ _ _ _ _ _ (by first | rfl | simp | (simp; omega)) | refine Box4.alloc ?_ _ | refine Box4.drew ?_ | refine Box4.drewN ?_ _ | refine Box4.other ?_ _ _ _ (by omega))
 ·have q1 := HLo.out.E
  exact q1.set1 m
 ·have q1 := HLo.out.Z
  (repeat with_reducible first | assumption | exact Box4.new _ _ _ _ _ _ _ (by first | rfl | simp | (simp; omega)) | refine Box4.alloc ?_ _ | refine Box4.drew ?_ | refine Box4.drewN ?_ _ | refine Box4.other ?_ _ _ _ (by omega))
 ·have q1 := HLo.out.Y
  (repeat with_reducible first | assumption | exact Box7.new _ _ _ _ (by first | rfl | simp | (simp; omega)) | exact Box7.newv _ _ _ _ _ _ _ _ _ _ (by first | rfl | simp | (simp; omega)) | refine Box7.alloc ?_ _ | refine Box7.drew ?_ | refine Box7.drewN ?_ _ | refine Box7.other ?_ _ _ _ (by omega))
 ·have q1 := HLo.out.O
  (repeat with_reducible first | refine Own.alloc ?_ _ | refine Own.drew ?_ | refine Own.drewN ?_ _ | refine Own.other ?_ _ _ _ (by omega) (by omega) (by omega))
  exact q1
 ·have hB := HBt.out
  (repeat with_reducible first | exact But.refl _ _ | assumption | refine But.alloc ?_ _ | refine But.drew ?_ | refine But.drewN ?_ _ | refine But.set ?_ _ _ _ (by first | (left; simp; done) | (right; simp; done) | (right; omega) | (right; simp; omega)))
 clear s0 s1 s2 s3 S0 S1 S2 S3 e0 e1 e2 e3 e4 e5 e6 E0 E1 E2 E3 E4 E5 E6 hsz
 clear HLo HBt cq
 clear v1
 rintro v2 ⟨lo, hB⟩
 refine (HD.out v2).mono ?_
 rintro r v3 ⟨rfl, f⟩
 refine wp_seq_gen2 (fun v => Lt v u00.heap.size s gr gc gm cr cc cm (⟨s.pc, m, 0, 0, 0, -1, 0⟩ : Ev) ∧ But [gr, gc, gm] u00 v ∧ u00.heap.size + 4 ≤ v.heap.size) ⟨lo.fr f, hB.trans (But.of f), by have h1 := lo.E.lt; have h2 := f.size; omega⟩ ?_
 clear lo hB f
 clear v2 v3
 rintro v4 ⟨lo, hB, hz4⟩
 have HLo := Lib.hid lo
 have HBt := Lib.hid hB
 obtain ⟨⟨g1, s0, s1, s2, s3, S0, S1, S2, S3⟩, ⟨g5, e0, e1, e2, e3, e4, e5, e6, E0, E1, E2, E3, E4, E5, E6⟩, g6, g7, g8⟩ := lo
 clear hB g1 g6 g7 g8
 have n1 : ¬ v4.heap.size = u00.heap.size := by omega
 have n2 : ¬ u00.heap.size = v4.heap.size := by omega
 have n3 : ¬ v4.heap.size = u00.heap.size + 3 := by omega
 have n4 : ¬ u00.heap.size + 3 = v4.heap.size := by omega
 have n5 : u00.heap.size < v4.heap.size := by omega
 go_wp2_with fail
 refine calls_gen (fun v => Lt v u00.heap.size s gr gc gm cr cc cm (⟨s.pc, m, 0, 0, 0, -1, 0⟩ : Ev) ∧ But [gr, gc, gm] u00 v) ⟨⟨?_, ?_, ?_, ?_, ?_⟩, ?_⟩ ?_
 ·have q1 := HLo.out.S
  (repeat with_reducible first | assumption | exact Box4.new _ _ _ _ _ _ _ (by first | rfl | simp | (simp; omega)) | refine Box4.alloc ?_ _ | refine Box4.drew ?_ | refine Box4.drewN ?_ _ | refine Box4.other ?_ _ _ _ (by omega))
 ·have q1 := HLo.out.E
  (repeat with_reducible first | assumption | exact Box7.new _ _ _ _ (by first | rfl | simp | (simp; omega)) | exact Box7.newv _ _ _ _ _ _ _ _ _ _ (by first | rfl | simp | (simp; omega)) | refine Box7.alloc ?_ _ | refine Box7.drew ?_ | refine Box7.drewN ?_ _ | refine Box7.other ?_ _ _ _ (by omega))
 ·have q1 := HLo.out.Z
  (repeat with_reducible first | assumption | exact Box4.new _ _ _ _ _ _ _ (by first | rfl | simp | (simp; omega)) | refine Box4.alloc ?_ _ | refine Box4.drew ?_ | refine Box4.drewN ?_ _ | refine Box4.other ?_ _ _ _ (by omega))
 ·have q1 := HLo.out.Y
  (repeat with_reducible first | assumption | exact Box7.new _ _ _ _ (by first | rfl | simp | (simp; omega)) | exact Box7.newv _ _ _ _ _ _ _ _ _ _ (by first | rfl | simp | (simp; omega)) | refine Box7.alloc ?_ _ | refine Box7.drew ?_ | refine Box7.drewN ?_ _ | refine Box7.other ?_ _ _ _ (by omega))
 ·have q1 := HLo.out.O
  (repeat with_reducible first | refine Own.alloc ?_ _ | refine Own.drew ?_ | refine Own.drewN ?_ _ | refine Own.other ?_ _ _ _ (by omega) (by omega) (by omega))
  exact q1
 ·have hB := HBt.out
  (repeat with_reducible first | exact But.refl _ _ | assumption | refine But.alloc ?_ _ | refine But.drew ?_ | refine But.drewN ?_ _ | refine But.set ?_ _ _ _ (by first | (left; simp; done) | (right; simp; done) | (right; omega) | (right; simp; omega)))
 clear s0 s1 s2 s3 S0 S1 S2 S3 e0 e1 e2 e3 e4 e5 e6 E0 E1 E2 E3 E4 E5 E6 g5 n1 n2 n3 n4 n5
 clear HLo HBt hz4
 rintro v5 ⟨lo, hB⟩
 refine (HDo.out v5 lo.O).mono ?_
 rintro r v6 ⟨e', ⟨rfl, ho', hB'⟩, hfx⟩
 have hsz := hB.size
 generalize (Out.fin s (⟨s.pc, m, 0, 0, 0, -1, 0⟩ : Ev) oo).1 = s' at *
 generalize (Out.fin s (⟨s.pc, m, 0, 0, 0, -1, 0⟩ : Ev) oo).2 = ee at *
 have HFF := Lib.hid hfx
 clear hfx
 refine wp_seq_gen2 (fun v => Box4 v u00.heap.size (.int .i64 s.pc) (.slice (some ⟨gr, 0, none⟩) 8 cr) (.slice (some ⟨gc, 0, none⟩) 5 cc) (.slice (some ⟨gm, 0, none⟩) 256 cm) ∧ Box7 v (u00.heap.size + 3) (⟨s.pc, m, 0, 0, 0, -1, 0⟩ : Ev) ∧ Box4 v (u00.heap.size + 1) (.int .i64 0) (.slice none 0 0) (.slice none 0 0) (.slice none 0 0) ∧ Box7 v (u00.heap.size + 2) ev00 ∧ Own v gr gc gm s' ∧ But [gr, gc, gm] u00 v) ⟨lo.S.but hB' (by simp; omega), lo.E.but hB' (by simp; omega), lo.Z.but hB' (by simp; omega), lo.Y.but hB' (by simp; omega), ho', hB.trans hB'⟩ ?_
 clear lo hB ho' hB' hsz
 clear v5 v6
 rintro v7 ⟨qs, qe, qz, qy, qo, qb⟩
 have HQS := Lib.hid qs
 have HQE := Lib.hid qe
 have HQZ := Lib.hid qz
 have HQY := Lib.hid qy
 have HQO := Lib.hid qo
 have HQB := Lib.hid qb
 have hsz := qb.size
 obtain ⟨g1, s0, s1, s2, s3, S0, S1, S2, S3⟩ := qs
 obtain ⟨g5, e0, e1, e2, e3, e4, e5, e6, E0, E1, E2, E3, E4, E5, E6⟩ := qe
 clear qz qy qo qb g1
 cases hd0 : (e'.d == 0)
 ·have HEE := Lib.hid (show ee = e' by rw [← HFF.out]; rw [fixE, if_neg (by simpa using hd0)])
  go_wp2_with fail
  clear hd0
  refine wp_gen (fun v => Lt v u00.heap.size s' gr gc gm cr cc cm e' ∧ But [gr, gc, gm] u00 v) ⟨⟨?_, ?_, ?_, ?_, ?_⟩, ?_⟩ ?_
  ·have q1 := HQS.out
   (repeat (first | (with_reducible refine Box4.other ?_ _ _ _ (by omega))))
   exact q1.set _ _ _ _
  ·have q1 := (HQE.out.other u00.heap.size 0 (.int .i64 s'.pc) (by omega)).other u00.heap.size 1 (.slice (some ⟨gr, 0, none⟩) 8 cr) (by omega) |>.other u00.heap.size 2 (.slice (some ⟨gc, 0, none⟩) 5 cc) (by omega) |>.other u00.heap.size 3 (.slice (some ⟨gm, 0, none⟩) 256 cm) (by omega)
   exact ((((((q1.set0 _).set1 _).set2 _).set3 _).set4 _).set5 _).set6 _
  ·have q1 := HQZ.out
   (repeat with_reducible first | assumption | exact Box4.new _ _ _ _ _ _ _ (by first | rfl | simp | (simp; omega)) | refine Box4.alloc ?_ _ | refine Box4.drew ?_ | refine Box4.drewN ?_ _ | refine Box4.other ?_ _ _ _ (by omega))
  ·have q1 := HQY.out
   (repeat with_reducible first | assumption | exact Box7.new _ _ _ _ (by first | rfl | simp | (simp; omega)) | exact Box7.newv _ _ _ _ _ _ _ _ _ _ (by first | rfl | simp | (simp; omega)) | refine Box7.alloc ?_ _ | refine Box7.drew ?_ | refine Box7.drewN ?_ _ | refine Box7.other ?_ _ _ _ (by omega))
  ·have q1 := HQO.out
   (repeat with_reducible first | refine Own.alloc ?_ _ | refine Own.drew ?_ | refine Own.drewN ?_ _ | refine Own.other ?_ _ _ _ (by omega) (by omega) (by omega))
   exact q1
  ·have hB := HQB.out
   (repeat with_reducible first | exact But.refl _ _ | assumption | refine But.alloc ?_ _ | refine But.drew ?_ | refine But.drewN ?_ _ | refine But.set ?_ _ _ _ (by first | (left; simp; done) | (right; simp; done) | (right; omega) | (right; simp; omega)))
  clear s0 s1 s2 s3 S0 S1 S2 S3 e0 e1 e2 e3 e4 e5 e6 E0 E1 E2 E3 E4 E5 E6 g5 HQS HQE HQZ HQY HQO HQB hsz
  clear v7
  rintro v0 ⟨lo, hB⟩
  have HLo := Lib.hid lo
  have HBt := Lib.hid hB
  have hsz := hB.size
  obtain ⟨⟨g1, s0, s1, s2, s3, S0, S1, S2, S3⟩, ⟨g5, e0, e1, e2, e3, e4, e5, e6, E0, E1, E2, E3, E4, E5, E6⟩, g6, g7, g8⟩ := lo
  clear hB g1 g5 g6 g7 g8
  have HS := Lib.hid HLo.out.S
  have HE := Lib.hid HLo.out.E
  have HZ := Lib.hid HLo.out.Z
  have HY := Lib.hid HLo.out.Y
  have HO := Lib.hid HLo.out.O
  clear s0 s1 s2 s3 S0 S1 S2 S3 e0 e1 e2 e3 e4 e5 e6 E0 E1 E2 E3 E4 E5 E6 hsz
  clear HLo
  refine wp_region_rows 70 3 [u00.heap.size + 1] (fun i => if i = 2 then [u00.heap.size + 1] else []) lb1_in (fun i => false) (fun i v u => match i with | 0 => v = .agg #[.int .i64 s'.pc, .slice (some ⟨gr, 0, none⟩) 8 cr, .slice (some ⟨gc, 0, none⟩) 5 cc, .slice (some ⟨gm, 0, none⟩) 256 cm] | 1 => v = .agg #[.int .i64 (e').pc, .int .i64 (e').w, .int .i64 (e').why, .int .i64 (e').d, .int .i64 (e').v, .int .i64 (e').ad, .int .i64 (e').dt] | 2 => v = undef ∧ Box4 u (u00.heap.size + 1) (.int .i64 s'.pc) (.slice (some ⟨gr, 0, none⟩) 8 cr) (.slice (some ⟨gc, 0, none⟩) 5 cc) (.slice (some ⟨gm, 0, none⟩) 256 cm) | _ => True) ?mono (by kernel_rfl) (by kernel_rfl) rfl (by kernel_rfl) (by kernel_rfl) (by decide) ?step ?fin
  case mono =>
   intro i j v u u' hi hij hdj hsz h hB
   rcases j with _ | _ | _ | j
   ·exact h
   ·exact h
   ·refine ⟨h.1, ?_⟩
    have hB' : But [] u u' := hB.mono (fun k hk _ => lb1_out i hij k hk)
    exact h.2.but hB' (by simp)
   ·trivial
  case step =>
   intro i o ho hiz
   rcases i with _ | _ | _ | _ | i
   ·clear hiz
    cases ho
    intro act u hB hL hdep hap hnw
    replace hB := hB [u00.heap.size + 1] (fun j _ k hk => lb1_in j k hk)
    have x2 := out_val hL (k := 2) (by kernel_rfl) rfl rfl
    clear hdep hL hap hnw
    have Bx := HS.out.but hB (by simp; try omega)
    obtain ⟨lt, c0, c1, c2, c3, _, _, _, _⟩ := Bx
    refine wpOp_step rfl (fun K hK => ?_)
    go_simp
    exact hK _ _ ⟨_, rfl, (fun h => by cases h), rfl, But.refl _ _, (fun h => by cases h)⟩
   ·clear hiz
    cases ho
    intro act u hB hL hdep hap hnw
    replace hB := hB [u00.heap.size + 1] (fun j _ k hk => lb1_in j k hk)
    have x6 := out_val hL (k := 6) (by kernel_rfl) rfl rfl
    clear hdep hL hap hnw
    have Bx := HE.out.but hB (by simp; try omega)
    obtain ⟨lt, c0, c1, c2, c3, c4, c5, c6, _, _, _, _, _, _, _⟩ := Bx
    refine wpOp_step rfl (fun K hK => ?_)
    go_simp
    exact hK _ _ ⟨_, rfl, (fun h => by cases h), rfl, But.refl _ _, (fun h => by cases h)⟩
   ·clear hiz
    cases ho
    intro act u hB hL hdep hap hnw
    replace hB := hB [] lb1_out
    have e0 : act.tmps.getD 68 undef = _ := hdep { on := 0, ground := .data } (by simp) rfl _ rfl
    have x4 := out_val hL (k := 4) (by kernel_rfl) rfl rfl
    clear hdep hL hap hnw
    have Bz0 := HZ.out.but hB (by simp; try omega)
    have Bz1 := Bz0
    obtain ⟨lt, c0, c1, c2, c3, f0, f1, f2, f3⟩ := Bz1
    refine wpOp_step rfl (fun K hK => ?_)
    go_simp
    exact hK _ _ ⟨undef, rfl, (fun _ => rfl), ⟨rfl, Bz0.set (.int .i64 s'.pc) (.slice (some ⟨gr, 0, none⟩) 8 cr) (.slice (some ⟨gc, 0, none⟩) 5 cc) (.slice (some ⟨gm, 0, none⟩) 256 cm)⟩, (But.refl _ _).set4 (u00.heap.size + 1) _ _ _ _ (.inl (by simp)), (fun h => by cases h)⟩
   ·exact absurd rfl hiz
   ·exact absurd ho (by simp)
  case fin =>
   intro act u hB hL hsf hap hnw
   have d1 := hsf 1 _ rfl (by decide)
   have d2 := hsf 2 _ rfl (by decide)
   obtain ⟨ysl, ha, hy⟩ := hL.puts [68, 69] (by kernel_rfl)
   have e1 : ysl 69 = _ := (hy 69).symm.trans d1
   obtain ⟨h2, Bz⟩ := d2
   clear hL hsf hy hap hnw d1
   simp only [List.foldl, List.setIfInBounds_toArray, List.set_cons_succ, List.set_cons_zero, e1] at ha
   subst ha
   clear e1
   have ow1 : Own u gr gc gm s' := HO.out.but hB (by simp; omega) (by simp; omega) (by simp; omega)
   have Bz1 := Bz
   obtain ⟨_, z0, z1, z2, z3, _, _, _, _⟩ := Bz1
   have By := HY.out.but hB (by simp; try omega)
   have By1 := By
   obtain ⟨yl, y0, y1, y2, y3, y4, y5, y6, x0, x1, x2, x3, x4, x5, x6⟩ := By1
   have hB2 : But [gr, gc, gm] u00 u := HBt.out.trans2 hB (fun k hk => by simp at hk ⊢; omega)
   refine wpOp_step rfl (fun K hK => ?_)
   go_simp
   refine hK _ _ ?_
   refine wp_seq_gen (fun t => Own t gr gc gm s' ∧ Box4 t (u00.heap.size + 1) (.int .i64 s'.pc) (.slice (some ⟨gr, 0, none⟩) 8 cr) (.slice (some ⟨gc, 0, none⟩) 5 cc) (.slice (some ⟨gm, 0, none⟩) 256 cm) ∧ Box7 t (u00.heap.size + 2) (e') ∧ But [gr, gc, gm] u00 t) ⟨?_, ?_, ?_, ?_⟩ ?_
   ·(repeat with_reducible first | refine Own.alloc ?_ _ | refine Own.drew ?_ | refine Own.drewN ?_ _ | refine Own.other ?_ _ _ _ (by omega) (by omega) (by omega))
    exact ow1
   ·(repeat with_reducible first | assumption | exact Box4.new _ _ _ _ _ _ _ (by first | rfl | simp | (simp; omega)) | refine Box4.alloc ?_ _ | refine Box4.drew ?_ | refine Box4.drewN ?_ _ | refine Box4.other ?_ _ _ _ (by omega))
   ·exact ((((((By.set0 _).set1 _).set2 _).set3 _).set4 _).set5 _).set6 _
   ·(repeat with_reducible first | exact But.refl _ _ | assumption | refine But.alloc ?_ _ | refine But.drew ?_ | refine But.drewN ?_ _ | refine But.set ?_ _ _ _ (by first | (left; simp; done) | (right; simp; done) | (right; omega) | (right; simp; omega)))
   clear z0 z1 z2 z3 y0 y1 y2 y3 y4 y5 y6 x0 x1 x2 x3 x4 x5 x6 By Bz ow1 hB2 hB yl
   rintro t ⟨ow2, bz, by', hB2⟩
   obtain ⟨_, z0, z1, z2, z3, _, _, _, _⟩ := bz
   obtain ⟨_, y0, y1, y2, y3, y4, y5, y6, _, _, _, _, _, _, _⟩ := by'
   go_wp2
   refine bodyPost_ret (v := .tuple #[.agg #[.int .i64 s'.pc, .slice (some ⟨gr, 0, none⟩) 8 cr, .slice (some ⟨gc, 0, none⟩) 5 cc, .slice (some ⟨gm, 0, none⟩) 256 cm], .agg #[.int .i64 (e').pc, .int .i64 (e').w, .int .i64 (e').why, .int .i64 (e').d, .int .i64 (e').v, .int .i64 (e').ad, .int .i64 (e').dt]]) (by simp [results, Tryd.results47, go_sem, z0, z1, z2, z3, y0, y1, y2, y3, y4, y5, y6]) rfl ?_
   exact ⟨by rw [HEE.out], ow2, hB2⟩
 ·have HEE := Lib.hid (show ee = { e' with v := 0 } by rw [← HFF.out]; rw [fixE, if_pos (by simpa using hd0)])
  go_wp2_with fail
  clear hd0
  refine wp_gen (fun v => Lt v u00.heap.size s' gr gc gm cr cc cm { e' with v := 0 } ∧ But [gr, gc, gm] u00 v) ⟨⟨?_, ?_, ?_, ?_, ?_⟩, ?_⟩ ?_
  ·have q1 := HQS.out
   (repeat (first | (with_reducible refine Box4.other ?_ _ _ _ (by omega))))
   exact q1.set _ _ _ _
  ·have q1 := (HQE.out.other u00.heap.size 0 (.int .i64 s'.pc) (by omega)).other u00.heap.size 1 (.slice (some ⟨gr, 0, none⟩) 8 cr) (by omega) |>.other u00.heap.size 2 (.slice (some ⟨gc, 0, none⟩) 5 cc) (by omega) |>.other u00.heap.size 3 (.slice (some ⟨gm, 0, none⟩) 256 cm) (by omega)
   exact (((((((q1.set0 _).set1 _).set2 _).set3 _).set4 _).set5 _).set6 _).set4 0
  ·have q1 := HQZ.out
   (repeat with_reducible first | assumption | exact Box4.new _ _ _ _ _ _ _ (by first | rfl | simp | (simp; omega)) | refine Box4.alloc ?_ _ | refine Box4.drew ?_ | refine Box4.drewN ?_ _ | refine Box4.other ?_ _ _ _ (by omega))
  ·have q1 := HQY.out
   (repeat with_reducible first | assumption | exact Box7.new _ _ _ _ (by first | rfl | simp | (simp; omega)) | exact Box7.newv _ _ _ _ _ _ _ _ _ _ (by first | rfl | simp | (simp; omega)) | refine Box7.alloc ?_ _ | refine Box7.drew ?_ | refine Box7.drewN ?_ _ | refine Box7.other ?_ _ _ _ (by omega))
  ·have q1 := HQO.out
   (repeat with_reducible first | refine Own.alloc ?_ _ | refine Own.drew ?_ | refine Own.drewN ?_ _ | refine Own.other ?_ _ _ _ (by omega) (by omega) (by omega))
   exact q1
  ·have hB := HQB.out
   (repeat with_reducible first | exact But.refl _ _ | assumption | refine But.alloc ?_ _ | refine But.drew ?_ | refine But.drewN ?_ _ | refine But.set ?_ _ _ _ (by first | (left; simp; done) | (right; simp; done) | (right; omega) | (right; simp; omega)))
  clear s0 s1 s2 s3 S0 S1 S2 S3 e0 e1 e2 e3 e4 e5 e6 E0 E1 E2 E3 E4 E5 E6 g5 HQS HQE HQZ HQY HQO HQB hsz
  clear v7
  rintro v0 ⟨lo, hB⟩
  have HLo := Lib.hid lo
  have HBt := Lib.hid hB
  have hsz := hB.size
  obtain ⟨⟨g1, s0, s1, s2, s3, S0, S1, S2, S3⟩, ⟨g5, e0, e1, e2, e3, e4, e5, e6, E0, E1, E2, E3, E4, E5, E6⟩, g6, g7, g8⟩ := lo
  clear hB g1 g5 g6 g7 g8
  have HS := Lib.hid HLo.out.S
  have HE := Lib.hid HLo.out.E
  have HZ := Lib.hid HLo.out.Z
  have HY := Lib.hid HLo.out.Y
  have HO := Lib.hid HLo.out.O
  clear s0 s1 s2 s3 S0 S1 S2 S3 e0 e1 e2 e3 e4 e5 e6 E0 E1 E2 E3 E4 E5 E6 hsz
  clear HLo
  refine wp_region_rows 70 3 [u00.heap.size + 1] (fun i => if i = 2 then [u00.heap.size + 1] else []) lb1_in (fun i => false) (fun i v u => match i with | 0 => v = .agg #[.int .i64 s'.pc, .slice (some ⟨gr, 0, none⟩) 8 cr, .slice (some ⟨gc, 0, none⟩) 5 cc, .slice (some ⟨gm, 0, none⟩) 256 cm] | 1 => v = .agg #[.int .i64 ({ e' with v := 0 }).pc, .int .i64 ({ e' with v := 0 }).w, .int .i64 ({ e' with v := 0 }).why, .int .i64 ({ e' with v := 0 }).d, .int .i64 ({ e' with v := 0 }).v, .int .i64 ({ e' with v := 0 }).ad, .int .i64 ({ e' with v := 0 }).dt] | 2 => v = undef ∧ Box4 u (u00.heap.size + 1) (.int .i64 s'.pc) (.slice (some ⟨gr, 0, none⟩) 8 cr) (.slice (some ⟨gc, 0, none⟩) 5 cc) (.slice (some ⟨gm, 0, none⟩) 256 cm) | _ => True) ?mono (by kernel_rfl) (by kernel_rfl) rfl (by kernel_rfl) (by kernel_rfl) (by decide) ?step ?fin
  case mono =>
   intro i j v u u' hi hij hdj hsz h hB
   rcases j with _ | _ | _ | j
   ·exact h
   ·exact h
   ·refine ⟨h.1, ?_⟩
    have hB' : But [] u u' := hB.mono (fun k hk _ => lb1_out i hij k hk)
    exact h.2.but hB' (by simp)
   ·trivial
  case step =>
   intro i o ho hiz
   rcases i with _ | _ | _ | _ | i
   ·clear hiz
    cases ho
    intro act u hB hL hdep hap hnw
    replace hB := hB [u00.heap.size + 1] (fun j _ k hk => lb1_in j k hk)
    have x2 := out_val hL (k := 2) (by kernel_rfl) rfl rfl
    clear hdep hL hap hnw
    have Bx := HS.out.but hB (by simp; try omega)
    obtain ⟨lt, c0, c1, c2, c3, _, _, _, _⟩ := Bx
    refine wpOp_step rfl (fun K hK => ?_)
    go_simp
    exact hK _ _ ⟨_, rfl, (fun h => by cases h), rfl, But.refl _ _, (fun h => by cases h)⟩
   ·clear hiz
    cases ho
    intro act u hB hL hdep hap hnw
    replace hB := hB [u00.heap.size + 1] (fun j _ k hk => lb1_in j k hk)
    have x6 := out_val hL (k := 6) (by kernel_rfl) rfl rfl
    clear hdep hL hap hnw
    have Bx := HE.out.but hB (by simp; try omega)
    obtain ⟨lt, c0, c1, c2, c3, c4, c5, c6, _, _, _, _, _, _, _⟩ := Bx
    refine wpOp_step rfl (fun K hK => ?_)
    go_simp
    exact hK _ _ ⟨_, rfl, (fun h => by cases h), rfl, But.refl _ _, (fun h => by cases h)⟩
   ·clear hiz
    cases ho
    intro act u hB hL hdep hap hnw
    replace hB := hB [] lb1_out
    have e0 : act.tmps.getD 68 undef = _ := hdep { on := 0, ground := .data } (by simp) rfl _ rfl
    have x4 := out_val hL (k := 4) (by kernel_rfl) rfl rfl
    clear hdep hL hap hnw
    have Bz0 := HZ.out.but hB (by simp; try omega)
    have Bz1 := Bz0
    obtain ⟨lt, c0, c1, c2, c3, f0, f1, f2, f3⟩ := Bz1
    refine wpOp_step rfl (fun K hK => ?_)
    go_simp
    exact hK _ _ ⟨undef, rfl, (fun _ => rfl), ⟨rfl, Bz0.set (.int .i64 s'.pc) (.slice (some ⟨gr, 0, none⟩) 8 cr) (.slice (some ⟨gc, 0, none⟩) 5 cc) (.slice (some ⟨gm, 0, none⟩) 256 cm)⟩, (But.refl _ _).set4 (u00.heap.size + 1) _ _ _ _ (.inl (by simp)), (fun h => by cases h)⟩
   ·exact absurd rfl hiz
   ·exact absurd ho (by simp)
  case fin =>
   intro act u hB hL hsf hap hnw
   have d1 := hsf 1 _ rfl (by decide)
   have d2 := hsf 2 _ rfl (by decide)
   obtain ⟨ysl, ha, hy⟩ := hL.puts [68, 69] (by kernel_rfl)
   have e1 : ysl 69 = _ := (hy 69).symm.trans d1
   obtain ⟨h2, Bz⟩ := d2
   clear hL hsf hy hap hnw d1
   simp only [List.foldl, List.setIfInBounds_toArray, List.set_cons_succ, List.set_cons_zero, e1] at ha
   subst ha
   clear e1
   have ow1 : Own u gr gc gm s' := HO.out.but hB (by simp; omega) (by simp; omega) (by simp; omega)
   have Bz1 := Bz
   obtain ⟨_, z0, z1, z2, z3, _, _, _, _⟩ := Bz1
   have By := HY.out.but hB (by simp; try omega)
   have By1 := By
   obtain ⟨yl, y0, y1, y2, y3, y4, y5, y6, x0, x1, x2, x3, x4, x5, x6⟩ := By1
   have hB2 : But [gr, gc, gm] u00 u := HBt.out.trans2 hB (fun k hk => by simp at hk ⊢; omega)
   refine wpOp_step rfl (fun K hK => ?_)
   go_simp
   refine hK _ _ ?_
   refine wp_seq_gen (fun t => Own t gr gc gm s' ∧ Box4 t (u00.heap.size + 1) (.int .i64 s'.pc) (.slice (some ⟨gr, 0, none⟩) 8 cr) (.slice (some ⟨gc, 0, none⟩) 5 cc) (.slice (some ⟨gm, 0, none⟩) 256 cm) ∧ Box7 t (u00.heap.size + 2) ({ e' with v := 0 }) ∧ But [gr, gc, gm] u00 t) ⟨?_, ?_, ?_, ?_⟩ ?_
   ·(repeat with_reducible first | refine Own.alloc ?_ _ | refine Own.drew ?_ | refine Own.drewN ?_ _ | refine Own.other ?_ _ _ _ (by omega) (by omega) (by omega))
    exact ow1
   ·(repeat with_reducible first | assumption | exact Box4.new _ _ _ _ _ _ _ (by first | rfl | simp | (simp; omega)) | refine Box4.alloc ?_ _ | refine Box4.drew ?_ | refine Box4.drewN ?_ _ | refine Box4.other ?_ _ _ _ (by omega))
   ·exact ((((((By.set0 _).set1 _).set2 _).set3 _).set4 _).set5 _).set6 _
   ·(repeat with_reducible first | exact But.refl _ _ | assumption | refine But.alloc ?_ _ | refine But.drew ?_ | refine But.drewN ?_ _ | refine But.set ?_ _ _ _ (by first | (left; simp; done) | (right; simp; done) | (right; omega) | (right; simp; omega)))
   clear z0 z1 z2 z3 y0 y1 y2 y3 y4 y5 y6 x0 x1 x2 x3 x4 x5 x6 By Bz ow1 hB2 hB yl
   rintro t ⟨ow2, bz, by', hB2⟩
   obtain ⟨_, z0, z1, z2, z3, _, _, _, _⟩ := bz
   obtain ⟨_, y0, y1, y2, y3, y4, y5, y6, _, _, _, _, _, _, _⟩ := by'
   go_wp2
   refine bodyPost_ret (v := .tuple #[.agg #[.int .i64 s'.pc, .slice (some ⟨gr, 0, none⟩) 8 cr, .slice (some ⟨gc, 0, none⟩) 5 cc, .slice (some ⟨gm, 0, none⟩) 256 cm], .agg #[.int .i64 ({ e' with v := 0 }).pc, .int .i64 ({ e' with v := 0 }).w, .int .i64 ({ e' with v := 0 }).why, .int .i64 ({ e' with v := 0 }).d, .int .i64 ({ e' with v := 0 }).v, .int .i64 ({ e' with v := 0 }).ad, .int .i64 ({ e' with v := 0 }).dt]]) (by simp [results, Tryd.results47, go_sem, z0, z1, z2, z3, y0, y1, y2, y3, y4, y5, y6]) rfl ?_
   exact ⟨by rw [HEE.out], ow2, hB2⟩

end Go.Proofs.YtbjapncfgancoaaDoor
