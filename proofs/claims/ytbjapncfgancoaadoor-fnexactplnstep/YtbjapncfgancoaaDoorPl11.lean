/- What one may do just where one sees all: of the model. -/
import Derived.Test.YtbjapncfgancoaaDoorPl10
namespace Go.Proofs.YtbjapncfgancoaaDoor
open Go.RowKit
set_option linter.unusedVariables false
set_option linter.unusedSimpArgs false
set_option maxRecDepth 8000 in
set_option maxHeartbeats 4000000 in
theorem spec_Own_stop (s : St) (e : Ev) (gr gc gm cr cc cm : Nat) (k : Int) (d a b f n : Int) (u00 : World) (ho : Own u00 gr gc gm s) (hk : OkS s) (hi : iok k d a b f n = true)  (hu : s.C.getD 3 0 % 2 = 1) :
  Calls Tryd.prog 87 #[.agg #[.int .i64 s.pc, .slice (some ⟨gr, 0, none⟩) 8 cr, .slice (some ⟨gc, 0, none⟩) 5 cc, .slice (some ⟨gm, 0, none⟩) 256 cm], .agg #[.int .i64 k, .int .i64 d, .int .i64 a, .int .i64 b, .int .i64 f, .int .i64 n], .agg #[.int .i64 (e).pc, .int .i64 (e).w, .int .i64 (e).why, .int .i64 (e).d, .int .i64 (e).v, .int .i64 (e).ad, .int .i64 (e).dt]] u00 (MP (stopS s 6) { e with why := 6 } gr gc gm cr cc cm u00) := by
 obtain ⟨⟨d0, d1⟩, ⟨a0, a1⟩, ⟨b0, b1⟩, ⟨f0, f1⟩, n0, n1⟩ := sok_bd (sok_of hi)
 have lr := ho.R.lt
 have lc := ho.C.lt
 have lm := ho.M.lt
 have HO0 := Lib.hid ho
 have HCl := Lib.hid hk.Cl
 have HRL := Lib.hid hk.Rl
 have HC3 := Lib.hid (And.intro (ok_get hk.C 3).1 hk.c3)
 have c3b := ok_get hk.C 3
 have hc4 := hk.c3
 have pb := okB_true hk.pc
 have a8 : a < 8 := by omega
 have HRl := Lib.hid (show a.toNat < s.R.length by have := hk.Rl; omega)
 obtain ⟨x, hx⟩ : ∃ x, x = rg s a := ⟨_, rfl⟩
 have xb : 0 ≤ x ∧ x < 65536 := by rw [hx]; exact okB_true (rg_ok hk a)
 have HX := Lib.hid (show s.R.getD a.toNat 0 = x from hx.symm)
 obtain ⟨t3, h3⟩ : ∃ t, t = s.C.getD 3 0 := ⟨_, rfl⟩
 obtain ⟨t0, h0⟩ : ∃ t, t = s.C.getD 0 0 := ⟨_, rfl⟩
 have H3 := Lib.hid h3.symm
 have H0 := Lib.hid h0.symm
 rw [← h3] at c3b hc4
 rw [← h3] at hu
 clear hx h3 h0 hi hk
 have k3 := ho.C.cel 3 (by rw [HCl.out]; decide)
 rw [H3.out] at k3
 clear ho
 have l1 : gc < u00.heap.size + 1 := by omega
 have l2 : gc < u00.heap.size + 1 + 1 := by omega
 have l3 : gc < u00.heap.size + 1 + 1 + 1 := by omega
 have l4 : gc < u00.heap.size + 1 + 1 + 1 + 1 := by omega
 have m2 : gc < u00.heap.size + 2 := by omega
 have m3 : gc < u00.heap.size + 3 := by omega
 have m4 : gc < u00.heap.size + 4 := by omega
 go_enter Tryd.func87, Tryd.ntmps87
 go_wp2_with fail
 refine wp_gen (fun v => Lo v u00.heap.size s gr gc gm cr cc cm k d a b f n { e with why := 6 } ∧ But [gr, gc, gm] u00 v) ⟨⟨?_, ?_, ?_, ?_, ?_, ?_⟩, ?_⟩ ?_
 ·(repeat with_reducible first | assumption | exact Box4.new _ _ _ _ _ _ _ (by first | rfl | simp | (simp; omega)) | refine Box4.alloc ?_ _ | refine Box4.drew ?_ | refine Box4.drewN ?_ _ | refine Box4.other ?_ _ _ _ (by omega))
 ·(repeat with_reducible first | assumption | exact Box.new6 _ _ _ _ _ _ _ _ _ (by first | rfl | simp | (simp; omega)) | refine Box.alloc ?_ _ | refine Box.drew ?_ | refine Box.drewN ?_ _ | refine Box.other ?_ _ _ _ (by omega))
 ·first | (exact Box7.newv _ _ _ _ _ _ _ _ _ _ (by simp)) | (repeat with_reducible first | assumption | exact Box7.new _ _ _ _ (by first | rfl | simp | (simp; omega)) | exact Box7.newv _ _ _ _ _ _ _ _ _ _ (by first | rfl | simp | (simp; omega)) | refine Box7.alloc ?_ _ | refine Box7.drew ?_ | refine Box7.drewN ?_ _ | refine Box7.other ?_ _ _ _ (by omega))
 ·(repeat with_reducible first | assumption | exact Box4.new _ _ _ _ _ _ _ (by first | rfl | simp | (simp; omega)) | refine Box4.alloc ?_ _ | refine Box4.drew ?_ | refine Box4.drewN ?_ _ | refine Box4.other ?_ _ _ _ (by omega))
 ·(repeat with_reducible first | assumption | exact Box7.new _ _ _ _ (by first | rfl | simp | (simp; omega)) | exact Box7.newv _ _ _ _ _ _ _ _ _ _ (by first | rfl | simp | (simp; omega)) | refine Box7.alloc ?_ _ | refine Box7.drew ?_ | refine Box7.drewN ?_ _ | refine Box7.other ?_ _ _ _ (by omega))
 ·(repeat with_reducible first | refine Own.alloc ?_ _ | refine Own.drew ?_ | refine Own.drewN ?_ _ | refine Own.other ?_ _ _ _ (by omega) (by omega) (by omega))
  exact HO0.out
 ·(repeat with_reducible first | exact But.refl _ _ | assumption | refine But.alloc ?_ _ | refine But.drew ?_ | refine But.drewN ?_ _ | refine But.set ?_ _ _ _ (by first | (left; simp; done) | (right; simp; done) | (right; omega) | (right; simp; omega)))
 simp only [Nat.add_assoc, Nat.reduceAdd]
 clear k3 hu
 rintro v0 ⟨lo, hB⟩
 have HLo := Lib.hid lo
 have HBt := Lib.hid hB
 have hsz := hB.size
 obtain ⟨⟨g1, s0, s1, s2, s3, S0, S1, S2, S3⟩, ⟨i0, i1, i2, i3, i4, i5⟩, ⟨g5, e0, e1, e2, e3, e4, e5, e6, E0, E1, E2, E3, E4, E5, E6⟩, g6, g7, g8⟩ := lo
 clear hB g1 g5 g6 g7 g8
 have HS := Lib.hid HLo.out.S
 have HE := Lib.hid HLo.out.E
 have HZ := Lib.hid HLo.out.Z
 have HY := Lib.hid HLo.out.Y
 have HO := Lib.hid HLo.out.O
 clear s0 s1 s2 s3 S0 S1 S2 S3 i0 i1 i2 i3 i4 i5 e0 e1 e2 e3 e4 e5 e6 E0 E1 E2 E3 E4 E5 E6 hsz
 clear HLo
 refine wp_region_rows 94 4 [gc, u00.heap.size + 3] (fun i => if i = 1 then [gc] else if i = 3 then [u00.heap.size + 3] else []) lb2_in (fun i => false) (fun i v u => match i with | 0 => v = .agg #[.int .i64 s.pc, .slice (some ⟨gr, 0, none⟩) 8 cr, .slice (some ⟨gc, 0, none⟩) 5 cc, .slice (some ⟨gm, 0, none⟩) 256 cm] | 1 => v = .agg #[.int .i64 8, .slice (some ⟨gr, 0, none⟩) 8 cr, .slice (some ⟨gc, 0, none⟩) 5 cc, .slice (some ⟨gm, 0, none⟩) 256 cm] ∧ Own u gr gc gm (stopS s 6) | 2 => v = .agg #[.int .i64 ({ e with why := 6 }).pc, .int .i64 ({ e with why := 6 }).w, .int .i64 ({ e with why := 6 }).why, .int .i64 ({ e with why := 6 }).d, .int .i64 ({ e with why := 6 }).v, .int .i64 ({ e with why := 6 }).ad, .int .i64 ({ e with why := 6 }).dt] | 3 => v = undef ∧ Box4 u (u00.heap.size + 3) (.int .i64 8) (.slice (some ⟨gr, 0, none⟩) 8 cr) (.slice (some ⟨gc, 0, none⟩) 5 cc) (.slice (some ⟨gm, 0, none⟩) 256 cm) | _ => True) ?mono (by kernel_rfl) (by kernel_rfl) rfl (by kernel_rfl) (by kernel_rfl) (by decide) ?step ?fin
 case mono =>
  intro i j v u u' hi hij hdj hsz h hB
  rcases j with _ | _ | _ | _ | j
  ·exact h
  ·refine ⟨h.1, ?_⟩
   have hB' : But [u00.heap.size + 3] u u' := hB.mono (fun k hk _ => lb2_out i hij k hk)
   exact h.2.but hB' (by simp; omega) (by simp; omega) (by simp; omega)
  ·exact h
  ·refine ⟨h.1, ?_⟩
   have hB' : But [gc] u u' := hB.mono (fun k hk _ => lb2_out' i hij k hk)
   exact h.2.but hB' (by simp; omega)
  ·trivial
 case step =>
  intro i o ho hiz
  rcases i with _ | _ | _ | _ | _ | i
  ·clear hiz
   cases ho
   intro act u hB hL hdep hap hnw
   replace hB := hB [gc, u00.heap.size + 3] (fun j _ k hk => lb2_in j k hk)
   have x3 := out_val hL (k := 3) (by kernel_rfl) rfl rfl
   clear hdep hL hap hnw
   have Bx := HS.out.but hB (by simp; try omega)
   obtain ⟨lt, c0, c1, c2, c3, _, _, _, _⟩ := Bx
   refine wpOp_step rfl (fun K hK => ?_)
   go_simp
   exact hK _ _ ⟨_, rfl, (fun h => by cases h), rfl, But.refl _ _, (fun h => by cases h)⟩
  ·clear hiz
   cases ho
   intro act u hB hL hdep hap hnw
   replace hB := hB [u00.heap.size + 3] lb2_out
   have e0 : act.tmps.getD 15 undef = _ := hdep { on := 0, ground := .data } (by simp) rfl _ rfl
   have hdf := Lib.hid (show act.defers = [] from hL.1)
   clear hdep hL hap hnw
   refine wpOp_step rfl (fun K hK => ?_)
   go_simp
   refine (spec_l4Stop s gr gc gm cr cc cm 6 u (HO.out.but hB (by simp; omega) (by simp; omega) (by simp; omega)) HCl.out HC3.out.1 HC3.out.2).mono ?_
   rintro e u' ⟨rfl, ho', hB'⟩
   go_simp
   exact hK _ _ ⟨_, rfl, (fun h => by cases h), ⟨rfl, ho'⟩, hB', (fun h => by cases h)⟩
  ·clear hiz
   cases ho
   intro act u hB hL hdep hap hnw
   replace hB := hB [gc, u00.heap.size + 3] (fun j _ k hk => lb2_in j k hk)
   have x5 := out_val hL (k := 5) (by kernel_rfl) rfl rfl
   clear hdep hL hap hnw
   have Bx := HE.out.but hB (by simp; try omega)
   obtain ⟨lt, c0, c1, c2, c3, c4, c5, c6, _, _, _, _, _, _, _⟩ := Bx
   refine wpOp_step rfl (fun K hK => ?_)
   go_simp
   exact hK _ _ ⟨_, rfl, (fun h => by cases h), rfl, But.refl _ _, (fun h => by cases h)⟩
  ·clear hiz
   cases ho
   intro act u hB hL hdep hap hnw
   replace hB := hB [gc] lb2_out'
   obtain ⟨h1, ow⟩ := hdep { on := 1, ground := .data } (by simp) rfl _ rfl
   have e1 : act.tmps.getD 16 undef = .agg #[.int .i64 8, .slice (some ⟨gr, 0, none⟩) 8 cr, .slice (some ⟨gc, 0, none⟩) 5 cc, .slice (some ⟨gm, 0, none⟩) 256 cm] := h1
   have x6 := out_val hL (k := 6) (by kernel_rfl) rfl rfl
   clear ow
   clear hdep hL hap hnw h1
   have Bz0 := HZ.out.but hB (by simp; try omega)
   have Bz1 := Bz0
   obtain ⟨lt, c0, c1, c2, c3, f0, f1, f2, f3⟩ := Bz1
   refine wpOp_step rfl (fun K hK => ?_)
   go_simp
   exact hK _ _ ⟨undef, rfl, (fun _ => rfl), ⟨rfl, Bz0.set (.int .i64 8) (.slice (some ⟨gr, 0, none⟩) 8 cr) (.slice (some ⟨gc, 0, none⟩) 5 cc) (.slice (some ⟨gm, 0, none⟩) 256 cm)⟩, (But.refl _ _).set4 (u00.heap.size + 3) _ _ _ _ (.inl (by simp)), (fun h => by cases h)⟩
  ·exact absurd rfl hiz
  ·exact absurd ho (by simp)
 case fin =>
  intro act u hB hL hsf hap hnw
  have d2 := hsf 2 _ rfl (by decide)
  have d3 := hsf 3 _ rfl (by decide)
  have d1 := hsf 1 _ rfl (by decide)
  obtain ⟨ysl, ha, hy⟩ := hL.puts [15, 16, 17] (by kernel_rfl)
  have e2 : ysl 17 = _ := (hy 17).symm.trans d2
  obtain ⟨h3, Bz⟩ := d3
  obtain ⟨h1, ow⟩ := d1
  have e1 : ysl 16 = .agg #[.int .i64 8, .slice (some ⟨gr, 0, none⟩) 8 cr, .slice (some ⟨gc, 0, none⟩) 5 cc, .slice (some ⟨gm, 0, none⟩) 256 cm] := (hy 16).symm.trans h1
  clear hL hsf hy hap hnw d2 h1
  simp only [List.foldl, List.setIfInBounds_toArray, List.set_cons_succ, List.set_cons_zero, e2, e1] at ha
  subst ha
  clear e2 e1
  have ow1 : Own u gr gc gm (stopS s 6) := ow
  have Bz1 := Bz
  obtain ⟨_, z0, z1, z2, z3, _, _, _, _⟩ := Bz1
  have By := HY.out.but hB (by simp; try omega)
  have By1 := By
  obtain ⟨yl, y0, y1, y2, y3, y4, y5, y6, x0, x1, x2, x3, x4, x5, x6⟩ := By1
  have hB2 : But [gr, gc, gm] u00 u := HBt.out.trans2 hB (fun k hk => by simp at hk ⊢; omega)
  refine wpOp_step rfl (fun K hK => ?_)
  go_simp
  refine hK _ _ ?_
  refine wp_seq_gen (fun t => Own t gr gc gm (stopS s 6) ∧ Box4 t (u00.heap.size + 3) (.int .i64 8) (.slice (some ⟨gr, 0, none⟩) 8 cr) (.slice (some ⟨gc, 0, none⟩) 5 cc) (.slice (some ⟨gm, 0, none⟩) 256 cm) ∧ Box7 t (u00.heap.size + 4) ({ e with why := 6 }) ∧ But [gr, gc, gm] u00 t) ⟨?_, ?_, ?_, ?_⟩ ?_
  ·(repeat with_reducible first | refine Own.alloc ?_ _ | refine Own.drew ?_ | refine Own.drewN ?_ _ | refine Own.other ?_ _ _ _ (by omega) (by omega) (by omega))
   exact ow1
  ·(repeat with_reducible first | assumption | exact Box4.new _ _ _ _ _ _ _ (by first | rfl | simp | (simp; omega)) | refine Box4.alloc ?_ _ | refine Box4.drew ?_ | refine Box4.drewN ?_ _ | refine Box4.other ?_ _ _ _ (by omega))
  ·exact ((((((By.set0 _).set1 _).set2 _).set3 _).set4 _).set5 _).set6 _
  ·(repeat with_reducible first | exact But.refl _ _ | assumption | refine But.alloc ?_ _ | refine But.drew ?_ | refine But.drewN ?_ _ | refine But.set ?_ _ _ _ (by first | (left; simp; done) | (right; simp; done) | (right; omega) | (right; simp; omega)))
  clear z0 z1 z2 z3 y0 y1 y2 y3 y4 y5 y6 x0 x1 x2 x3 x4 x5 x6 By Bz ow1 hB2 hB yl
  rintro t ⟨ow2, bz, by', hB2⟩
  obtain ⟨_, z0, z1, z2, z3, _, _, _, _⟩ := bz
  obtain ⟨_, y0, y1, y2, y3, y4, y5, y6, _, _, _, _, _, _, _⟩ := by'
  go_wp2
  refine bodyPost_ret (v := .tuple #[.agg #[.int .i64 8, .slice (some ⟨gr, 0, none⟩) 8 cr, .slice (some ⟨gc, 0, none⟩) 5 cc, .slice (some ⟨gm, 0, none⟩) 256 cm], .agg #[.int .i64 ({ e with why := 6 }).pc, .int .i64 ({ e with why := 6 }).w, .int .i64 ({ e with why := 6 }).why, .int .i64 ({ e with why := 6 }).d, .int .i64 ({ e with why := 6 }).v, .int .i64 ({ e with why := 6 }).ad, .int .i64 ({ e with why := 6 }).dt]]) (by simp [results, Tryd.results87, go_sem, z0, z1, z2, z3, y0, y1, y2, y3, y4, y5, y6]) rfl ?_
  first | exact ⟨rfl, ow2, hB2⟩ | exact ⟨rfl, (by rw [List.set_set] at ow2; exact ow2), hB2⟩
set_option maxRecDepth 8000 in
set_option maxHeartbeats 4000000 in
theorem spec_Own_13 (s : St) (e : Ev) (gr gc gm cr cc cm : Nat) (d a b f n : Int) (u00 : World) (ho : Own u00 gr gc gm s) (hk : OkS s) (hi : iok 13 d a b f n = true)  (hu : s.C.getD 3 0 % 2 = 0) :
  Calls Tryd.prog 87 #[.agg #[.int .i64 s.pc, .slice (some ⟨gr, 0, none⟩) 8 cr, .slice (some ⟨gc, 0, none⟩) 5 cc, .slice (some ⟨gm, 0, none⟩) 256 cm], .agg #[.int .i64 13, .int .i64 d, .int .i64 a, .int .i64 b, .int .i64 f, .int .i64 n], .agg #[.int .i64 (e).pc, .int .i64 (e).w, .int .i64 (e).why, .int .i64 (e).d, .int .i64 (e).v, .int .i64 (e).ad, .int .i64 (e).dt]] u00 (MP ⟨s.C.getD 0 0, s.R, s.C.set 3 (s.C.getD 3 0 / 2), s.M⟩ e gr gc gm cr cc cm u00) := by
 obtain ⟨⟨d0, d1⟩, ⟨a0, a1⟩, ⟨b0, b1⟩, ⟨f0, f1⟩, n0, n1⟩ := sok_bd (sok_of hi)
 have lr := ho.R.lt
 have lc := ho.C.lt
 have lm := ho.M.lt
 have HO0 := Lib.hid ho
 have HCl := Lib.hid hk.Cl
 have HRL := Lib.hid hk.Rl
 have HC3 := Lib.hid (And.intro (ok_get hk.C 3).1 hk.c3)
 have c3b := ok_get hk.C 3
 have hc4 := hk.c3
 have pb := okB_true hk.pc
 have a8 : a < 8 := by omega
 have HRl := Lib.hid (show a.toNat < s.R.length by have := hk.Rl; omega)
 obtain ⟨x, hx⟩ : ∃ x, x = rg s a := ⟨_, rfl⟩
 have xb : 0 ≤ x ∧ x < 65536 := by rw [hx]; exact okB_true (rg_ok hk a)
 have HX := Lib.hid (show s.R.getD a.toNat 0 = x from hx.symm)
 obtain ⟨t3, h3⟩ : ∃ t, t = s.C.getD 3 0 := ⟨_, rfl⟩
 obtain ⟨t0, h0⟩ : ∃ t, t = s.C.getD 0 0 := ⟨_, rfl⟩
 have H3 := Lib.hid h3.symm
 have H0 := Lib.hid h0.symm
 rw [← h3] at c3b hc4
 have hff := (iok_f hi).2
 have htf : topF 13 ≤ 4 := by decide
 have f5 : f < 5 := by omega
 clear htf
 have hp : t3 % 2 = 0 := by rw [h3]; exact hu
 rw [← h3, ← h0]
 clear hx h3 h0 hi hk hff hu
 have k3 := ho.C.cel 3 (by rw [HCl.out]; decide)
 have k0 := ho.C.cel 0 (by rw [HCl.out]; decide)
 rw [H3.out] at k3
 rw [H0.out] at k0
 clear ho
 have l1 : gc < u00.heap.size + 1 := by omega
 have l2 : gc < u00.heap.size + 1 + 1 := by omega
 have l3 : gc < u00.heap.size + 1 + 1 + 1 := by omega
 have l4 : gc < u00.heap.size + 1 + 1 + 1 + 1 := by omega
 have m2 : gc < u00.heap.size + 2 := by omega
 have m3 : gc < u00.heap.size + 3 := by omega
 have m4 : gc < u00.heap.size + 4 := by omega
 go_enter Tryd.func87, Tryd.ntmps87
 go_wp2_with fail
 refine wp_gen (fun v => Lo v u00.heap.size (⟨t0, s.R, s.C, s.M⟩ : St) gr gc gm cr cc cm 13 d a b f n e ∧ But [gr, gc, gm] u00 v) ⟨⟨?_, ?_, ?_, ?_, ?_, ?_⟩, ?_⟩ ?_
 ·first | (exact Box4.new _ _ _ _ _ _ _ (by simp)) | (repeat with_reducible first | assumption | exact Box4.new _ _ _ _ _ _ _ (by first | rfl | simp | (simp; omega)) | refine Box4.alloc ?_ _ | refine Box4.drew ?_ | refine Box4.drewN ?_ _ | refine Box4.other ?_ _ _ _ (by omega))
 ·(repeat with_reducible first | assumption | exact Box.new6 _ _ _ _ _ _ _ _ _ (by first | rfl | simp | (simp; omega)) | refine Box.alloc ?_ _ | refine Box.drew ?_ | refine Box.drewN ?_ _ | refine Box.other ?_ _ _ _ (by omega))
 ·(repeat with_reducible first | assumption | exact Box7.new _ _ _ _ (by first | rfl | simp | (simp; omega)) | exact Box7.newv _ _ _ _ _ _ _ _ _ _ (by first | rfl | simp | (simp; omega)) | refine Box7.alloc ?_ _ | refine Box7.drew ?_ | refine Box7.drewN ?_ _ | refine Box7.other ?_ _ _ _ (by omega))
 ·(repeat with_reducible first | assumption | exact Box4.new _ _ _ _ _ _ _ (by first | rfl | simp | (simp; omega)) | refine Box4.alloc ?_ _ | refine Box4.drew ?_ | refine Box4.drewN ?_ _ | refine Box4.other ?_ _ _ _ (by omega))
 ·(repeat with_reducible first | assumption | exact Box7.new _ _ _ _ (by first | rfl | simp | (simp; omega)) | exact Box7.newv _ _ _ _ _ _ _ _ _ _ (by first | rfl | simp | (simp; omega)) | refine Box7.alloc ?_ _ | refine Box7.drew ?_ | refine Box7.drewN ?_ _ | refine Box7.other ?_ _ _ _ (by omega))
 ·(repeat with_reducible first | refine Own.alloc ?_ _ | refine Own.drew ?_ | refine Own.drewN ?_ _ | refine Own.other ?_ _ _ _ (by omega) (by omega) (by omega))
  exact HO0.out.pc t0
 ·(repeat with_reducible first | exact But.refl _ _ | assumption | refine But.alloc ?_ _ | refine But.drew ?_ | refine But.drewN ?_ _ | refine But.set ?_ _ _ _ (by first | (left; simp; done) | (right; simp; done) | (right; omega) | (right; simp; omega)))
 simp only [Nat.add_assoc, Nat.reduceAdd]
 clear k3 k0 hp
 rintro v ⟨lo, hB⟩
 have HLo := Lib.hid lo
 have HBt := Lib.hid hB
 have hsz := hB.size
 have k3 := lo.O.C.cel 3 (by rw [HCl.out]; decide)
 have K3 := lo.O.C.fro 3 (by rw [HCl.out]; decide)
 have k0 := lo.O.C.cel 0 (by rw [HCl.out]; decide)
 rw [H3.out] at k3
 rw [H0.out] at k0
 obtain ⟨⟨g1, s0, s1, s2, s3, S0, S1, S2, S3⟩, ⟨i0, i1, i2, i3, i4, i5⟩, ⟨g5, e0, e1, e2, e3, e4, e5, e6, E0, E1, E2, E3, E4, E5, E6⟩, g6, g7, g8⟩ := lo
 clear hB g1 g5 g6 g7 g8
 go_still_tail 7, (by kernel_rfl)
 change wpList _ _ _ _ _ v.drew
 refine wpList_gen (fun v => Lo v u00.heap.size (⟨t0, s.R, s.C, s.M⟩ : St) gr gc gm cr cc cm 13 d a b f n e ∧ But [gr, gc, gm] u00 v) ⟨?_, ?_⟩ ?_
 ·obtain ⟨q1, q2, q3, q4, q5, q6⟩ := HLo.out
  exact ⟨q1.drew, q2.drew, q3.drew, q4.drew, q5.drew, q6.drew⟩
 ·exact HBt.out.drew
 clear s0 s1 s2 s3 S0 S1 S2 S3 i0 i1 i2 i3 i4 i5 e0 e1 e2 e3 e4 e5 e6 E0 E1 E2 E3 E4 E5 E6 k3 K3 k0 hsz
 clear HLo HBt
 clear v
 rintro v1 ⟨lo, hB⟩
 have HLo := Lib.hid lo
 have HBt := Lib.hid hB
 have hsz := hB.size
 have k3 := lo.O.C.cel 3 (by rw [HCl.out]; decide)
 have K3 := lo.O.C.fro 3 (by rw [HCl.out]; decide)
 have k0 := lo.O.C.cel 0 (by rw [HCl.out]; decide)
 rw [H3.out] at k3
 rw [H0.out] at k0
 obtain ⟨⟨g1, s0, s1, s2, s3, S0, S1, S2, S3⟩, ⟨i0, i1, i2, i3, i4, i5⟩, ⟨g5, e0, e1, e2, e3, e4, e5, e6, E0, E1, E2, E3, E4, E5, E6⟩, g6, g7, g8⟩ := lo
 clear hB g1 g5 g6 g7 g8
 have z1 : ¬ gc = u00.heap.size := by omega
 have z2 : ¬ u00.heap.size = gc := by omega
 have z3 : ¬ gc = u00.heap.size + 1 := by omega
 have z4 : ¬ u00.heap.size + 1 = gc := by omega
 have z5 : ¬ gc = u00.heap.size + 2 := by omega
 have z6 : ¬ u00.heap.size + 2 = gc := by omega
 go_wp2_with fail
 refine wp_gen (fun v => Lo v u00.heap.size (⟨t0, s.R, s.C.set 3 (t3 / 2), s.M⟩ : St) gr gc gm cr cc cm 13 d a b f n e ∧ But [gr, gc, gm] u00 v) ⟨⟨?_, ?_, ?_, ?_, ?_, ?_⟩, ?_⟩ ?_
 ·have q1 := HLo.out.S
  (repeat with_reducible first | assumption | exact Box4.new _ _ _ _ _ _ _ (by first | rfl | simp | (simp; omega)) | refine Box4.alloc ?_ _ | refine Box4.drew ?_ | refine Box4.drewN ?_ _ | refine Box4.other ?_ _ _ _ (by omega))
 ·have q1 := HLo.out.C
  (repeat with_reducible first | assumption | exact Box.new6 _ _ _ _ _ _ _ _ _ (by first | rfl | simp | (simp; omega)) | refine Box.alloc ?_ _ | refine Box.drew ?_ | refine Box.drewN ?_ _ | refine Box.other ?_ _ _ _ (by omega))
 ·have q1 := HLo.out.E
  (repeat with_reducible first | assumption | exact Box7.new _ _ _ _ (by first | rfl | simp | (simp; omega)) | exact Box7.newv _ _ _ _ _ _ _ _ _ _ (by first | rfl | simp | (simp; omega)) | refine Box7.alloc ?_ _ | refine Box7.drew ?_ | refine Box7.drewN ?_ _ | refine Box7.other ?_ _ _ _ (by omega))
 ·have q1 := HLo.out.Z
  (repeat with_reducible first | assumption | exact Box4.new _ _ _ _ _ _ _ (by first | rfl | simp | (simp; omega)) | refine Box4.alloc ?_ _ | refine Box4.drew ?_ | refine Box4.drewN ?_ _ | refine Box4.other ?_ _ _ _ (by omega))
 ·have q1 := HLo.out.Y
  (repeat with_reducible first | assumption | exact Box7.new _ _ _ _ (by first | rfl | simp | (simp; omega)) | exact Box7.newv _ _ _ _ _ _ _ _ _ _ (by first | rfl | simp | (simp; omega)) | refine Box7.alloc ?_ _ | refine Box7.drew ?_ | refine Box7.drewN ?_ _ | refine Box7.other ?_ _ _ _ (by omega))
 ·have q1 := HLo.out.O
  (repeat with_reducible first | refine Own.alloc ?_ _ | refine Own.drew ?_ | refine Own.drewN ?_ _ | refine Own.other ?_ _ _ _ (by omega) (by omega) (by omega))
  exact q1.setC 3 (t3 / 2) (by rw [HCl.out]; decide) t0
 ·have hB := HBt.out
  (repeat with_reducible first | exact But.refl _ _ | assumption | refine But.alloc ?_ _ | refine But.drew ?_ | refine But.drewN ?_ _ | refine But.set ?_ _ _ _ (by first | (left; simp; done) | (right; simp; done) | (right; omega) | (right; simp; omega)))
 clear s0 s1 s2 s3 S0 S1 S2 S3 i0 i1 i2 i3 i4 i5 e0 e1 e2 e3 e4 e5 e6 E0 E1 E2 E3 E4 E5 E6 k3 K3 k0 hsz
 clear HLo HBt z1 z2 z3 z4 z5 z6
 clear v1
 rintro v0 ⟨lo, hB⟩
 have HLo := Lib.hid lo
 have HBt := Lib.hid hB
 have hsz := hB.size
 obtain ⟨⟨g1, s0, s1, s2, s3, S0, S1, S2, S3⟩, ⟨i0, i1, i2, i3, i4, i5⟩, ⟨g5, e0, e1, e2, e3, e4, e5, e6, E0, E1, E2, E3, E4, E5, E6⟩, g6, g7, g8⟩ := lo
 clear hB g1 g5 g6 g7 g8
 have HS := Lib.hid HLo.out.S
 have HE := Lib.hid HLo.out.E
 have HZ := Lib.hid HLo.out.Z
 have HY := Lib.hid HLo.out.Y
 have HO := Lib.hid HLo.out.O
 clear s0 s1 s2 s3 S0 S1 S2 S3 i0 i1 i2 i3 i4 i5 e0 e1 e2 e3 e4 e5 e6 E0 E1 E2 E3 E4 E5 E6 hsz
 clear HLo
 refine wp_region_rows 94 3 [u00.heap.size + 3] (fun i => if i = 2 then [u00.heap.size + 3] else []) lb1_in (fun i => false) (fun i v u => match i with | 0 => v = .agg #[.int .i64 t0, .slice (some ⟨gr, 0, none⟩) 8 cr, .slice (some ⟨gc, 0, none⟩) 5 cc, .slice (some ⟨gm, 0, none⟩) 256 cm] | 1 => v = .agg #[.int .i64 (e).pc, .int .i64 (e).w, .int .i64 (e).why, .int .i64 (e).d, .int .i64 (e).v, .int .i64 (e).ad, .int .i64 (e).dt] | 2 => v = undef ∧ Box4 u (u00.heap.size + 3) (.int .i64 t0) (.slice (some ⟨gr, 0, none⟩) 8 cr) (.slice (some ⟨gc, 0, none⟩) 5 cc) (.slice (some ⟨gm, 0, none⟩) 256 cm) | _ => True) ?mono (by kernel_rfl) (by kernel_rfl) rfl (by kernel_rfl) (by kernel_rfl) (by decide) ?step ?fin
 case mono =>
  intro i j v u u' hi hij hdj hsz h hB
  rcases j with _ | _ | _ | j
  ·exact h
  ·exact h
  ·refine ⟨h.1, ?_⟩
   have hB' : But [] u u' := hB.mono (fun k hk _ => lb1_out i hij k hk)
   exact h.2.but hB' (by simp)
  ·trivial
 case step =>
  intro i o ho hiz
  rcases i with _ | _ | _ | _ | i
  ·clear hiz
   cases ho
   intro act u hB hL hdep hap hnw
   replace hB := hB [u00.heap.size + 3] (fun j _ k hk => lb1_in j k hk)
   have x3 := out_val hL (k := 3) (by kernel_rfl) rfl rfl
   clear hdep hL hap hnw
   have Bx := HS.out.but hB (by simp; try omega)
   obtain ⟨lt, c0, c1, c2, c3, _, _, _, _⟩ := Bx
   refine wpOp_step rfl (fun K hK => ?_)
   go_simp
   exact hK _ _ ⟨_, rfl, (fun h => by cases h), rfl, But.refl _ _, (fun h => by cases h)⟩
  ·clear hiz
   cases ho
   intro act u hB hL hdep hap hnw
   replace hB := hB [u00.heap.size + 3] (fun j _ k hk => lb1_in j k hk)
   have x5 := out_val hL (k := 5) (by kernel_rfl) rfl rfl
   clear hdep hL hap hnw
   have Bx := HE.out.but hB (by simp; try omega)
   obtain ⟨lt, c0, c1, c2, c3, c4, c5, c6, _, _, _, _, _, _, _⟩ := Bx
   refine wpOp_step rfl (fun K hK => ?_)
   go_simp
   exact hK _ _ ⟨_, rfl, (fun h => by cases h), rfl, But.refl _ _, (fun h => by cases h)⟩
  ·clear hiz
   cases ho
   intro act u hB hL hdep hap hnw
   replace hB := hB [] lb1_out
   have e0 : act.tmps.getD 63 undef = _ := hdep { on := 0, ground := .data } (by simp) rfl _ rfl
   have x6 := out_val hL (k := 6) (by kernel_rfl) rfl rfl
   clear hdep hL hap hnw
   have Bz0 := HZ.out.but hB (by simp; try omega)
   have Bz1 := Bz0
   obtain ⟨lt, c0, c1, c2, c3, f0, f1, f2, f3⟩ := Bz1
   refine wpOp_step rfl (fun K hK => ?_)
   go_simp
   exact hK _ _ ⟨undef, rfl, (fun _ => rfl), ⟨rfl, Bz0.set (.int .i64 t0) (.slice (some ⟨gr, 0, none⟩) 8 cr) (.slice (some ⟨gc, 0, none⟩) 5 cc) (.slice (some ⟨gm, 0, none⟩) 256 cm)⟩, (But.refl _ _).set4 (u00.heap.size + 3) _ _ _ _ (.inl (by simp)), (fun h => by cases h)⟩
  ·exact absurd rfl hiz
  ·exact absurd ho (by simp)
 case fin =>
  intro act u hB hL hsf hap hnw
  have d1 := hsf 1 _ rfl (by decide)
  have d2 := hsf 2 _ rfl (by decide)
  obtain ⟨ysl, ha, hy⟩ := hL.puts [63, 64] (by kernel_rfl)
  have e1 : ysl 64 = _ := (hy 64).symm.trans d1
  obtain ⟨h2, Bz⟩ := d2
  clear hL hsf hy hap hnw d1
  simp only [List.foldl, List.setIfInBounds_toArray, List.set_cons_succ, List.set_cons_zero, e1] at ha
  subst ha
  clear e1
  have ow1 : Own u gr gc gm (⟨t0, s.R, s.C.set 3 (t3 / 2), s.M⟩ : St) := HO.out.but hB (by simp; omega) (by simp; omega) (by simp; omega)
  have Bz1 := Bz
  obtain ⟨_, z0, z1, z2, z3, _, _, _, _⟩ := Bz1
  have By := HY.out.but hB (by simp; try omega)
  have By1 := By
  obtain ⟨yl, y0, y1, y2, y3, y4, y5, y6, x0, x1, x2, x3, x4, x5, x6⟩ := By1
  have hB2 : But [gr, gc, gm] u00 u := HBt.out.trans2 hB (fun k hk => by simp at hk ⊢; omega)
  refine wpOp_step rfl (fun K hK => ?_)
  go_simp
  refine hK _ _ ?_
  refine wp_seq_gen (fun t => Own t gr gc gm (⟨t0, s.R, s.C.set 3 (t3 / 2), s.M⟩ : St) ∧ Box4 t (u00.heap.size + 3) (.int .i64 t0) (.slice (some ⟨gr, 0, none⟩) 8 cr) (.slice (some ⟨gc, 0, none⟩) 5 cc) (.slice (some ⟨gm, 0, none⟩) 256 cm) ∧ Box7 t (u00.heap.size + 4) (e) ∧ But [gr, gc, gm] u00 t) ⟨?_, ?_, ?_, ?_⟩ ?_
  ·(repeat with_reducible first | refine Own.alloc ?_ _ | refine Own.drew ?_ | refine Own.drewN ?_ _ | refine Own.other ?_ _ _ _ (by omega) (by omega) (by omega))
   exact ow1
  ·(repeat with_reducible first | assumption | exact Box4.new _ _ _ _ _ _ _ (by first | rfl | simp | (simp; omega)) | refine Box4.alloc ?_ _ | refine Box4.drew ?_ | refine Box4.drewN ?_ _ | refine Box4.other ?_ _ _ _ (by omega))
  ·exact ((((((By.set0 _).set1 _).set2 _).set3 _).set4 _).set5 _).set6 _
  ·(repeat with_reducible first | exact But.refl _ _ | assumption | refine But.alloc ?_ _ | refine But.drew ?_ | refine But.drewN ?_ _ | refine But.set ?_ _ _ _ (by first | (left; simp; done) | (right; simp; done) | (right; omega) | (right; simp; omega)))
  clear z0 z1 z2 z3 y0 y1 y2 y3 y4 y5 y6 x0 x1 x2 x3 x4 x5 x6 By Bz ow1 hB2 hB yl
  rintro t ⟨ow2, bz, by', hB2⟩
  obtain ⟨_, z0, z1, z2, z3, _, _, _, _⟩ := bz
  obtain ⟨_, y0, y1, y2, y3, y4, y5, y6, _, _, _, _, _, _, _⟩ := by'
  go_wp2
  refine bodyPost_ret (v := .tuple #[.agg #[.int .i64 t0, .slice (some ⟨gr, 0, none⟩) 8 cr, .slice (some ⟨gc, 0, none⟩) 5 cc, .slice (some ⟨gm, 0, none⟩) 256 cm], .agg #[.int .i64 (e).pc, .int .i64 (e).w, .int .i64 (e).why, .int .i64 (e).d, .int .i64 (e).v, .int .i64 (e).ad, .int .i64 (e).dt]]) (by simp [results, Tryd.results87, go_sem, z0, z1, z2, z3, y0, y1, y2, y3, y4, y5, y6]) rfl ?_
  first | exact ⟨rfl, ow2, hB2⟩ | exact ⟨rfl, (by rw [List.set_set] at ow2; exact ow2), hB2⟩
set_option maxRecDepth 8000 in
set_option maxHeartbeats 4000000 in
theorem spec_Own_14 (s : St) (e : Ev) (gr gc gm cr cc cm : Nat) (d a b f n : Int) (u00 : World) (ho : Own u00 gr gc gm s) (hk : OkS s) (hi : iok 14 d a b f n = true)  (hu : s.C.getD 3 0 % 2 = 0) :
  Calls Tryd.prog 87 #[.agg #[.int .i64 s.pc, .slice (some ⟨gr, 0, none⟩) 8 cr, .slice (some ⟨gc, 0, none⟩) 5 cc, .slice (some ⟨gm, 0, none⟩) 256 cm], .agg #[.int .i64 14, .int .i64 d, .int .i64 a, .int .i64 b, .int .i64 f, .int .i64 n], .agg #[.int .i64 (e).pc, .int .i64 (e).w, .int .i64 (e).why, .int .i64 (e).d, .int .i64 (e).v, .int .i64 (e).ad, .int .i64 (e).dt]] u00 (MP ⟨nx s, putR s.R d (s.C.getD f.toNat 0), s.C, s.M⟩ { e with d := d, v := s.C.getD f.toNat 0 } gr gc gm cr cc cm u00) := by
 obtain ⟨⟨d0, d1⟩, ⟨a0, a1⟩, ⟨b0, b1⟩, ⟨f0, f1⟩, n0, n1⟩ := sok_bd (sok_of hi)
 have lr := ho.R.lt
 have lc := ho.C.lt
 have lm := ho.M.lt
 have HO0 := Lib.hid ho
 have HCl := Lib.hid hk.Cl
 have HRL := Lib.hid hk.Rl
 have HC3 := Lib.hid (And.intro (ok_get hk.C 3).1 hk.c3)
 have c3b := ok_get hk.C 3
 have hc4 := hk.c3
 have pb := okB_true hk.pc
 have a8 : a < 8 := by omega
 have HRl := Lib.hid (show a.toNat < s.R.length by have := hk.Rl; omega)
 obtain ⟨x, hx⟩ : ∃ x, x = rg s a := ⟨_, rfl⟩
 have xb : 0 ≤ x ∧ x < 65536 := by rw [hx]; exact okB_true (rg_ok hk a)
 have HX := Lib.hid (show s.R.getD a.toNat 0 = x from hx.symm)
 obtain ⟨t3, h3⟩ : ∃ t, t = s.C.getD 3 0 := ⟨_, rfl⟩
 obtain ⟨t0, h0⟩ : ∃ t, t = s.C.getD 0 0 := ⟨_, rfl⟩
 have H3 := Lib.hid h3.symm
 have H0 := Lib.hid h0.symm
 rw [← h3] at c3b hc4
 have hff := (iok_f hi).2
 have htf : topF 14 ≤ 4 := by decide
 have f5 : f < 5 := by omega
 clear htf
 have hp : t3 % 2 = 0 := by rw [h3]; exact hu
 obtain ⟨m, hm⟩ : ∃ m, m = s.C.getD f.toNat 0 := ⟨_, rfl⟩
 have HM := Lib.hid hm.symm
 rw [← hm]
 clear hm
 clear hx h3 h0 hi hk hff hu
 have k3 := ho.C.cel 3 (by rw [HCl.out]; decide)
 have k0 := ho.C.cel 0 (by rw [HCl.out]; decide)
 rw [H3.out] at k3
 rw [H0.out] at k0
 have kf := ho.C.cel f.toNat (by rw [HCl.out]; omega)
 rw [HM.out] at kf
 clear ho
 have l1 : gc < u00.heap.size + 1 := by omega
 have l2 : gc < u00.heap.size + 1 + 1 := by omega
 have l3 : gc < u00.heap.size + 1 + 1 + 1 := by omega
 have l4 : gc < u00.heap.size + 1 + 1 + 1 + 1 := by omega
 have m2 : gc < u00.heap.size + 2 := by omega
 have m3 : gc < u00.heap.size + 3 := by omega
 have m4 : gc < u00.heap.size + 4 := by omega
 go_enter Tryd.func87, Tryd.ntmps87
 go_wp2_with fail
 refine wp_gen (fun v => Lo v u00.heap.size s gr gc gm cr cc cm 14 d a b f n { e with d := d, v := m } ∧ But [gr, gc, gm] u00 v) ⟨⟨?_, ?_, ?_, ?_, ?_, ?_⟩, ?_⟩ ?_
 ·(repeat with_reducible first | assumption | exact Box4.new _ _ _ _ _ _ _ (by first | rfl | simp | (simp; omega)) | refine Box4.alloc ?_ _ | refine Box4.drew ?_ | refine Box4.drewN ?_ _ | refine Box4.other ?_ _ _ _ (by omega))
 ·(repeat with_reducible first | assumption | exact Box.new6 _ _ _ _ _ _ _ _ _ (by first | rfl | simp | (simp; omega)) | refine Box.alloc ?_ _ | refine Box.drew ?_ | refine Box.drewN ?_ _ | refine Box.other ?_ _ _ _ (by omega))
 ·first | (exact Box7.newv _ _ _ _ _ _ _ _ _ _ (by simp)) | (repeat with_reducible first | assumption | exact Box7.new _ _ _ _ (by first | rfl | simp | (simp; omega)) | exact Box7.newv _ _ _ _ _ _ _ _ _ _ (by first | rfl | simp | (simp; omega)) | refine Box7.alloc ?_ _ | refine Box7.drew ?_ | refine Box7.drewN ?_ _ | refine Box7.other ?_ _ _ _ (by omega))
 ·(repeat with_reducible first | assumption | exact Box4.new _ _ _ _ _ _ _ (by first | rfl | simp | (simp; omega)) | refine Box4.alloc ?_ _ | refine Box4.drew ?_ | refine Box4.drewN ?_ _ | refine Box4.other ?_ _ _ _ (by omega))
 ·(repeat with_reducible first | assumption | exact Box7.new _ _ _ _ (by first | rfl | simp | (simp; omega)) | exact Box7.newv _ _ _ _ _ _ _ _ _ _ (by first | rfl | simp | (simp; omega)) | refine Box7.alloc ?_ _ | refine Box7.drew ?_ | refine Box7.drewN ?_ _ | refine Box7.other ?_ _ _ _ (by omega))
 ·(repeat with_reducible first | refine Own.alloc ?_ _ | refine Own.drew ?_ | refine Own.drewN ?_ _ | refine Own.other ?_ _ _ _ (by omega) (by omega) (by omega))
  exact HO0.out
 ·(repeat with_reducible first | exact But.refl _ _ | assumption | refine But.alloc ?_ _ | refine But.drew ?_ | refine But.drewN ?_ _ | refine But.set ?_ _ _ _ (by first | (left; simp; done) | (right; simp; done) | (right; omega) | (right; simp; omega)))
 simp only [Nat.add_assoc, Nat.reduceAdd]
 clear k3 k0 kf hp
 rintro v0 ⟨lo, hB⟩
 have HLo := Lib.hid lo
 have HBt := Lib.hid hB
 have hsz := hB.size
 obtain ⟨⟨g1, s0, s1, s2, s3, S0, S1, S2, S3⟩, ⟨i0, i1, i2, i3, i4, i5⟩, ⟨g5, e0, e1, e2, e3, e4, e5, e6, E0, E1, E2, E3, E4, E5, E6⟩, g6, g7, g8⟩ := lo
 clear hB g1 g5 g6 g7 g8
 have HS := Lib.hid HLo.out.S
 have HCc := Lib.hid HLo.out.C
 have HO := Lib.hid HLo.out.O
 have HLb := Lib.hid HLo.out
 clear s0 s1 s2 s3 S0 S1 S2 S3 i0 i1 i2 i3 i4 i5 e0 e1 e2 e3 e4 e5 e6 E0 E1 E2 E3 E4 E5 E6 hsz
 refine wp_region_rows 94 10 [gr] (fun i => if i = 9 then [gr] else []) lb1_in (fun i => false) (fun i v u => match i with | 0 => v = .agg #[.int .i64 s.pc, .slice (some ⟨gr, 0, none⟩) 8 cr, .slice (some ⟨gc, 0, none⟩) 5 cc, .slice (some ⟨gm, 0, none⟩) 256 cm] | 1 => v = .pointer (some ⟨u00.heap.size + 1, 1, none⟩) | 2 => v = .int .i64 d | 3 => v = .pointer (some ⟨u00.heap.size, 2, none⟩) | 4 => v = .slice (some ⟨gc, 0, none⟩) 5 cc | 5 => v = .pointer (some ⟨u00.heap.size + 1, 4, none⟩) | 6 => v = .int .i64 f | 7 => v = .pointer (some ⟨gc, f.toNat, none⟩) | 8 => v = .int .i64 m | 9 => v = .agg #[.int .i64 s.pc, .slice (some ⟨gr, 0, none⟩) 8 cr, .slice (some ⟨gc, 0, none⟩) 5 cc, .slice (some ⟨gm, 0, none⟩) 256 cm] ∧ Own u gr gc gm (⟨s.pc, putR s.R d m, s.C, s.M⟩ : St) | _ => True) ?mono (by kernel_rfl) (by kernel_rfl) rfl (by kernel_rfl) (by kernel_rfl) (by decide) ?step ?fin
 case mono =>
  intro i j v u u' hi hij hdj hsz h hB
  rcases j with _ | _ | _ | _ | _ | _ | _ | _ | _ | _ | j
  ·exact h
  ·exact h
  ·exact h
  ·exact h
  ·exact h
  ·exact h
  ·exact h
  ·exact h
  ·exact h
  ·refine ⟨h.1, ?_⟩
   have hB' : But [] u u' := hB.mono (fun k hk _ => lb1_out i hij k hk)
   exact h.2.but hB' (by simp) (by simp) (by simp)
  ·trivial
 case step =>
  intro i o ho hiz
  rcases i with _ | _ | _ | _ | _ | _ | _ | _ | _ | _ | _ | i
  ·clear hiz
   cases ho
   intro act u hB hL hdep hap hnw
   replace hB := hB [gr] (fun j _ k hk => lb1_in j k hk)
   have x3 := out_val hL (k := 3) (by kernel_rfl) rfl rfl
   clear hdep hL hap hnw
   have Bx := HS.out.but hB (by simp; try omega)
   obtain ⟨lt, c0, c1, c2, c3, _, _, _, _⟩ := Bx
   refine wpOp_step rfl (fun K hK => ?_)
   go_simp
   exact hK _ _ ⟨_, rfl, (fun h => by cases h), rfl, But.refl _ _, (fun h => by cases h)⟩
  ·clear hiz
   cases ho
   intro act u hB hL hdep hap hnw
   replace hB := hB [gr] (fun j _ k hk => lb1_in j k hk)
   have x4 := out_val hL (k := 4) (by kernel_rfl) rfl rfl
   clear hdep hL hap hnw
   refine wpOp_step rfl (fun K hK => ?_)
   go_simp
   exact hK _ _ ⟨_, rfl, (fun h => by cases h), rfl, But.refl _ _, (fun h => by cases h)⟩
  ·clear hiz
   cases ho
   intro act u hB hL hdep hap hnw
   replace hB := hB [gr] (fun j _ k hk => lb1_in j k hk)
   have e1 : act.tmps.getD 78 undef = _ := hdep { on := 1, ground := .data } (by simp) rfl _ rfl
   clear hdep hL hap hnw
   have Bx := HCc.out.but hB (by simp; try omega)
   obtain ⟨c0, c1, c2, c3, c4, c5⟩ := Bx
   refine wpOp_step rfl (fun K hK => ?_)
   go_simp
   exact hK _ _ ⟨_, rfl, (fun h => by cases h), rfl, But.refl _ _, (fun h => by cases h)⟩
  ·clear hiz
   cases ho
   intro act u hB hL hdep hap hnw
   replace hB := hB [gr] (fun j _ k hk => lb1_in j k hk)
   have x3 := out_val hL (k := 3) (by kernel_rfl) rfl rfl
   clear hdep hL hap hnw
   refine wpOp_step rfl (fun K hK => ?_)
   go_simp
   exact hK _ _ ⟨_, rfl, (fun h => by cases h), rfl, But.refl _ _, (fun h => by cases h)⟩
  ·clear hiz
   cases ho
   intro act u hB hL hdep hap hnw
   replace hB := hB [gr] (fun j _ k hk => lb1_in j k hk)
   have e3 : act.tmps.getD 80 undef = _ := hdep { on := 3, ground := .data } (by simp) rfl _ rfl
   clear hdep hL hap hnw
   have Bx := HS.out.but hB (by simp; try omega)
   obtain ⟨lt, c0, c1, c2, c3, _, _, _, _⟩ := Bx
   refine wpOp_step rfl (fun K hK => ?_)
   go_simp
   exact hK _ _ ⟨_, rfl, (fun h => by cases h), rfl, But.refl _ _, (fun h => by cases h)⟩
  ·clear hiz
   cases ho
   intro act u hB hL hdep hap hnw
   replace hB := hB [gr] (fun j _ k hk => lb1_in j k hk)
   have x4 := out_val hL (k := 4) (by kernel_rfl) rfl rfl
   clear hdep hL hap hnw
   refine wpOp_step rfl (fun K hK => ?_)
   go_simp
   exact hK _ _ ⟨_, rfl, (fun h => by cases h), rfl, But.refl _ _, (fun h => by cases h)⟩
  ·clear hiz
   cases ho
   intro act u hB hL hdep hap hnw
   replace hB := hB [gr] (fun j _ k hk => lb1_in j k hk)
   have e5 : act.tmps.getD 82 undef = _ := hdep { on := 5, ground := .data } (by simp) rfl _ rfl
   clear hdep hL hap hnw
   have Bx := HCc.out.but hB (by simp; try omega)
   obtain ⟨c0, c1, c2, c3, c4, c5⟩ := Bx
   refine wpOp_step rfl (fun K hK => ?_)
   go_simp
   exact hK _ _ ⟨_, rfl, (fun h => by cases h), rfl, But.refl _ _, (fun h => by cases h)⟩
  ·clear hiz
   cases ho
   intro act u hB hL hdep hap hnw
   replace hB := hB [gr] (fun j _ k hk => lb1_in j k hk)
   have e4 : act.tmps.getD 81 undef = _ := hdep { on := 4, ground := .data } (by simp) rfl _ rfl
   have e6 : act.tmps.getD 83 undef = _ := hdep { on := 6, ground := .data } (by simp) rfl _ rfl
   clear hdep hL hap hnw
   refine wpOp_step rfl (fun K hK => ?_)
   go_simp
   exact hK _ _ ⟨_, rfl, (fun h => by cases h), rfl, But.refl _ _, (fun h => by cases h)⟩
  ·clear hiz
   cases ho
   intro act u hB hL hdep hap hnw
   replace hB := hB [gr] (fun j _ k hk => lb1_in j k hk)
   have e7 : act.tmps.getD 84 undef = _ := hdep { on := 7, ground := .data } (by simp) rfl _ rfl
   clear hdep hL hap hnw
   have ox := HO.out.C.but hB (by simp; exact fun h => HO.out.rc h.symm)
   have kf := ox.cel f.toNat (by rw [HCl.out]; omega)
   rw [HM.out] at kf
   refine wpOp_step rfl (fun K hK => ?_)
   go_simp
   exact hK _ _ ⟨_, rfl, (fun h => by cases h), rfl, But.refl _ _, (fun h => by cases h)⟩
  ·clear hiz
   cases ho
   intro act u hB hL hdep hap hnw
   replace hB := hB [] lb1_out
   have e0 : act.tmps.getD 77 undef = _ := hdep { on := 0, ground := .data } (by simp) rfl _ rfl
   have e2 : act.tmps.getD 79 undef = _ := hdep { on := 2, ground := .data } (by simp) rfl _ rfl
   have e8 : act.tmps.getD 85 undef = _ := hdep { on := 8, ground := .data } (by simp) rfl _ rfl
   have hdf := Lib.hid (show act.defers = [] from hL.1)
   clear hdep hL hap hnw
   refine wpOp_step rfl (fun K hK => ?_)
   go_simp
   refine (spec_l4Put s gr gc gm cr cc cm d m u (HO.out.but hB (by simp) (by simp) (by simp)) HRL.out d0 d1).mono ?_
   rintro e' u' ⟨rfl, ho', hB'⟩
   go_simp
   exact hK _ _ ⟨_, rfl, (fun h => by cases h), ⟨rfl, ho'⟩, hB', (fun h => by cases h)⟩
  ·exact absurd rfl hiz
  ·exact absurd ho (by simp)
 case fin =>
  intro act u hB hL hsf hap hnw
  have d9 := hsf 9 _ rfl (by decide)
  obtain ⟨ysl, ha, hy⟩ := hL.puts [77, 78, 79, 80, 81, 82, 83, 84, 85, 86] (by kernel_rfl)
  obtain ⟨h9, ow⟩ := d9
  have e9 : ysl 86 = .agg #[.int .i64 s.pc, .slice (some ⟨gr, 0, none⟩) 8 cr, .slice (some ⟨gc, 0, none⟩) 5 cc, .slice (some ⟨gm, 0, none⟩) 256 cm] := (hy 86).symm.trans h9
  clear hL hsf hy hap hnw h9
  simp only [List.foldl, List.setIfInBounds_toArray, List.set_cons_succ, List.set_cons_zero, e9] at ha
  subst ha
  clear e9
  have HBa := HLb.out
  have lo5 : Lo u u00.heap.size (⟨s.pc, putR s.R d m, s.C, s.M⟩ : St) gr gc gm cr cc cm 14 d a b f n { e with d := d, v := m } := ⟨HBa.S.but hB (by simp; try omega), HBa.C.but hB (by simp; omega), HBa.E.but hB (by simp; omega), HBa.Z.but hB (by simp; omega), HBa.Y.but hB (by simp; omega), ow⟩
  have hB5 := HBt.out.trans2 hB (fun k hk => by simp at hk; simp [hk])
  clear HBt HLb HLo HS HCc HO HBa hB ow
  have hsz5 := hB5.size
  refine wpOp_gen (fun v => Lo v u00.heap.size (⟨s.pc, putR s.R d m, s.C, s.M⟩ : St) gr gc gm cr cc cm 14 d a b f n { e with d := d, v := m } ∧ But [gr, gc, gm] u00 v) ⟨lo5, hB5⟩ ?_
  clear lo5 hB5 hsz5
  clear u
  rintro v6 ⟨lo, hB⟩
  have HLo := Lib.hid lo
  have HBt := Lib.hid hB
  have hsz := hB.size
  obtain ⟨⟨g1, s0, s1, s2, s3, S0, S1, S2, S3⟩, ⟨i0, i1, i2, i3, i4, i5⟩, ⟨g5, e0, e1, e2, e3, e4, e5, e6, E0, E1, E2, E3, E4, E5, E6⟩, g6, g7, g8⟩ := lo
  clear hB g1 g5 g6 g7 g8
  refine wpOp_step rfl (fun K hK => ?_)
  go_simp
  refine hK _ _ ?_
  go_wp2_with (go_at_call 110; refine (spec_l1Wrap _ _).mono ?_; rintro e' w' ⟨rfl, rfl⟩)
  refine wp_gen (fun v => Lo v u00.heap.size (⟨nx s, putR s.R d m, s.C, s.M⟩ : St) gr gc gm cr cc cm 14 d a b f n { e with d := d, v := m } ∧ But [gr, gc, gm] u00 v) ⟨⟨?_, ?_, ?_, ?_, ?_, ?_⟩, ?_⟩ ?_
  ·have q1 := HLo.out.S
   exact (q1.set _ _ _ _).set0 _
  ·have q1 := HLo.out.C
   (repeat with_reducible first | assumption | exact Box.new6 _ _ _ _ _ _ _ _ _ (by first | rfl | simp | (simp; omega)) | refine Box.alloc ?_ _ | refine Box.drew ?_ | refine Box.drewN ?_ _ | refine Box.other ?_ _ _ _ (by omega))
  ·have q1 := HLo.out.E
   (repeat with_reducible first | assumption | exact Box7.new _ _ _ _ (by first | rfl | simp | (simp; omega)) | exact Box7.newv _ _ _ _ _ _ _ _ _ _ (by first | rfl | simp | (simp; omega)) | refine Box7.alloc ?_ _ | refine Box7.drew ?_ | refine Box7.drewN ?_ _ | refine Box7.other ?_ _ _ _ (by omega))
  ·have q1 := HLo.out.Z
   (repeat with_reducible first | assumption | exact Box4.new _ _ _ _ _ _ _ (by first | rfl | simp | (simp; omega)) | refine Box4.alloc ?_ _ | refine Box4.drew ?_ | refine Box4.drewN ?_ _ | refine Box4.other ?_ _ _ _ (by omega))
  ·have q1 := HLo.out.Y
   (repeat with_reducible first | assumption | exact Box7.new _ _ _ _ (by first | rfl | simp | (simp; omega)) | exact Box7.newv _ _ _ _ _ _ _ _ _ _ (by first | rfl | simp | (simp; omega)) | refine Box7.alloc ?_ _ | refine Box7.drew ?_ | refine Box7.drewN ?_ _ | refine Box7.other ?_ _ _ _ (by omega))
  ·have q1 := HLo.out.O
   (repeat with_reducible first | refine Own.alloc ?_ _ | refine Own.drew ?_ | refine Own.drewN ?_ _ | refine Own.other ?_ _ _ _ (by omega) (by omega) (by omega))
   exact q1.pc (nx s)
  ·have hB := HBt.out
   (repeat with_reducible first | exact But.refl _ _ | assumption | refine But.alloc ?_ _ | refine But.drew ?_ | refine But.drewN ?_ _ | refine But.set ?_ _ _ _ (by first | (left; simp; done) | (right; simp; done) | (right; omega) | (right; simp; omega)))
  clear s0 s1 s2 s3 S0 S1 S2 S3 i0 i1 i2 i3 i4 i5 e0 e1 e2 e3 e4 e5 e6 E0 E1 E2 E3 E4 E5 E6 hsz
  clear HLo HBt
  clear v6
  rintro v0 ⟨lo, hB⟩
  have HLo := Lib.hid lo
  have HBt := Lib.hid hB
  have hsz := hB.size
  obtain ⟨⟨g1, s0, s1, s2, s3, S0, S1, S2, S3⟩, ⟨i0, i1, i2, i3, i4, i5⟩, ⟨g5, e0, e1, e2, e3, e4, e5, e6, E0, E1, E2, E3, E4, E5, E6⟩, g6, g7, g8⟩ := lo
  clear hB g1 g5 g6 g7 g8
  have HS := Lib.hid HLo.out.S
  have HE := Lib.hid HLo.out.E
  have HZ := Lib.hid HLo.out.Z
  have HY := Lib.hid HLo.out.Y
  have HO := Lib.hid HLo.out.O
  clear s0 s1 s2 s3 S0 S1 S2 S3 i0 i1 i2 i3 i4 i5 e0 e1 e2 e3 e4 e5 e6 E0 E1 E2 E3 E4 E5 E6 hsz
  clear HLo
  refine wp_region_rows 94 3 [u00.heap.size + 3] (fun i => if i = 2 then [u00.heap.size + 3] else []) lb1_in (fun i => false) (fun i v u => match i with | 0 => v = .agg #[.int .i64 (nx s), .slice (some ⟨gr, 0, none⟩) 8 cr, .slice (some ⟨gc, 0, none⟩) 5 cc, .slice (some ⟨gm, 0, none⟩) 256 cm] | 1 => v = .agg #[.int .i64 ({ e with d := d, v := m }).pc, .int .i64 ({ e with d := d, v := m }).w, .int .i64 ({ e with d := d, v := m }).why, .int .i64 ({ e with d := d, v := m }).d, .int .i64 ({ e with d := d, v := m }).v, .int .i64 ({ e with d := d, v := m }).ad, .int .i64 ({ e with d := d, v := m }).dt] | 2 => v = undef ∧ Box4 u (u00.heap.size + 3) (.int .i64 (nx s)) (.slice (some ⟨gr, 0, none⟩) 8 cr) (.slice (some ⟨gc, 0, none⟩) 5 cc) (.slice (some ⟨gm, 0, none⟩) 256 cm) | _ => True) ?mono (by kernel_rfl) (by kernel_rfl) rfl (by kernel_rfl) (by kernel_rfl) (by decide) ?step ?fin
  case mono =>
   intro i j v u u' hi hij hdj hsz h hB
   rcases j with _ | _ | _ | j
   ·exact h
   ·exact h
   ·refine ⟨h.1, ?_⟩
    have hB' : But [] u u' := hB.mono (fun k hk _ => lb1_out i hij k hk)
    exact h.2.but hB' (by simp)
   ·trivial
  case step =>
   intro i o ho hiz
   rcases i with _ | _ | _ | _ | i
   ·clear hiz
    cases ho
    intro act u hB hL hdep hap hnw
    replace hB := hB [u00.heap.size + 3] (fun j _ k hk => lb1_in j k hk)
    have x3 := out_val hL (k := 3) (by kernel_rfl) rfl rfl
    clear hdep hL hap hnw
    have Bx := HS.out.but hB (by simp; try omega)
    obtain ⟨lt, c0, c1, c2, c3, _, _, _, _⟩ := Bx
    refine wpOp_step rfl (fun K hK => ?_)
    go_simp
    exact hK _ _ ⟨_, rfl, (fun h => by cases h), rfl, But.refl _ _, (fun h => by cases h)⟩
   ·clear hiz
    cases ho
    intro act u hB hL hdep hap hnw
    replace hB := hB [u00.heap.size + 3] (fun j _ k hk => lb1_in j k hk)
    have x5 := out_val hL (k := 5) (by kernel_rfl) rfl rfl
    clear hdep hL hap hnw
    have Bx := HE.out.but hB (by simp; try omega)
    obtain ⟨lt, c0, c1, c2, c3, c4, c5, c6, _, _, _, _, _, _, _⟩ := Bx
    refine wpOp_step rfl (fun K hK => ?_)
    go_simp
    exact hK _ _ ⟨_, rfl, (fun h => by cases h), rfl, But.refl _ _, (fun h => by cases h)⟩
   ·clear hiz
    cases ho
    intro act u hB hL hdep hap hnw
    replace hB := hB [] lb1_out
    have e0 : act.tmps.getD 92 undef = _ := hdep { on := 0, ground := .data } (by simp) rfl _ rfl
    have x6 := out_val hL (k := 6) (by kernel_rfl) rfl rfl
    clear hdep hL hap hnw
    have Bz0 := HZ.out.but hB (by simp; try omega)
    have Bz1 := Bz0
    obtain ⟨lt, c0, c1, c2, c3, f0, f1, f2, f3⟩ := Bz1
    refine wpOp_step rfl (fun K hK => ?_)
    go_simp
    exact hK _ _ ⟨undef, rfl, (fun _ => rfl), ⟨rfl, Bz0.set (.int .i64 (nx s)) (.slice (some ⟨gr, 0, none⟩) 8 cr) (.slice (some ⟨gc, 0, none⟩) 5 cc) (.slice (some ⟨gm, 0, none⟩) 256 cm)⟩, (But.refl _ _).set4 (u00.heap.size + 3) _ _ _ _ (.inl (by simp)), (fun h => by cases h)⟩
   ·exact absurd rfl hiz
   ·exact absurd ho (by simp)
  case fin =>
   intro act u hB hL hsf hap hnw
   have d1 := hsf 1 _ rfl (by decide)
   have d2 := hsf 2 _ rfl (by decide)
   obtain ⟨ysl, ha, hy⟩ := hL.puts [92, 93] (by kernel_rfl)
   have e1 : ysl 93 = _ := (hy 93).symm.trans d1
   obtain ⟨h2, Bz⟩ := d2
   clear hL hsf hy hap hnw d1
   simp only [List.foldl, List.setIfInBounds_toArray, List.set_cons_succ, List.set_cons_zero, e1] at ha
   subst ha
   clear e1
   have ow1 : Own u gr gc gm (⟨nx s, putR s.R d m, s.C, s.M⟩ : St) := HO.out.but hB (by simp; omega) (by simp; omega) (by simp; omega)
   have Bz1 := Bz
   obtain ⟨_, z0, z1, z2, z3, _, _, _, _⟩ := Bz1
   have By := HY.out.but hB (by simp; try omega)
   have By1 := By
   obtain ⟨yl, y0, y1, y2, y3, y4, y5, y6, x0, x1, x2, x3, x4, x5, x6⟩ := By1
   have hB2 : But [gr, gc, gm] u00 u := HBt.out.trans2 hB (fun k hk => by simp at hk ⊢; omega)
   refine wpOp_step rfl (fun K hK => ?_)
   go_simp
   refine hK _ _ ?_
   refine wp_seq_gen (fun t => Own t gr gc gm (⟨nx s, putR s.R d m, s.C, s.M⟩ : St) ∧ Box4 t (u00.heap.size + 3) (.int .i64 (nx s)) (.slice (some ⟨gr, 0, none⟩) 8 cr) (.slice (some ⟨gc, 0, none⟩) 5 cc) (.slice (some ⟨gm, 0, none⟩) 256 cm) ∧ Box7 t (u00.heap.size + 4) ({ e with d := d, v := m }) ∧ But [gr, gc, gm] u00 t) ⟨?_, ?_, ?_, ?_⟩ ?_
   ·(repeat with_reducible first | refine Own.alloc ?_ _ | refine Own.drew ?_ | refine Own.drewN ?_ _ | refine Own.other ?_ _ _ _ (by omega) (by omega) (by omega))
    exact ow1
   ·(repeat with_reducible first | assumption | exact Box4.new _ _ _ _ _ _ _ (by first | rfl | simp | (simp; omega)) | refine Box4.alloc ?_ _ | refine Box4.drew ?_ | refine Box4.drewN ?_ _ | refine Box4.other ?_ _ _ _ (by omega))
   ·exact ((((((By.set0 _).set1 _).set2 _).set3 _).set4 _).set5 _).set6 _
   ·(repeat with_reducible first | exact But.refl _ _ | assumption | refine But.alloc ?_ _ | refine But.drew ?_ | refine But.drewN ?_ _ | refine But.set ?_ _ _ _ (by first | (left; simp; done) | (right; simp; done) | (right; omega) | (right; simp; omega)))
   clear z0 z1 z2 z3 y0 y1 y2 y3 y4 y5 y6 x0 x1 x2 x3 x4 x5 x6 By Bz ow1 hB2 hB yl
   rintro t ⟨ow2, bz, by', hB2⟩
   obtain ⟨_, z0, z1, z2, z3, _, _, _, _⟩ := bz
   obtain ⟨_, y0, y1, y2, y3, y4, y5, y6, _, _, _, _, _, _, _⟩ := by'
   go_wp2
   refine bodyPost_ret (v := .tuple #[.agg #[.int .i64 (nx s), .slice (some ⟨gr, 0, none⟩) 8 cr, .slice (some ⟨gc, 0, none⟩) 5 cc, .slice (some ⟨gm, 0, none⟩) 256 cm], .agg #[.int .i64 ({ e with d := d, v := m }).pc, .int .i64 ({ e with d := d, v := m }).w, .int .i64 ({ e with d := d, v := m }).why, .int .i64 ({ e with d := d, v := m }).d, .int .i64 ({ e with d := d, v := m }).v, .int .i64 ({ e with d := d, v := m }).ad, .int .i64 ({ e with d := d, v := m }).dt]]) (by simp [results, Tryd.results87, go_sem, z0, z1, z2, z3, y0, y1, y2, y3, y4, y5, y6]) rfl ?_
   first | exact ⟨rfl, ow2, hB2⟩ | exact ⟨rfl, (by rw [List.set_set] at ow2; exact ow2), hB2⟩
set_option maxRecDepth 8000 in
set_option maxHeartbeats 4000000 in
theorem spec_Own_153 (s : St) (e : Ev) (gr gc gm cr cc cm : Nat) (d a b f n : Int) (u00 : World) (ho : Own u00 gr gc gm s) (hk : OkS s) (hi : iok 15 d a b f n = true)  (hu : s.C.getD 3 0 % 2 = 0) (hf3 : f = 3) :
  Calls Tryd.prog 87 #[.agg #[.int .i64 s.pc, .slice (some ⟨gr, 0, none⟩) 8 cr, .slice (some ⟨gc, 0, none⟩) 5 cc, .slice (some ⟨gm, 0, none⟩) 256 cm], .agg #[.int .i64 15, .int .i64 d, .int .i64 a, .int .i64 b, .int .i64 f, .int .i64 n], .agg #[.int .i64 (e).pc, .int .i64 (e).w, .int .i64 (e).why, .int .i64 (e).d, .int .i64 (e).v, .int .i64 (e).ad, .int .i64 (e).dt]] u00 (MP ⟨nx s, s.R, setF s f (rg s a), s.M⟩ e gr gc gm cr cc cm u00) := by
 obtain ⟨⟨d0, d1⟩, ⟨a0, a1⟩, ⟨b0, b1⟩, ⟨f0, f1⟩, n0, n1⟩ := sok_bd (sok_of hi)
 have lr := ho.R.lt
 have lc := ho.C.lt
 have lm := ho.M.lt
 have HO0 := Lib.hid ho
 have HCl := Lib.hid hk.Cl
 have HRL := Lib.hid hk.Rl
 have HC3 := Lib.hid (And.intro (ok_get hk.C 3).1 hk.c3)
 have c3b := ok_get hk.C 3
 have hc4 := hk.c3
 have pb := okB_true hk.pc
 have a8 : a < 8 := by omega
 have HRl := Lib.hid (show a.toNat < s.R.length by have := hk.Rl; omega)
 obtain ⟨x, hx⟩ : ∃ x, x = rg s a := ⟨_, rfl⟩
 have xb : 0 ≤ x ∧ x < 65536 := by rw [hx]; exact okB_true (rg_ok hk a)
 have HX := Lib.hid (show s.R.getD a.toNat 0 = x from hx.symm)
 obtain ⟨t3, h3⟩ : ∃ t, t = s.C.getD 3 0 := ⟨_, rfl⟩
 obtain ⟨t0, h0⟩ : ∃ t, t = s.C.getD 0 0 := ⟨_, rfl⟩
 have H3 := Lib.hid h3.symm
 have H0 := Lib.hid h0.symm
 rw [← h3] at c3b hc4
 have hff := (iok_f hi).2
 have htf : topF 15 ≤ 4 := by decide
 have f5 : f < 5 := by omega
 clear htf
 have hp : t3 % 2 = 0 := by rw [h3]; exact hu
 rw [← hx]
 subst hf3
 have HSF := Lib.hid (show setF s 3 x = (s.C.set 3 x).set 3 (x % 4 / 2 * 2) by rw [List.set_set]; rfl)
 rw [HSF.out]
 clear hx h3 h0 hi hk hff hu
 have k3 := ho.C.cel 3 (by rw [HCl.out]; decide)
 have k0 := ho.C.cel 0 (by rw [HCl.out]; decide)
 rw [H3.out] at k3
 rw [H0.out] at k0
 clear ho
 have l1 : gc < u00.heap.size + 1 := by omega
 have l2 : gc < u00.heap.size + 1 + 1 := by omega
 have l3 : gc < u00.heap.size + 1 + 1 + 1 := by omega
 have l4 : gc < u00.heap.size + 1 + 1 + 1 + 1 := by omega
 have m2 : gc < u00.heap.size + 2 := by omega
 have m3 : gc < u00.heap.size + 3 := by omega
 have m4 : gc < u00.heap.size + 4 := by omega
 go_enter Tryd.func87, Tryd.ntmps87
 go_wp2_with fail
 refine wp_gen (fun v => Lo v u00.heap.size s gr gc gm cr cc cm 15 d a b 3 n e ∧ But [gr, gc, gm] u00 v) ⟨⟨?_, ?_, ?_, ?_, ?_, ?_⟩, ?_⟩ ?_
 ·(repeat with_reducible first | assumption | exact Box4.new _ _ _ _ _ _ _ (by first | rfl | simp | (simp; omega)) | refine Box4.alloc ?_ _ | refine Box4.drew ?_ | refine Box4.drewN ?_ _ | refine Box4.other ?_ _ _ _ (by omega))
 ·(repeat with_reducible first | assumption | exact Box.new6 _ _ _ _ _ _ _ _ _ (by first | rfl | simp | (simp; omega)) | refine Box.alloc ?_ _ | refine Box.drew ?_ | refine Box.drewN ?_ _ | refine Box.other ?_ _ _ _ (by omega))
 ·(repeat with_reducible first | assumption | exact Box7.new _ _ _ _ (by first | rfl | simp | (simp; omega)) | exact Box7.newv _ _ _ _ _ _ _ _ _ _ (by first | rfl | simp | (simp; omega)) | refine Box7.alloc ?_ _ | refine Box7.drew ?_ | refine Box7.drewN ?_ _ | refine Box7.other ?_ _ _ _ (by omega))
 ·(repeat with_reducible first | assumption | exact Box4.new _ _ _ _ _ _ _ (by first | rfl | simp | (simp; omega)) | refine Box4.alloc ?_ _ | refine Box4.drew ?_ | refine Box4.drewN ?_ _ | refine Box4.other ?_ _ _ _ (by omega))
 ·(repeat with_reducible first | assumption | exact Box7.new _ _ _ _ (by first | rfl | simp | (simp; omega)) | exact Box7.newv _ _ _ _ _ _ _ _ _ _ (by first | rfl | simp | (simp; omega)) | refine Box7.alloc ?_ _ | refine Box7.drew ?_ | refine Box7.drewN ?_ _ | refine Box7.other ?_ _ _ _ (by omega))
 ·(repeat with_reducible first | refine Own.alloc ?_ _ | refine Own.drew ?_ | refine Own.drewN ?_ _ | refine Own.other ?_ _ _ _ (by omega) (by omega) (by omega))
  exact HO0.out
 ·(repeat with_reducible first | exact But.refl _ _ | assumption | refine But.alloc ?_ _ | refine But.drew ?_ | refine But.drewN ?_ _ | refine But.set ?_ _ _ _ (by first | (left; simp; done) | (right; simp; done) | (right; omega) | (right; simp; omega)))
 simp only [Nat.add_assoc, Nat.reduceAdd]
 clear k3 k0 hp
 rintro v ⟨lo, hB⟩
 have HLo := Lib.hid lo
 have HBt := Lib.hid hB
 have hsz := hB.size
 have ca := lo.O.R.cel a.toNat HRl.out
 rw [HX.out] at ca
 have k3 := lo.O.C.cel 3 (by rw [HCl.out]; decide)
 have K3 := lo.O.C.fro 3 (by rw [HCl.out]; decide)
 have k0 := lo.O.C.cel 0 (by rw [HCl.out]; decide)
 rw [H3.out] at k3
 rw [H0.out] at k0
 have kf := lo.O.C.cel 3 (by rw [HCl.out]; omega)
 have Kf := lo.O.C.fro 3 (by rw [HCl.out]; omega)
 obtain ⟨⟨g1, s0, s1, s2, s3, S0, S1, S2, S3⟩, ⟨i0, i1, i2, i3, i4, i5⟩, ⟨g5, e0, e1, e2, e3, e4, e5, e6, E0, E1, E2, E3, E4, E5, E6⟩, g6, g7, g8⟩ := lo
 clear hB g1 g5 g6 g7 g8
 go_still_tail 10, (by kernel_rfl)
 change wpList _ _ _ _ _ v.drew
 refine wpList_gen (fun v => Lo v u00.heap.size s gr gc gm cr cc cm 15 d a b 3 n e ∧ But [gr, gc, gm] u00 v) ⟨?_, ?_⟩ ?_
 ·obtain ⟨q1, q2, q3, q4, q5, q6⟩ := HLo.out
  exact ⟨q1.drew, q2.drew, q3.drew, q4.drew, q5.drew, q6.drew⟩
 ·exact HBt.out.drew
 clear s0 s1 s2 s3 S0 S1 S2 S3 i0 i1 i2 i3 i4 i5 e0 e1 e2 e3 e4 e5 e6 E0 E1 E2 E3 E4 E5 E6 ca k3 K3 k0 kf Kf hsz
 clear HLo HBt
 clear v
 rintro v1 ⟨lo, hB⟩
 have HLo := Lib.hid lo
 have HBt := Lib.hid hB
 have hsz := hB.size
 have ca := lo.O.R.cel a.toNat HRl.out
 rw [HX.out] at ca
 have k3 := lo.O.C.cel 3 (by rw [HCl.out]; decide)
 have K3 := lo.O.C.fro 3 (by rw [HCl.out]; decide)
 have k0 := lo.O.C.cel 0 (by rw [HCl.out]; decide)
 rw [H3.out] at k3
 rw [H0.out] at k0
 have kf := lo.O.C.cel 3 (by rw [HCl.out]; omega)
 have Kf := lo.O.C.fro 3 (by rw [HCl.out]; omega)
 obtain ⟨⟨g1, s0, s1, s2, s3, S0, S1, S2, S3⟩, ⟨i0, i1, i2, i3, i4, i5⟩, ⟨g5, e0, e1, e2, e3, e4, e5, e6, E0, E1, E2, E3, E4, E5, E6⟩, g6, g7, g8⟩ := lo
 clear hB g1 g5 g6 g7 g8
 have z1 : ¬ gc = u00.heap.size := by omega
 have z2 : ¬ u00.heap.size = gc := by omega
 have z3 : ¬ gc = u00.heap.size + 1 := by omega
 have z4 : ¬ u00.heap.size + 1 = gc := by omega
 have z5 : ¬ gc = u00.heap.size + 2 := by omega
 have z6 : ¬ u00.heap.size + 2 = gc := by omega
 go_wp2_with fail
 refine wp_gen (fun v => Lo v u00.heap.size (⟨s.pc, s.R, s.C.set 3 x, s.M⟩ : St) gr gc gm cr cc cm 15 d a b 3 n e ∧ But [gr, gc, gm] u00 v) ⟨⟨?_, ?_, ?_, ?_, ?_, ?_⟩, ?_⟩ ?_
 ·have q1 := HLo.out.S
  (repeat with_reducible first | assumption | exact Box4.new _ _ _ _ _ _ _ (by first | rfl | simp | (simp; omega)) | refine Box4.alloc ?_ _ | refine Box4.drew ?_ | refine Box4.drewN ?_ _ | refine Box4.other ?_ _ _ _ (by omega))
 ·have q1 := HLo.out.C
  (repeat with_reducible first | assumption | exact Box.new6 _ _ _ _ _ _ _ _ _ (by first | rfl | simp | (simp; omega)) | refine Box.alloc ?_ _ | refine Box.drew ?_ | refine Box.drewN ?_ _ | refine Box.other ?_ _ _ _ (by omega))
 ·have q1 := HLo.out.E
  (repeat with_reducible first | assumption | exact Box7.new _ _ _ _ (by first | rfl | simp | (simp; omega)) | exact Box7.newv _ _ _ _ _ _ _ _ _ _ (by first | rfl | simp | (simp; omega)) | refine Box7.alloc ?_ _ | refine Box7.drew ?_ | refine Box7.drewN ?_ _ | refine Box7.other ?_ _ _ _ (by omega))
 ·have q1 := HLo.out.Z
  (repeat with_reducible first | assumption | exact Box4.new _ _ _ _ _ _ _ (by first | rfl | simp | (simp; omega)) | refine Box4.alloc ?_ _ | refine Box4.drew ?_ | refine Box4.drewN ?_ _ | refine Box4.other ?_ _ _ _ (by omega))
 ·have q1 := HLo.out.Y
  (repeat with_reducible first | assumption | exact Box7.new _ _ _ _ (by first | rfl | simp | (simp; omega)) | exact Box7.newv _ _ _ _ _ _ _ _ _ _ (by first | rfl | simp | (simp; omega)) | refine Box7.alloc ?_ _ | refine Box7.drew ?_ | refine Box7.drewN ?_ _ | refine Box7.other ?_ _ _ _ (by omega))
 ·have q1 := HLo.out.O
  (repeat with_reducible first | refine Own.alloc ?_ _ | refine Own.drew ?_ | refine Own.drewN ?_ _ | refine Own.other ?_ _ _ _ (by omega) (by omega) (by omega))
  exact q1.setC 3 x (by rw [HCl.out]; decide) s.pc
 ·have hB := HBt.out
  (repeat with_reducible first | exact But.refl _ _ | assumption | refine But.alloc ?_ _ | refine But.drew ?_ | refine But.drewN ?_ _ | refine But.set ?_ _ _ _ (by first | (left; simp; done) | (right; simp; done) | (right; omega) | (right; simp; omega)))
 clear s0 s1 s2 s3 S0 S1 S2 S3 i0 i1 i2 i3 i4 i5 e0 e1 e2 e3 e4 e5 e6 E0 E1 E2 E3 E4 E5 E6 ca k3 K3 k0 kf Kf hsz
 clear HLo HBt z1 z2 z3 z4 z5 z6
 clear v1
 rintro v2 ⟨lo, hB⟩
 have HLo := Lib.hid lo
 have HBt := Lib.hid hB
 have hsz := hB.size
 have ca := lo.O.R.cel a.toNat HRl.out
 rw [HX.out] at ca
 have kf := lo.O.C.cel 3 (by simp [HCl.out])
 have Kf := lo.O.C.fro 3 (by simp [HCl.out])
 generalize (s.C.set 3 x).getD 3 0 = ox at kf
 obtain ⟨⟨g1, s0, s1, s2, s3, S0, S1, S2, S3⟩, ⟨i0, i1, i2, i3, i4, i5⟩, ⟨g5, e0, e1, e2, e3, e4, e5, e6, E0, E1, E2, E3, E4, E5, E6⟩, g6, g7, g8⟩ := lo
 clear hB g1 g5 g6 g7 g8
 go_still_tail 13, (by kernel_rfl)
 change wpList _ _ _ _ _ v2.drew
 refine wpList_gen (fun v => Lo v u00.heap.size (⟨s.pc, s.R, s.C.set 3 x, s.M⟩ : St) gr gc gm cr cc cm 15 d a b 3 n e ∧ But [gr, gc, gm] u00 v) ⟨?_, ?_⟩ ?_
 ·obtain ⟨q1, q2, q3, q4, q5, q6⟩ := HLo.out
  exact ⟨q1.drew, q2.drew, q3.drew, q4.drew, q5.drew, q6.drew⟩
 ·exact HBt.out.drew
 clear s0 s1 s2 s3 S0 S1 S2 S3 i0 i1 i2 i3 i4 i5 e0 e1 e2 e3 e4 e5 e6 E0 E1 E2 E3 E4 E5 E6 ca kf Kf hsz
 clear HLo HBt
 clear v2
 rintro v3 ⟨lo, hB⟩
 have HLo := Lib.hid lo
 have HBt := Lib.hid hB
 have hsz := hB.size
 have ca := lo.O.R.cel a.toNat HRl.out
 rw [HX.out] at ca
 have kf := lo.O.C.cel 3 (by simp [HCl.out])
 have Kf := lo.O.C.fro 3 (by simp [HCl.out])
 generalize (s.C.set 3 x).getD 3 0 = oy at kf
 obtain ⟨⟨g1, s0, s1, s2, s3, S0, S1, S2, S3⟩, ⟨i0, i1, i2, i3, i4, i5⟩, ⟨g5, e0, e1, e2, e3, e4, e5, e6, E0, E1, E2, E3, E4, E5, E6⟩, g6, g7, g8⟩ := lo
 clear hB g1 g5 g6 g7 g8
 have z1 : ¬ gc = u00.heap.size := by omega
 have z2 : ¬ u00.heap.size = gc := by omega
 have z3 : ¬ gc = u00.heap.size + 1 := by omega
 have z4 : ¬ u00.heap.size + 1 = gc := by omega
 have z5 : ¬ gc = u00.heap.size + 2 := by omega
 have z6 : ¬ u00.heap.size + 2 = gc := by omega
 go_wp2_with (go_at_call 110; refine (spec_l1Wrap _ _).mono ?_; rintro e' w' ⟨rfl, rfl⟩)
 refine wp_gen (fun v => Lo v u00.heap.size (⟨nx s, s.R, (s.C.set 3 x).set 3 (x % 4 / 2 * 2), s.M⟩ : St) gr gc gm cr cc cm 15 d a b 3 n e ∧ But [gr, gc, gm] u00 v) ⟨⟨?_, ?_, ?_, ?_, ?_, ?_⟩, ?_⟩ ?_
 ·have q1 := HLo.out.S
  have q2 := q1.other gc 3 (.int .i64 (x % 4 / 2 * 2)) (by omega)
  exact q2.set0 _
 ·have q1 := HLo.out.C
  (repeat with_reducible first | assumption | exact Box.new6 _ _ _ _ _ _ _ _ _ (by first | rfl | simp | (simp; omega)) | refine Box.alloc ?_ _ | refine Box.drew ?_ | refine Box.drewN ?_ _ | refine Box.other ?_ _ _ _ (by omega))
 ·have q1 := HLo.out.E
  (repeat with_reducible first | assumption | exact Box7.new _ _ _ _ (by first | rfl | simp | (simp; omega)) | exact Box7.newv _ _ _ _ _ _ _ _ _ _ (by first | rfl | simp | (simp; omega)) | refine Box7.alloc ?_ _ | refine Box7.drew ?_ | refine Box7.drewN ?_ _ | refine Box7.other ?_ _ _ _ (by omega))
 ·have q1 := HLo.out.Z
  (repeat with_reducible first | assumption | exact Box4.new _ _ _ _ _ _ _ (by first | rfl | simp | (simp; omega)) | refine Box4.alloc ?_ _ | refine Box4.drew ?_ | refine Box4.drewN ?_ _ | refine Box4.other ?_ _ _ _ (by omega))
 ·have q1 := HLo.out.Y
  (repeat with_reducible first | assumption | exact Box7.new _ _ _ _ (by first | rfl | simp | (simp; omega)) | exact Box7.newv _ _ _ _ _ _ _ _ _ _ (by first | rfl | simp | (simp; omega)) | refine Box7.alloc ?_ _ | refine Box7.drew ?_ | refine Box7.drewN ?_ _ | refine Box7.other ?_ _ _ _ (by omega))
 ·have q1 := HLo.out.O
  (repeat with_reducible first | refine Own.alloc ?_ _ | refine Own.drew ?_ | refine Own.drewN ?_ _ | refine Own.other ?_ _ _ _ (by omega) (by omega) (by omega))
  exact q1.setC 3 (x % 4 / 2 * 2) (by simp [HCl.out]) (nx s)
 ·have hB := HBt.out
  (repeat with_reducible first | exact But.refl _ _ | assumption | refine But.alloc ?_ _ | refine But.drew ?_ | refine But.drewN ?_ _ | refine But.set ?_ _ _ _ (by first | (left; simp; done) | (right; simp; done) | (right; omega) | (right; simp; omega)))
 clear s0 s1 s2 s3 S0 S1 S2 S3 i0 i1 i2 i3 i4 i5 e0 e1 e2 e3 e4 e5 e6 E0 E1 E2 E3 E4 E5 E6 ca kf Kf hsz
 clear HLo HBt z1 z2 z3 z4 z5 z6
 clear v3
 rintro v0 ⟨lo, hB⟩
 have HLo := Lib.hid lo
 have HBt := Lib.hid hB
 have hsz := hB.size
 obtain ⟨⟨g1, s0, s1, s2, s3, S0, S1, S2, S3⟩, ⟨i0, i1, i2, i3, i4, i5⟩, ⟨g5, e0, e1, e2, e3, e4, e5, e6, E0, E1, E2, E3, E4, E5, E6⟩, g6, g7, g8⟩ := lo
 clear hB g1 g5 g6 g7 g8
 have HS := Lib.hid HLo.out.S
 have HE := Lib.hid HLo.out.E
 have HZ := Lib.hid HLo.out.Z
 have HY := Lib.hid HLo.out.Y
 have HO := Lib.hid HLo.out.O
 clear s0 s1 s2 s3 S0 S1 S2 S3 i0 i1 i2 i3 i4 i5 e0 e1 e2 e3 e4 e5 e6 E0 E1 E2 E3 E4 E5 E6 hsz
 clear HLo
 refine wp_region_rows 94 3 [u00.heap.size + 3] (fun i => if i = 2 then [u00.heap.size + 3] else []) lb1_in (fun i => false) (fun i v u => match i with | 0 => v = .agg #[.int .i64 (nx s), .slice (some ⟨gr, 0, none⟩) 8 cr, .slice (some ⟨gc, 0, none⟩) 5 cc, .slice (some ⟨gm, 0, none⟩) 256 cm] | 1 => v = .agg #[.int .i64 (e).pc, .int .i64 (e).w, .int .i64 (e).why, .int .i64 (e).d, .int .i64 (e).v, .int .i64 (e).ad, .int .i64 (e).dt] | 2 => v = undef ∧ Box4 u (u00.heap.size + 3) (.int .i64 (nx s)) (.slice (some ⟨gr, 0, none⟩) 8 cr) (.slice (some ⟨gc, 0, none⟩) 5 cc) (.slice (some ⟨gm, 0, none⟩) 256 cm) | _ => True) ?mono (by kernel_rfl) (by kernel_rfl) rfl (by kernel_rfl) (by kernel_rfl) (by decide) ?step ?fin
 case mono =>
  intro i j v u u' hi hij hdj hsz h hB
  rcases j with _ | _ | _ | j
  ·exact h
  ·exact h
  ·refine ⟨h.1, ?_⟩
   have hB' : But [] u u' := hB.mono (fun k hk _ => lb1_out i hij k hk)
   exact h.2.but hB' (by simp)
  ·trivial
 case step =>
  intro i o ho hiz
  rcases i with _ | _ | _ | _ | i
  ·clear hiz
   cases ho
   intro act u hB hL hdep hap hnw
   replace hB := hB [u00.heap.size + 3] (fun j _ k hk => lb1_in j k hk)
   have x3 := out_val hL (k := 3) (by kernel_rfl) rfl rfl
   clear hdep hL hap hnw
   have Bx := HS.out.but hB (by simp; try omega)
   obtain ⟨lt, c0, c1, c2, c3, _, _, _, _⟩ := Bx
   refine wpOp_step rfl (fun K hK => ?_)
   go_simp
   exact hK _ _ ⟨_, rfl, (fun h => by cases h), rfl, But.refl _ _, (fun h => by cases h)⟩
  ·clear hiz
   cases ho
   intro act u hB hL hdep hap hnw
   replace hB := hB [u00.heap.size + 3] (fun j _ k hk => lb1_in j k hk)
   have x5 := out_val hL (k := 5) (by kernel_rfl) rfl rfl
   clear hdep hL hap hnw
   have Bx := HE.out.but hB (by simp; try omega)
   obtain ⟨lt, c0, c1, c2, c3, c4, c5, c6, _, _, _, _, _, _, _⟩ := Bx
   refine wpOp_step rfl (fun K hK => ?_)
   go_simp
   exact hK _ _ ⟨_, rfl, (fun h => by cases h), rfl, But.refl _ _, (fun h => by cases h)⟩
  ·clear hiz
   cases ho
   intro act u hB hL hdep hap hnw
   replace hB := hB [] lb1_out
   have e0 : act.tmps.getD 92 undef = _ := hdep { on := 0, ground := .data } (by simp) rfl _ rfl
   have x6 := out_val hL (k := 6) (by kernel_rfl) rfl rfl
   clear hdep hL hap hnw
   have Bz0 := HZ.out.but hB (by simp; try omega)
   have Bz1 := Bz0
   obtain ⟨lt, c0, c1, c2, c3, f0, f1, f2, f3⟩ := Bz1
   refine wpOp_step rfl (fun K hK => ?_)
   go_simp
   exact hK _ _ ⟨undef, rfl, (fun _ => rfl), ⟨rfl, Bz0.set (.int .i64 (nx s)) (.slice (some ⟨gr, 0, none⟩) 8 cr) (.slice (some ⟨gc, 0, none⟩) 5 cc) (.slice (some ⟨gm, 0, none⟩) 256 cm)⟩, (But.refl _ _).set4 (u00.heap.size + 3) _ _ _ _ (.inl (by simp)), (fun h => by cases h)⟩
  ·exact absurd rfl hiz
  ·exact absurd ho (by simp)
 case fin =>
  intro act u hB hL hsf hap hnw
  have d1 := hsf 1 _ rfl (by decide)
  have d2 := hsf 2 _ rfl (by decide)
  obtain ⟨ysl, ha, hy⟩ := hL.puts [92, 93] (by kernel_rfl)
  have e1 : ysl 93 = _ := (hy 93).symm.trans d1
  obtain ⟨h2, Bz⟩ := d2
  clear hL hsf hy hap hnw d1
  simp only [List.foldl, List.setIfInBounds_toArray, List.set_cons_succ, List.set_cons_zero, e1] at ha
  subst ha
  clear e1
  have ow1 : Own u gr gc gm (⟨nx s, s.R, (s.C.set 3 x).set 3 (x % 4 / 2 * 2), s.M⟩ : St) := HO.out.but hB (by simp; omega) (by simp; omega) (by simp; omega)
  have Bz1 := Bz
  obtain ⟨_, z0, z1, z2, z3, _, _, _, _⟩ := Bz1
  have By := HY.out.but hB (by simp; try omega)
  have By1 := By
  obtain ⟨yl, y0, y1, y2, y3, y4, y5, y6, x0, x1, x2, x3, x4, x5, x6⟩ := By1
  have hB2 : But [gr, gc, gm] u00 u := HBt.out.trans2 hB (fun k hk => by simp at hk ⊢; omega)
  refine wpOp_step rfl (fun K hK => ?_)
  go_simp
  refine hK _ _ ?_
  refine wp_seq_gen (fun t => Own t gr gc gm (⟨nx s, s.R, (s.C.set 3 x).set 3 (x % 4 / 2 * 2), s.M⟩ : St) ∧ Box4 t (u00.heap.size + 3) (.int .i64 (nx s)) (.slice (some ⟨gr, 0, none⟩) 8 cr) (.slice (some ⟨gc, 0, none⟩) 5 cc) (.slice (some ⟨gm, 0, none⟩) 256 cm) ∧ Box7 t (u00.heap.size + 4) (e) ∧ But [gr, gc, gm] u00 t) ⟨?_, ?_, ?_, ?_⟩ ?_
  ·(repeat with_reducible first | refine Own.alloc ?_ _ | refine Own.drew ?_ | refine Own.drewN ?_ _ | refine Own.other ?_ _ _ _ (by omega) (by omega) (by omega))
   exact ow1
  ·(repeat with_reducible first | assumption | exact Box4.new _ _ _ _ _ _ _ (by first | rfl | simp | (simp; omega)) | refine Box4.alloc ?_ _ | refine Box4.drew ?_ | refine Box4.drewN ?_ _ | refine Box4.other ?_ _ _ _ (by omega))
  ·exact ((((((By.set0 _).set1 _).set2 _).set3 _).set4 _).set5 _).set6 _
  ·(repeat with_reducible first | exact But.refl _ _ | assumption | refine But.alloc ?_ _ | refine But.drew ?_ | refine But.drewN ?_ _ | refine But.set ?_ _ _ _ (by first | (left; simp; done) | (right; simp; done) | (right; omega) | (right; simp; omega)))
  clear z0 z1 z2 z3 y0 y1 y2 y3 y4 y5 y6 x0 x1 x2 x3 x4 x5 x6 By Bz ow1 hB2 hB yl
  rintro t ⟨ow2, bz, by', hB2⟩
  obtain ⟨_, z0, z1, z2, z3, _, _, _, _⟩ := bz
  obtain ⟨_, y0, y1, y2, y3, y4, y5, y6, _, _, _, _, _, _, _⟩ := by'
  go_wp2
  refine bodyPost_ret (v := .tuple #[.agg #[.int .i64 (nx s), .slice (some ⟨gr, 0, none⟩) 8 cr, .slice (some ⟨gc, 0, none⟩) 5 cc, .slice (some ⟨gm, 0, none⟩) 256 cm], .agg #[.int .i64 (e).pc, .int .i64 (e).w, .int .i64 (e).why, .int .i64 (e).d, .int .i64 (e).v, .int .i64 (e).ad, .int .i64 (e).dt]]) (by simp [results, Tryd.results87, go_sem, z0, z1, z2, z3, y0, y1, y2, y3, y4, y5, y6]) rfl ?_
  first | exact ⟨rfl, ow2, hB2⟩ | exact ⟨rfl, (by rw [List.set_set] at ow2; exact ow2), hB2⟩
set_option maxRecDepth 8000 in
set_option maxHeartbeats 4000000 in
theorem spec_Own_15n (s : St) (e : Ev) (gr gc gm cr cc cm : Nat) (d a b f n : Int) (u00 : World) (ho : Own u00 gr gc gm s) (hk : OkS s) (hi : iok 15 d a b f n = true)  (hu : s.C.getD 3 0 % 2 = 0) (hf3 : ¬ f = 3) :
  Calls Tryd.prog 87 #[.agg #[.int .i64 s.pc, .slice (some ⟨gr, 0, none⟩) 8 cr, .slice (some ⟨gc, 0, none⟩) 5 cc, .slice (some ⟨gm, 0, none⟩) 256 cm], .agg #[.int .i64 15, .int .i64 d, .int .i64 a, .int .i64 b, .int .i64 f, .int .i64 n], .agg #[.int .i64 (e).pc, .int .i64 (e).w, .int .i64 (e).why, .int .i64 (e).d, .int .i64 (e).v, .int .i64 (e).ad, .int .i64 (e).dt]] u00 (MP ⟨nx s, s.R, setF s f (rg s a), s.M⟩ e gr gc gm cr cc cm u00) := by
 obtain ⟨⟨d0, d1⟩, ⟨a0, a1⟩, ⟨b0, b1⟩, ⟨f0, f1⟩, n0, n1⟩ := sok_bd (sok_of hi)
 have lr := ho.R.lt
 have lc := ho.C.lt
 have lm := ho.M.lt
 have HO0 := Lib.hid ho
 have HCl := Lib.hid hk.Cl
 have HRL := Lib.hid hk.Rl
 have HC3 := Lib.hid (And.intro (ok_get hk.C 3).1 hk.c3)
 have c3b := ok_get hk.C 3
 have hc4 := hk.c3
 have pb := okB_true hk.pc
 have a8 : a < 8 := by omega
 have HRl := Lib.hid (show a.toNat < s.R.length by have := hk.Rl; omega)
 obtain ⟨x, hx⟩ : ∃ x, x = rg s a := ⟨_, rfl⟩
 have xb : 0 ≤ x ∧ x < 65536 := by rw [hx]; exact okB_true (rg_ok hk a)
 have HX := Lib.hid (show s.R.getD a.toNat 0 = x from hx.symm)
 obtain ⟨t3, h3⟩ : ∃ t, t = s.C.getD 3 0 := ⟨_, rfl⟩
 obtain ⟨t0, h0⟩ : ∃ t, t = s.C.getD 0 0 := ⟨_, rfl⟩
 have H3 := Lib.hid h3.symm
 have H0 := Lib.hid h0.symm
 rw [← h3] at c3b hc4
 have hff := (iok_f hi).2
 have htf : topF 15 ≤ 4 := by decide
 have f5 : f < 5 := by omega
 clear htf
 have hp : t3 % 2 = 0 := by rw [h3]; exact hu
 rw [← hx]
 have HSF := Lib.hid (show setF s f x = s.C.set f.toNat x by rw [setF, if_neg hf3])
 have hb3 : (f == 3) = false := by simpa using hf3
 clear hf3
 rw [HSF.out]
 clear hx h3 h0 hi hk hff hu
 have k3 := ho.C.cel 3 (by rw [HCl.out]; decide)
 have k0 := ho.C.cel 0 (by rw [HCl.out]; decide)
 rw [H3.out] at k3
 rw [H0.out] at k0
 clear ho
 have l1 : gc < u00.heap.size + 1 := by omega
 have l2 : gc < u00.heap.size + 1 + 1 := by omega
 have l3 : gc < u00.heap.size + 1 + 1 + 1 := by omega
 have l4 : gc < u00.heap.size + 1 + 1 + 1 + 1 := by omega
 have m2 : gc < u00.heap.size + 2 := by omega
 have m3 : gc < u00.heap.size + 3 := by omega
 have m4 : gc < u00.heap.size + 4 := by omega
 go_enter Tryd.func87, Tryd.ntmps87
 go_wp2_with fail
 refine wp_gen (fun v => Lo v u00.heap.size s gr gc gm cr cc cm 15 d a b f n e ∧ But [gr, gc, gm] u00 v) ⟨⟨?_, ?_, ?_, ?_, ?_, ?_⟩, ?_⟩ ?_
 ·(repeat with_reducible first | assumption | exact Box4.new _ _ _ _ _ _ _ (by first | rfl | simp | (simp; omega)) | refine Box4.alloc ?_ _ | refine Box4.drew ?_ | refine Box4.drewN ?_ _ | refine Box4.other ?_ _ _ _ (by omega))
 ·(repeat with_reducible first | assumption | exact Box.new6 _ _ _ _ _ _ _ _ _ (by first | rfl | simp | (simp; omega)) | refine Box.alloc ?_ _ | refine Box.drew ?_ | refine Box.drewN ?_ _ | refine Box.other ?_ _ _ _ (by omega))
 ·(repeat with_reducible first | assumption | exact Box7.new _ _ _ _ (by first | rfl | simp | (simp; omega)) | exact Box7.newv _ _ _ _ _ _ _ _ _ _ (by first | rfl | simp | (simp; omega)) | refine Box7.alloc ?_ _ | refine Box7.drew ?_ | refine Box7.drewN ?_ _ | refine Box7.other ?_ _ _ _ (by omega))
 ·(repeat with_reducible first | assumption | exact Box4.new _ _ _ _ _ _ _ (by first | rfl | simp | (simp; omega)) | refine Box4.alloc ?_ _ | refine Box4.drew ?_ | refine Box4.drewN ?_ _ | refine Box4.other ?_ _ _ _ (by omega))
 ·(repeat with_reducible first | assumption | exact Box7.new _ _ _ _ (by first | rfl | simp | (simp; omega)) | exact Box7.newv _ _ _ _ _ _ _ _ _ _ (by first | rfl | simp | (simp; omega)) | refine Box7.alloc ?_ _ | refine Box7.drew ?_ | refine Box7.drewN ?_ _ | refine Box7.other ?_ _ _ _ (by omega))
 ·(repeat with_reducible first | refine Own.alloc ?_ _ | refine Own.drew ?_ | refine Own.drewN ?_ _ | refine Own.other ?_ _ _ _ (by omega) (by omega) (by omega))
  exact HO0.out
 ·(repeat with_reducible first | exact But.refl _ _ | assumption | refine But.alloc ?_ _ | refine But.drew ?_ | refine But.drewN ?_ _ | refine But.set ?_ _ _ _ (by first | (left; simp; done) | (right; simp; done) | (right; omega) | (right; simp; omega)))
 simp only [Nat.add_assoc, Nat.reduceAdd]
 clear k3 k0 hp
 rintro v ⟨lo, hB⟩
 have HLo := Lib.hid lo
 have HBt := Lib.hid hB
 have hsz := hB.size
 have ca := lo.O.R.cel a.toNat HRl.out
 rw [HX.out] at ca
 have k3 := lo.O.C.cel 3 (by rw [HCl.out]; decide)
 have K3 := lo.O.C.fro 3 (by rw [HCl.out]; decide)
 have k0 := lo.O.C.cel 0 (by rw [HCl.out]; decide)
 rw [H3.out] at k3
 rw [H0.out] at k0
 have kf := lo.O.C.cel (f).toNat (by rw [HCl.out]; omega)
 have Kf := lo.O.C.fro (f).toNat (by rw [HCl.out]; omega)
 obtain ⟨⟨g1, s0, s1, s2, s3, S0, S1, S2, S3⟩, ⟨i0, i1, i2, i3, i4, i5⟩, ⟨g5, e0, e1, e2, e3, e4, e5, e6, E0, E1, E2, E3, E4, E5, E6⟩, g6, g7, g8⟩ := lo
 clear hB g1 g5 g6 g7 g8
 go_still_tail 10, (by kernel_rfl)
 change wpList _ _ _ _ _ v.drew
 refine wpList_gen (fun v => Lo v u00.heap.size s gr gc gm cr cc cm 15 d a b f n e ∧ But [gr, gc, gm] u00 v) ⟨?_, ?_⟩ ?_
 ·obtain ⟨q1, q2, q3, q4, q5, q6⟩ := HLo.out
  exact ⟨q1.drew, q2.drew, q3.drew, q4.drew, q5.drew, q6.drew⟩
 ·exact HBt.out.drew
 clear s0 s1 s2 s3 S0 S1 S2 S3 i0 i1 i2 i3 i4 i5 e0 e1 e2 e3 e4 e5 e6 E0 E1 E2 E3 E4 E5 E6 ca k3 K3 k0 kf Kf hsz
 clear HLo HBt
 clear v
 rintro v1 ⟨lo, hB⟩
 have HLo := Lib.hid lo
 have HBt := Lib.hid hB
 have hsz := hB.size
 have ca := lo.O.R.cel a.toNat HRl.out
 rw [HX.out] at ca
 have k3 := lo.O.C.cel 3 (by rw [HCl.out]; decide)
 have K3 := lo.O.C.fro 3 (by rw [HCl.out]; decide)
 have k0 := lo.O.C.cel 0 (by rw [HCl.out]; decide)
 rw [H3.out] at k3
 rw [H0.out] at k0
 have kf := lo.O.C.cel (f).toNat (by rw [HCl.out]; omega)
 have Kf := lo.O.C.fro (f).toNat (by rw [HCl.out]; omega)
 obtain ⟨⟨g1, s0, s1, s2, s3, S0, S1, S2, S3⟩, ⟨i0, i1, i2, i3, i4, i5⟩, ⟨g5, e0, e1, e2, e3, e4, e5, e6, E0, E1, E2, E3, E4, E5, E6⟩, g6, g7, g8⟩ := lo
 clear hB g1 g5 g6 g7 g8
 have z1 : ¬ gc = u00.heap.size := by omega
 have z2 : ¬ u00.heap.size = gc := by omega
 have z3 : ¬ gc = u00.heap.size + 1 := by omega
 have z4 : ¬ u00.heap.size + 1 = gc := by omega
 have z5 : ¬ gc = u00.heap.size + 2 := by omega
 have z6 : ¬ u00.heap.size + 2 = gc := by omega
 go_wp2_with (go_at_call 110; refine (spec_l1Wrap _ _).mono ?_; rintro e' w' ⟨rfl, rfl⟩)
 refine wp_gen (fun v => Lo v u00.heap.size (⟨nx s, s.R, s.C.set f.toNat x, s.M⟩ : St) gr gc gm cr cc cm 15 d a b f n e ∧ But [gr, gc, gm] u00 v) ⟨⟨?_, ?_, ?_, ?_, ?_, ?_⟩, ?_⟩ ?_
 ·have q1 := HLo.out.S
  have q2 := q1.other gc f.toNat (.int .i64 x) (by omega)
  exact q2.set0 _
 ·have q1 := HLo.out.C
  (repeat with_reducible first | assumption | exact Box.new6 _ _ _ _ _ _ _ _ _ (by first | rfl | simp | (simp; omega)) | refine Box.alloc ?_ _ | refine Box.drew ?_ | refine Box.drewN ?_ _ | refine Box.other ?_ _ _ _ (by omega))
 ·have q1 := HLo.out.E
  (repeat with_reducible first | assumption | exact Box7.new _ _ _ _ (by first | rfl | simp | (simp; omega)) | exact Box7.newv _ _ _ _ _ _ _ _ _ _ (by first | rfl | simp | (simp; omega)) | refine Box7.alloc ?_ _ | refine Box7.drew ?_ | refine Box7.drewN ?_ _ | refine Box7.other ?_ _ _ _ (by omega))
 ·have q1 := HLo.out.Z
  (repeat with_reducible first | assumption | exact Box4.new _ _ _ _ _ _ _ (by first | rfl | simp | (simp; omega)) | refine Box4.alloc ?_ _ | refine Box4.drew ?_ | refine Box4.drewN ?_ _ | refine Box4.other ?_ _ _ _ (by omega))
 ·have q1 := HLo.out.Y
  (repeat with_reducible first | assumption | exact Box7.new _ _ _ _ (by first | rfl | simp | (simp; omega)) | exact Box7.newv _ _ _ _ _ _ _ _ _ _ (by first | rfl | simp | (simp; omega)) | refine Box7.alloc ?_ _ | refine Box7.drew ?_ | refine Box7.drewN ?_ _ | refine Box7.other ?_ _ _ _ (by omega))
 ·have q1 := HLo.out.O
  (repeat with_reducible first | refine Own.alloc ?_ _ | refine Own.drew ?_ | refine Own.drewN ?_ _ | refine Own.other ?_ _ _ _ (by omega) (by omega) (by omega))
  exact q1.setC f.toNat x (by rw [HCl.out]; omega) (nx s)
 ·have hB := HBt.out
  (repeat with_reducible first | exact But.refl _ _ | assumption | refine But.alloc ?_ _ | refine But.drew ?_ | refine But.drewN ?_ _ | refine But.set ?_ _ _ _ (by first | (left; simp; done) | (right; simp; done) | (right; omega) | (right; simp; omega)))
 clear s0 s1 s2 s3 S0 S1 S2 S3 i0 i1 i2 i3 i4 i5 e0 e1 e2 e3 e4 e5 e6 E0 E1 E2 E3 E4 E5 E6 ca k3 K3 k0 kf Kf hsz
 clear HLo HBt z1 z2 z3 z4 z5 z6
 clear v1
 rintro v0 ⟨lo, hB⟩
 have HLo := Lib.hid lo
 have HBt := Lib.hid hB
 have hsz := hB.size
 obtain ⟨⟨g1, s0, s1, s2, s3, S0, S1, S2, S3⟩, ⟨i0, i1, i2, i3, i4, i5⟩, ⟨g5, e0, e1, e2, e3, e4, e5, e6, E0, E1, E2, E3, E4, E5, E6⟩, g6, g7, g8⟩ := lo
 clear hB g1 g5 g6 g7 g8
 have HS := Lib.hid HLo.out.S
 have HE := Lib.hid HLo.out.E
 have HZ := Lib.hid HLo.out.Z
 have HY := Lib.hid HLo.out.Y
 have HO := Lib.hid HLo.out.O
 clear s0 s1 s2 s3 S0 S1 S2 S3 i0 i1 i2 i3 i4 i5 e0 e1 e2 e3 e4 e5 e6 E0 E1 E2 E3 E4 E5 E6 hsz
 clear HLo
 refine wp_region_rows 94 3 [u00.heap.size + 3] (fun i => if i = 2 then [u00.heap.size + 3] else []) lb1_in (fun i => false) (fun i v u => match i with | 0 => v = .agg #[.int .i64 (nx s), .slice (some ⟨gr, 0, none⟩) 8 cr, .slice (some ⟨gc, 0, none⟩) 5 cc, .slice (some ⟨gm, 0, none⟩) 256 cm] | 1 => v = .agg #[.int .i64 (e).pc, .int .i64 (e).w, .int .i64 (e).why, .int .i64 (e).d, .int .i64 (e).v, .int .i64 (e).ad, .int .i64 (e).dt] | 2 => v = undef ∧ Box4 u (u00.heap.size + 3) (.int .i64 (nx s)) (.slice (some ⟨gr, 0, none⟩) 8 cr) (.slice (some ⟨gc, 0, none⟩) 5 cc) (.slice (some ⟨gm, 0, none⟩) 256 cm) | _ => True) ?mono (by kernel_rfl) (by kernel_rfl) rfl (by kernel_rfl) (by kernel_rfl) (by decide) ?step ?fin
 case mono =>
  intro i j v u u' hi hij hdj hsz h hB
  rcases j with _ | _ | _ | j
  ·exact h
  ·exact h
  ·refine ⟨h.1, ?_⟩
   have hB' : But [] u u' := hB.mono (fun k hk _ => lb1_out i hij k hk)
   exact h.2.but hB' (by simp)
  ·trivial
 case step =>
  intro i o ho hiz
  rcases i with _ | _ | _ | _ | i
  ·clear hiz
   cases ho
   intro act u hB hL hdep hap hnw
   replace hB := hB [u00.heap.size + 3] (fun j _ k hk => lb1_in j k hk)
   have x3 := out_val hL (k := 3) (by kernel_rfl) rfl rfl
   clear hdep hL hap hnw
   have Bx := HS.out.but hB (by simp; try omega)
   obtain ⟨lt, c0, c1, c2, c3, _, _, _, _⟩ := Bx
   refine wpOp_step rfl (fun K hK => ?_)
   go_simp
   exact hK _ _ ⟨_, rfl, (fun h => by cases h), rfl, But.refl _ _, (fun h => by cases h)⟩
  ·clear hiz
   cases ho
   intro act u hB hL hdep hap hnw
   replace hB := hB [u00.heap.size + 3] (fun j _ k hk => lb1_in j k hk)
   have x5 := out_val hL (k := 5) (by kernel_rfl) rfl rfl
   clear hdep hL hap hnw
   have Bx := HE.out.but hB (by simp; try omega)
   obtain ⟨lt, c0, c1, c2, c3, c4, c5, c6, _, _, _, _, _, _, _⟩ := Bx
   refine wpOp_step rfl (fun K hK => ?_)
   go_simp
   exact hK _ _ ⟨_, rfl, (fun h => by cases h), rfl, But.refl _ _, (fun h => by cases h)⟩
  ·clear hiz
   cases ho
   intro act u hB hL hdep hap hnw
   replace hB := hB [] lb1_out
   have e0 : act.tmps.getD 92 undef = _ := hdep { on := 0, ground := .data } (by simp) rfl _ rfl
   have x6 := out_val hL (k := 6) (by kernel_rfl) rfl rfl
   clear hdep hL hap hnw
   have Bz0 := HZ.out.but hB (by simp; try omega)
   have Bz1 := Bz0
   obtain ⟨lt, c0, c1, c2, c3, f0, f1, f2, f3⟩ := Bz1
   refine wpOp_step rfl (fun K hK => ?_)
   go_simp
   exact hK _ _ ⟨undef, rfl, (fun _ => rfl), ⟨rfl, Bz0.set (.int .i64 (nx s)) (.slice (some ⟨gr, 0, none⟩) 8 cr) (.slice (some ⟨gc, 0, none⟩) 5 cc) (.slice (some ⟨gm, 0, none⟩) 256 cm)⟩, (But.refl _ _).set4 (u00.heap.size + 3) _ _ _ _ (.inl (by simp)), (fun h => by cases h)⟩
  ·exact absurd rfl hiz
  ·exact absurd ho (by simp)
 case fin =>
  intro act u hB hL hsf hap hnw
  have d1 := hsf 1 _ rfl (by decide)
  have d2 := hsf 2 _ rfl (by decide)
  obtain ⟨ysl, ha, hy⟩ := hL.puts [92, 93] (by kernel_rfl)
  have e1 : ysl 93 = _ := (hy 93).symm.trans d1
  obtain ⟨h2, Bz⟩ := d2
  clear hL hsf hy hap hnw d1
  simp only [List.foldl, List.setIfInBounds_toArray, List.set_cons_succ, List.set_cons_zero, e1] at ha
  subst ha
  clear e1
  have ow1 : Own u gr gc gm (⟨nx s, s.R, s.C.set f.toNat x, s.M⟩ : St) := HO.out.but hB (by simp; omega) (by simp; omega) (by simp; omega)
  have Bz1 := Bz
  obtain ⟨_, z0, z1, z2, z3, _, _, _, _⟩ := Bz1
  have By := HY.out.but hB (by simp; try omega)
  have By1 := By
  obtain ⟨yl, y0, y1, y2, y3, y4, y5, y6, x0, x1, x2, x3, x4, x5, x6⟩ := By1
  have hB2 : But [gr, gc, gm] u00 u := HBt.out.trans2 hB (fun k hk => by simp at hk ⊢; omega)
  refine wpOp_step rfl (fun K hK => ?_)
  go_simp
  refine hK _ _ ?_
  refine wp_seq_gen (fun t => Own t gr gc gm (⟨nx s, s.R, s.C.set f.toNat x, s.M⟩ : St) ∧ Box4 t (u00.heap.size + 3) (.int .i64 (nx s)) (.slice (some ⟨gr, 0, none⟩) 8 cr) (.slice (some ⟨gc, 0, none⟩) 5 cc) (.slice (some ⟨gm, 0, none⟩) 256 cm) ∧ Box7 t (u00.heap.size + 4) (e) ∧ But [gr, gc, gm] u00 t) ⟨?_, ?_, ?_, ?_⟩ ?_
  ·(repeat with_reducible first | refine Own.alloc ?_ _ | refine Own.drew ?_ | refine Own.drewN ?_ _ | refine Own.other ?_ _ _ _ (by omega) (by omega) (by omega))
   exact ow1
  ·(repeat with_reducible first | assumption | exact Box4.new _ _ _ _ _ _ _ (by first | rfl | simp | (simp; omega)) | refine Box4.alloc ?_ _ | refine Box4.drew ?_ | refine Box4.drewN ?_ _ | refine Box4.other ?_ _ _ _ (by omega))
  ·exact ((((((By.set0 _).set1 _).set2 _).set3 _).set4 _).set5 _).set6 _
  ·(repeat with_reducible first | exact But.refl _ _ | assumption | refine But.alloc ?_ _ | refine But.drew ?_ | refine But.drewN ?_ _ | refine But.set ?_ _ _ _ (by first | (left; simp; done) | (right; simp; done) | (right; omega) | (right; simp; omega)))
  clear z0 z1 z2 z3 y0 y1 y2 y3 y4 y5 y6 x0 x1 x2 x3 x4 x5 x6 By Bz ow1 hB2 hB yl
  rintro t ⟨ow2, bz, by', hB2⟩
  obtain ⟨_, z0, z1, z2, z3, _, _, _, _⟩ := bz
  obtain ⟨_, y0, y1, y2, y3, y4, y5, y6, _, _, _, _, _, _, _⟩ := by'
  go_wp2
  refine bodyPost_ret (v := .tuple #[.agg #[.int .i64 (nx s), .slice (some ⟨gr, 0, none⟩) 8 cr, .slice (some ⟨gc, 0, none⟩) 5 cc, .slice (some ⟨gm, 0, none⟩) 256 cm], .agg #[.int .i64 (e).pc, .int .i64 (e).w, .int .i64 (e).why, .int .i64 (e).d, .int .i64 (e).v, .int .i64 (e).ad, .int .i64 (e).dt]]) (by simp [results, Tryd.results87, go_sem, z0, z1, z2, z3, y0, y1, y2, y3, y4, y5, y6]) rfl ?_
  first | exact ⟨rfl, ow2, hB2⟩ | exact ⟨rfl, (by rw [List.set_set] at ow2; exact ow2), hB2⟩

end Go.Proofs.YtbjapncfgancoaaDoor
