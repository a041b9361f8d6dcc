/- For every code (any bytes), law FnDoSys returns true and its argument reads as before (no condition; the two tables read as the program's text lays them, which the card ties). -/
import Derived.Test.YtbjapncfgancoaaDoorCards
import Derived.Test.YtbjapncfgancoaaDoorTie
import Derived.Test.YtbjapncfgancoaaDoorLaid
import Derived.Test.YtbjapncfgancoaaDoorSx2
import Derived.WalkKit
import Derived.ProofKit
import Derived.OpenShut
import Derived.ShutString
import Derived.SliceStrings
import Derived.ChangeOld
import Derived.Below
import Derived.SevenTiedAt
namespace Go.Proofs.YtbjapncfgancoaaDoor.fnDoSys
open Go.ChangeShapes Go.WideShapes Go.ChangeAt Go.RowKit
set_option linter.unusedVariables false

def IsRow (k : IntKind) (w : World) (a : Option Addr) (len cap : Nat) (zs : List Int) : Prop :=
  (a = none ∧ len = 0 ∧ cap = 0 ∧ zs = []) ∨
  ∃ x, a = some x ∧ len ≤ cap ∧ cap ≤ maxLen ∧ zs.length = cap ∧ (∀ i, i < zs.length → w.cell? (x.add i) = some (.int k (zs.getD i 0))) ∧ ∀ n ∈ zs, (Lit.int k n).wf = true

set_option maxRecDepth 100000 in
set_option maxHeartbeats 8000000 in
theorem walk (a0 : Option Addr) (len0 cap0 : Nat) (z0 : List Int) (w : World) (ht : Tabs w) (w0 : IsRow .u8 w a0 len0 cap0 z0) :
    Calls Tryd.prog 13 #[.slice a0 len0 cap0] w fun e w' => e = .returned (.bool true) ∧ Below w.heap.size w w' := by
  have hc : Code1 w.heap.size w a0 len0 cap0 := by
    rcases w0 with ⟨rfl, rfl, rfl, rfl⟩ | ⟨x, rfl, hl, hm, hz, hcell, hwz⟩
    · exact ⟨Nat.le_refl _, Nat.le_refl _, Nat.zero_le _, .inl rfl, fun _ => rfl⟩
    · exact ⟨Nat.le_refl _, hl, hm, bytes_of_row hl hz hcell hwz, by simp⟩
  clear w0
  by_cases hlen : (1048576 : Int) < (len0 : Int)
  · go_enter Tryd.func13, Tryd.ntmps13
    go_wp2
    go_ret
    exact ⟨rfl, Below.refl _ _⟩
  have HT := Lib.hid ht
  have hl : len0 ≤ 1048576 := by omega
  clear ht
  go_enter Tryd.func13, Tryd.ntmps13
  go_wp2_with fail
  refine (laws_haWords w.heap.size a0 len0 cap0 w hc hl).mono ?_
  rintro e w' ⟨a, b, ha, hb, rfl, rfl⟩
  obtain ⟨a0', a1'⟩ := okB_true ha
  obtain ⟨b0', b1'⟩ := okB_true hb
  clear hc hl
  obtain ⟨n, hn⟩ : ∃ x, a % 512 = x := ⟨_, rfl⟩
  have n0 : 0 ≤ n := by omega
  have n1 : n < 512 := by omega
  obtain ⟨wh, hwh⟩ : ∃ x, 5 + 16 * n = x := ⟨_, rfl⟩
  have wh0 : 0 ≤ wh := by omega
  have wh1 : wh < 65536 := by omega
  have hi1 : iok 12 0 0 0 0 n = true := by simp [iok, okAt, layN, layL, eL, eG, encL]; omega
  have hi2 : iok 13 0 0 0 0 0 = true := by simp [iok, okAt, layN, layL, eL, eG, encL]
  obtain ⟨wd, hwd⟩ : ∃ x, worD 12 0 0 0 0 n = x := ⟨_, rfl⟩
  obtain ⟨wd2, hwd2⟩ : ∃ x, worD 13 0 0 0 0 0 = x := ⟨_, rfl⟩
  have hst1 : stepS (hS 100 wd a b) false = (⟨8, hR a b, stopC (hS 100 wd a b) wh, hM 100 wd⟩, ⟨100, wd, wh, 0, 0, -1, 0⟩) := by
    rw [sup_sys (hS_sup (by omega) (by omega)) hi1 hwd, hwh]
    rfl
  have hk0 : OkS (hS 100 wd a b) := hS_ok (by omega) (by omega) (worD_ok hi1 hwd) ha hb
  have hk1 := step_okS hk0 hst1
  have hk2 : OkS ⟨8, hR a b, stopC (hS 100 wd a b) wh, (hM 100 wd).set 8 wd2⟩ := lay_okS (a := 8) hk1 (by omega) (by omega) (worD_ok hi2 hwd2)
  have hc0 : (stopC (hS 100 wd a b) wh).getD 0 0 = 100 := stopC_0 hk0.Cl
  have hc1 : (stopC (hS 100 wd a b) wh).getD 1 0 = wh := stopC_1 hk0.Cl
  have hc3 : (stopC (hS 100 wd a b) wh).getD 3 0 = 0 := by
    rw [stopC_3 hk0.Cl, (hS_sup (pc := 100) (wd := wd) (a := a) (b := b) (by omega) (by omega)).c]
    rfl
  have hst2 : stepS ⟨8, hR a b, stopC (hS 100 wd a b) wh, (hM 100 wd).set 8 wd2⟩ false = (⟨100, hR a b, (stopC (hS 100 wd a b) wh).set 3 ((stopC (hS 100 wd a b) wh).getD 3 0 / 2), (hM 100 wd).set 8 wd2⟩, ⟨8, wd2, 0, 0, 0, -1, 0⟩) := by
    rw [sup_back (s := ⟨8, hR a b, stopC (hS 100 wd a b) wh, (hM 100 wd).set 8 wd2⟩) ⟨by show (0 : Int) ≤ 8; omega, by show (8 : Int) < 256; omega, by show (stopC (hS 100 wd a b) wh).getD 3 0 % 2 = 0; rw [hc3]; rfl, by show ((hM 100 wd).set 8 wd2).getD 8 0 = wd2; rw [getD_set, if_pos ⟨rfl, by simp [hM, zeros]⟩]⟩ hi2 hwd2]
    show ((⟨(stopC (hS 100 wd a b) wh).getD 0 0, _, _, _⟩ : St), _) = _
    rw [hc0]
    rfl
  have hk3 := step_okS hk2 hst2
  have hst3 : stepS ⟨100, hR a b, (stopC (hS 100 wd a b) wh).set 3 ((stopC (hS 100 wd a b) wh).getD 3 0 / 2), (hM 100 wd).set 8 wd2⟩ false = (⟨8, hR a b, stopC ⟨100, hR a b, (stopC (hS 100 wd a b) wh).set 3 ((stopC (hS 100 wd a b) wh).getD 3 0 / 2), (hM 100 wd).set 8 wd2⟩ wh, (hM 100 wd).set 8 wd2⟩, ⟨100, wd, wh, 0, 0, -1, 0⟩) := by
    rw [sup_sys (s := ⟨100, hR a b, (stopC (hS 100 wd a b) wh).set 3 ((stopC (hS 100 wd a b) wh).getD 3 0 / 2), (hM 100 wd).set 8 wd2⟩) ⟨by show (0 : Int) ≤ 100; omega, by show (100 : Int) < 256; omega, by show ((stopC (hS 100 wd a b) wh).set 3 ((stopC (hS 100 wd a b) wh).getD 3 0 / 2)).getD 3 0 % 2 = 0; rw [hc3, getD_set, if_pos ⟨rfl, by show 3 < (stopC (hS 100 wd a b) wh).length; rw [show (stopC (hS 100 wd a b) wh).length = 5 from hk1.Cl]; omega⟩]; rfl, by show ((hM 100 wd).set 8 wd2).getD 100 0 = wd; rw [getD_set, if_neg (by omega)]; exact (hS_sup (pc := 100) (wd := wd) (a := a) (b := b) (by omega) (by omega)).m⟩ hi1 hwd, hwh]
    rfl
  have HI1 := Lib.hid hi1
  have HI2 := Lib.hid hi2
  have HWD := Lib.hid hwd
  have HWD2 := Lib.hid hwd2
  have HST1 := Lib.hid hst1
  have HST2 := Lib.hid hst2
  have HST3 := Lib.hid hst3
  have HK0 := Lib.hid hk0
  have HK1 := Lib.hid hk1
  have HK2 := Lib.hid hk2
  have HK3 := Lib.hid hk3
  have HC0 := Lib.hid hc0
  have HC1 := Lib.hid hc1
  have HC3 := Lib.hid hc3
  clear hi1 hi2 hwd hwd2 hst1 hst2 hst3 hk0 hk1 hk2 hk3 hc0 hc1 hc3
  have HF : Hid (Fr w w) := Lib.hid (Below.refl _ _)
  obtain ⟨C1, hC1⟩ : ∃ x, stopC (hS 100 wd a b) wh = x := ⟨_, rfl⟩
  rw [hC1] at HST1 HST2 HST3 HK1 HK2 HK3 HC0 HC1 HC3
  clear hC1
  go_wp2_with fail
  have m2 := HF.out.size
  refine (run_to (s2 := ⟨8, hR a b, C1, hM 100 wd⟩) (e2 := ⟨100, wd, wh, 0, 0, -1, 0⟩) HI1.out (by omega) (by omega) ha hb HWD.out HST1.out w (HT.out.fr HF.out)).mono ?_
  rintro e u1 ⟨g1, g2, g3, gr, gc, gm, x1, x2, x3, xr, xc, xm, X0, he, ho, hx, ⟨hl1, hl2, hl3, hl4, hl5, hl6, hl7, hl8, hl9⟩, f⟩
  replace HF := Lib.hid (Fr.trans HF.out f)
  have O_g := Lib.hid (show Own u1 g1 g2 g3 ⟨100, hR a b, zeros 5, hM 100 wd⟩ from ho)
  have O_x := Lib.hid (show Own u1 x1 x2 x3 ⟨8, hR a b, C1, hM 100 wd⟩ from hx)
  have he2 : e = .returned (.tuple #[.agg #[.int .i64 100, .slice (some ⟨g1, 0, none⟩) 8 gr, .slice (some ⟨g2, 0, none⟩) 5 gc, .slice (some ⟨g3, 0, none⟩) 256 gm], .agg #[.int .i64 8, .slice (some ⟨x1, 0, none⟩) 8 xr, .slice (some ⟨x2, 0, none⟩) 5 xc, .slice (some ⟨x3, 0, none⟩) 256 xm], .agg #[.int .i64 100, .int .i64 wd, .int .i64 wh, .int .i64 0, .int .i64 0, .int .i64 (-1), .int .i64 0]]) := he
  subst he2
  clear he ho hx f
  have m3a := O_g.out.R.lt
  have m3b := O_g.out.C.lt
  have m3c := O_g.out.M.lt
  have m4a := O_x.out.R.lt
  have m4b := O_x.out.C.lt
  have m4c := O_x.out.M.lt
  go_upto_region 5 with fail
  refine wp_gen (fun v9 => Cel v9 u1.heap.size [.int .i64 100, .slice (some ⟨g1, 0, none⟩) 8 gr, .slice (some ⟨g2, 0, none⟩) 5 gc, .slice (some ⟨g3, 0, none⟩) 256 gm] ∧ Cel v9 (u1.heap.size + 1) [.int .i64 8, .slice (some ⟨x1, 0, none⟩) 8 xr, .slice (some ⟨x2, 0, none⟩) 5 xc, .slice (some ⟨x3, 0, none⟩) 256 xm] ∧ Cel v9 (u1.heap.size + 1 + 1) [.int .i64 100, .int .i64 wd, .int .i64 wh, .int .i64 0, .int .i64 0, .int .i64 (-1), .int .i64 0] ∧ Own v9 g1 g2 g3 ⟨100, hR a b, zeros 5, hM 100 wd⟩ ∧ Own v9 x1 x2 x3 ⟨8, hR a b, C1, hM 100 wd⟩ ∧ Fr w v9) ⟨?_, ?_, ?_, ?_, ?_, ?_⟩ ?_
  · (repeat (first | (with_reducible assumption) | (with_reducible exact Cel.new _ _ _ _ (by first | rfl | omega | (simp; done) | (simp; omega))) | (with_reducible refine Cel.alloc ?_ _) | (with_reducible refine Cel.drew ?_) | (with_reducible refine Cel.drewN ?_ _) | (with_reducible refine Cel.other ?_ _ _ _ (by omega))))
  · (repeat (first | (with_reducible assumption) | (with_reducible exact Cel.new _ _ _ _ (by first | rfl | omega | (simp; done) | (simp; omega))) | (with_reducible refine Cel.alloc ?_ _) | (with_reducible refine Cel.drew ?_) | (with_reducible refine Cel.drewN ?_ _) | (with_reducible refine Cel.other ?_ _ _ _ (by omega))))
  · (repeat (first | (with_reducible assumption) | (with_reducible exact Cel.new _ _ _ _ (by first | rfl | omega | (simp; done) | (simp; omega))) | (with_reducible refine Cel.alloc ?_ _) | (with_reducible refine Cel.drew ?_) | (with_reducible refine Cel.drewN ?_ _) | (with_reducible refine Cel.other ?_ _ _ _ (by omega))))
  · have q9 := O_g.out
    (repeat (first | (with_reducible assumption) | (with_reducible refine Own.alloc ?_ _) | (with_reducible refine Own.drew ?_) | (with_reducible refine Own.drewN ?_ _) | (with_reducible refine Own.other ?_ _ _ _ (by omega) (by omega) (by omega))))
  · have q9 := O_x.out
    (repeat (first | (with_reducible assumption) | (with_reducible refine Own.alloc ?_ _) | (with_reducible refine Own.drew ?_) | (with_reducible refine Own.drewN ?_ _) | (with_reducible refine Own.other ?_ _ _ _ (by omega) (by omega) (by omega))))
  · refine fr_but (L := []) HF.out ?_ (fun k hk => by first | (cases hk; done) | (simp at hk; omega))
    (repeat with_reducible first | exact But.refl _ _ | assumption | refine But.alloc ?_ _ | refine But.drew ?_ | refine But.drewN ?_ _ | refine But.set ?_ _ _ _ (by first | (left; simp; done) | (right; simp; done) | (right; omega) | (right; simp; omega)))
  rintro u5 ⟨z0, z1, z2, z3, z4, z5⟩
  have B_sg := Lib.hid z0
  have B_sx := Lib.hid z1
  have B_ex := Lib.hid z2
  replace O_g := Lib.hid z3
  replace O_x := Lib.hid z4
  replace HF := Lib.hid z5
  clear z0 z1 z2 z3 z4 z5
  generalize u1.heap.size = N_x at *
  have L_g : Hid (Lens ⟨100, hR a b, zeros 5, hM 100 wd⟩) := Lib.hid ⟨HK0.out.Rl, HK0.out.Cl, HK0.out.Ml⟩
  have L_x : Hid (Lens ⟨8, hR a b, C1, hM 100 wd⟩) := Lib.hid ⟨HK1.out.Rl, HK1.out.Cl, HK1.out.Ml⟩
  refine wp_region_rows 92 5 [] (fun _ => []) lb0_in (fun i => false) (fun i v9 u => match i with | 0 => v9 = .agg #[.int .i64 8, .slice (some ⟨x1, 0, none⟩) 8 xr, .slice (some ⟨x2, 0, none⟩) 5 xc, .slice (some ⟨x3, 0, none⟩) 256 xm] | 1 => v9 = .agg #[.int .i64 13, .int .i64 0, .int .i64 0, .int .i64 0, .int .i64 0, .int .i64 0] | 2 => v9 = .int .i64 wd2 | 3 => ∃ y1 y2 y3 yr yc ym, v9 = .agg #[.int .i64 8, .slice (some ⟨y1, 0, none⟩) 8 yr, .slice (some ⟨y2, 0, none⟩) 5 yc, .slice (some ⟨y3, 0, none⟩) 256 ym] ∧ Own u y1 y2 y3 ⟨8, hR a b, C1, (hM 100 wd).set 8 wd2⟩ ∧ (u5.heap.size ≤ y1 ∧ u5.heap.size ≤ y2 ∧ u5.heap.size ≤ y3) | 4 => ∃ zz, v9 = .pointer (some ⟨zz, 0, none⟩) ∧ Cel u zz [.int .i64 0, .slice none 0 0, .slice none 0 0, .slice none 0 0] ∧ u5.heap.size ≤ zz | _ => True) ?mono (by kernel_rfl) (by kernel_rfl) rfl (by kernel_rfl) (by kernel_rfl) (by decide) ?step ?fin
  case mono =>
    intro i j v u u' hi hij hdj hsz h hB
    rcases j with _ | _ | _ | _ | _ | _ | j
    · exact h
    · exact h
    · exact h
    · obtain ⟨k1, k2, k3, kr, kc, km, e, ho, hh⟩ := h
      exact ⟨k1, k2, k3, kr, kc, km, e, ho.but hB (by simp) (by simp) (by simp), hh⟩
    · obtain ⟨zz, e, hz, hm⟩ := h
      exact ⟨zz, e, hz.but hB (by simp), hm⟩
    · trivial
    · trivial
  case step =>
    intro i o ho hiz
    rcases i with _ | _ | _ | _ | _ | _ | i
    · clear hiz
      cases ho
      intro act u hB hL hdep hap hnw
      replace hB := hB [] (fun j _ k hk => lb0_in j k hk)
      obtain ⟨ysl, ha, hy⟩ := hL.puts [31, 32, 33, 34, 8] (by kernel_rfl)
      clear hdep hL hy hap hnw
      simp only [List.foldl, List.setIfInBounds_toArray, List.set_cons_succ, List.set_cons_zero] at ha
      subst ha
      have c6 : u.cell? ⟨N_x + 1, 0, none⟩ = some (.int .i64 8) := (B_sx.out.but hB (by first | (simp; done) | (simp; omega))).cel 0 (by simp)
      have c7 : u.cell? ⟨N_x + 1, 1, none⟩ = some (.slice (some ⟨x1, 0, none⟩) 8 xr) := (B_sx.out.but hB (by first | (simp; done) | (simp; omega))).cel 1 (by simp)
      have c8 : u.cell? ⟨N_x + 1, 2, none⟩ = some (.slice (some ⟨x2, 0, none⟩) 5 xc) := (B_sx.out.but hB (by first | (simp; done) | (simp; omega))).cel 2 (by simp)
      have c9 : u.cell? ⟨N_x + 1, 3, none⟩ = some (.slice (some ⟨x3, 0, none⟩) 256 xm) := (B_sx.out.but hB (by first | (simp; done) | (simp; omega))).cel 3 (by simp)
      refine wpOp_step rfl (fun K hK => ?_)
      go_simp
      exact hK _ _ ⟨_, rfl, (fun h => by cases h), (by first | rfl | (exact congrArg (Value.int .i64) (by first | rfl | (rw [IntWalk.i64_left, IntWalk.wrap64_in _ (by omega)]) | omega)) | (simp; done) | (simp; omega) | (simp; rw [Int.tmod_eq_emod_of_nonneg (by omega)]; omega)), But.refl _ _, (fun h => by cases h)⟩
    · clear hiz
      cases ho
      intro act u hB hL hdep hap hnw
      replace hB := hB [] (fun j _ k hk => lb0_in j k hk)
      obtain ⟨ysl, ha, hy⟩ := hL.puts [31, 32, 33, 34, 8] (by kernel_rfl)
      clear hdep hL hy hap hnw
      simp only [List.foldl, List.setIfInBounds_toArray, List.set_cons_succ, List.set_cons_zero] at ha
      subst ha
      refine wpOp_step rfl (fun K hK => ?_)
      go_simp
      exact hK _ _ ⟨_, rfl, (fun h => by cases h), (by first | rfl | (exact congrArg (Value.int .i64) (by first | rfl | (rw [IntWalk.i64_left, IntWalk.wrap64_in _ (by omega)]) | omega)) | (simp; done) | (simp; omega) | (simp; rw [Int.tmod_eq_emod_of_nonneg (by omega)]; omega)), But.refl _ _, (fun h => by cases h)⟩
    · clear hiz
      cases ho
      intro act u hB hL hdep hap hnw
      replace hB := hB [] (fun j _ k hk => lb0_in j k hk)
      have d1 := hdep { on := 1, ground := .data } (by simp) rfl _ rfl
      obtain ⟨ysl, ha, hy⟩ := hL.puts [31, 32, 33, 34, 8] (by kernel_rfl)
      have e1 : ysl 32 = _ := (hy 32).symm.trans d1
      clear hdep hL hy hap hnw d1
      simp only [List.foldl, List.setIfInBounds_toArray, List.set_cons_succ, List.set_cons_zero, e1] at ha
      subst ha
      clear e1
      refine wpOp_step rfl (fun K hK => ?_)
      go_simp
      have EW := impl_CodWord 13 0 0 0 0 0 u ((HT.out.fr HF.out).fr (fr_but (L := []) (Below.refl u5.heap.size u5) hB (fun k hk => by cases hk)))
      rw [HWD2.out] at EW
      refine EW.mono ?_
      rintro e u' ⟨rfl, f'⟩
      go_simp
      exact hK _ _ ⟨_, rfl, (fun h => by cases h), rfl, But.of f', (fun h => by cases h)⟩
    · clear hiz
      cases ho
      intro act u hB hL hdep hap hnw
      replace hB := hB [] (fun j _ k hk => lb0_in j k hk)
      have d0 := hdep { on := 0, ground := .data } (by simp) rfl _ rfl
      have d2 := hdep { on := 2, ground := .data } (by simp) rfl _ rfl
      obtain ⟨ysl, ha, hy⟩ := hL.puts [31, 32, 33, 34, 8] (by kernel_rfl)
      have e0 : ysl 31 = _ := (hy 31).symm.trans d0
      have e2 : ysl 33 = _ := (hy 33).symm.trans d2
      clear hdep hL hy hap hnw d0 d2
      simp only [List.foldl, List.setIfInBounds_toArray, List.set_cons_succ, List.set_cons_zero, e0, e2] at ha
      subst ha
      clear e0 e2
      refine wpOp_step rfl (fun K hK => ?_)
      go_simp
      refine (lay_to (s := ⟨8, hR a b, C1, hM 100 wd⟩) (O_x.out.fr (fr_but (L := []) (Below.refl u5.heap.size u5) hB (fun k hk => by cases hk))) HK1.out rfl (by omega) (by omega) (worD_ok HI2.out HWD2.out)).mono ?_
      rintro e u' ⟨k1, k2, k3, kr, kc, km, he, ho, hl1, hl2, hl3, f'⟩
      obtain rfl := he
      go_simp
      exact hK _ _ ⟨_, rfl, (fun h => by cases h), ⟨k1, k2, k3, kr, kc, km, rfl, ho, Nat.le_trans hB.size hl1, Nat.le_trans hB.size hl2, Nat.le_trans hB.size hl3⟩, But.of f', (fun h => by cases h)⟩
    · clear hiz
      cases ho
      intro act u hB hL hdep hap hnw
      replace hB := hB [] (fun j _ k hk => lb0_in j k hk)
      obtain ⟨ysl, ha, hy⟩ := hL.puts [31, 32, 33, 34, 8] (by kernel_rfl)
      clear hdep hL hy hap hnw
      simp only [List.foldl, List.setIfInBounds_toArray, List.set_cons_succ, List.set_cons_zero] at ha
      subst ha
      refine wpOp_step rfl (fun K hK => ?_)
      go_simp
      exact hK _ _ ⟨_, rfl, (fun h => by cases h), ⟨_, rfl, Cel.new _ [.int .i64 0, .slice none 0 0, .slice none 0 0, .slice none 0 0] _ _ rfl, hB.size⟩, But.of (Fr.alloc _ _), (fun h => by cases h)⟩
    · exact absurd rfl hiz
    · exact absurd ho (by simp)
  case fin =>
    intro act u hB hL hsf hap hnw
    have d3 := hsf 3 _ rfl (by decide)
    have d4 := hsf 4 _ rfl (by decide)
    obtain ⟨ysl, ha, hy⟩ := hL.puts [31, 32, 33, 34, 8] (by kernel_rfl)
    obtain ⟨y1, y2, y3, yr, yc, ym, h3, ho3, hl3⟩ := d3
    have e3 : ysl 34 = .agg #[.int .i64 8, .slice (some ⟨y1, 0, none⟩) 8 yr, .slice (some ⟨y2, 0, none⟩) 5 yc, .slice (some ⟨y3, 0, none⟩) 256 ym] := (hy 34).symm.trans h3
    obtain ⟨zz, h4, hz4, hm4⟩ := d4
    have e4 : ysl 8 = .pointer (some ⟨zz, 0, none⟩) := (hy 8).symm.trans h4
    clear hL hsf hy hap hnw h3 h4
    simp only [List.foldl, List.setIfInBounds_toArray, List.set_cons_succ, List.set_cons_zero, e3, e4] at ha
    subst ha
    clear e3 e4
    have m10 := B_sg.out.lt
    have m11 := B_sx.out.lt
    have m12 := B_ex.out.lt
    have m13 := HF.out.size
    have fB : Fr u5 u := (fr_but (L := []) (Below.refl u5.heap.size u5) hB (fun k hk => by cases hk))
    replace B_sg := Lib.hid (B_sg.out.fr fB)
    replace B_sx := Lib.hid (B_sx.out.fr fB)
    replace B_ex := Lib.hid (B_ex.out.fr fB)
    replace O_g := Lib.hid (O_g.out.fr fB)
    replace O_x := Lib.hid (O_x.out.fr fB)
    replace HF := Lib.hid (Fr.trans HF.out fB)
    have B_sy := Lib.hid hz4
    have O_y := Lib.hid (show Own u y1 y2 y3 ⟨8, hR a b, C1, (hM 100 wd).set 8 wd2⟩ from ho3)
    obtain ⟨hl1, hl2, hl3⟩ := hl3
    obtain ⟨nz1, nz2, nz3⟩ := apart_own hz4 ho3 (lay_okS (s := ⟨8, hR a b, C1, hM 100 wd⟩) (a := 8) HK1.out (by omega) (by omega) (worD_ok HI2.out HWD2.out))
    clear hz4 ho3 hB fB
    have m14a := O_y.out.R.lt
    have m14b := O_y.out.C.lt
    have m14c := O_y.out.M.lt
    have mzz := B_sy.out.lt
    have c15 : u.cell? ⟨zz, 0, none⟩ = some (.int .i64 0) := B_sy.out.cel 0 (by simp)
    have c16 : u.cell? ⟨zz, 1, none⟩ = some (.slice none 0 0) := B_sy.out.cel 1 (by simp)
    have c17 : u.cell? ⟨zz, 2, none⟩ = some (.slice none 0 0) := B_sy.out.cel 2 (by simp)
    have c18 : u.cell? ⟨zz, 3, none⟩ = some (.slice none 0 0) := B_sy.out.cel 3 (by simp)
    have c19 : u.frozen? ⟨zz, 0, none⟩ = false := B_sy.out.fro 0 (by simp)
    have c20 : u.frozen? ⟨zz, 1, none⟩ = false := B_sy.out.fro 1 (by simp)
    have c21 : u.frozen? ⟨zz, 2, none⟩ = false := B_sy.out.fro 2 (by simp)
    have c22 : u.frozen? ⟨zz, 3, none⟩ = false := B_sy.out.fro 3 (by simp)
    refine wpOp_step rfl (fun K hK => ?_)
    go_simp
    refine hK _ _ ?_
    go_upto_region 6 with fail
    refine wp_gen (fun v9 => Cel v9 N_x [.int .i64 100, .slice (some ⟨g1, 0, none⟩) 8 gr, .slice (some ⟨g2, 0, none⟩) 5 gc, .slice (some ⟨g3, 0, none⟩) 256 gm] ∧ Cel v9 (N_x + 1) [.int .i64 8, .slice (some ⟨x1, 0, none⟩) 8 xr, .slice (some ⟨x2, 0, none⟩) 5 xc, .slice (some ⟨x3, 0, none⟩) 256 xm] ∧ Cel v9 (N_x + 1 + 1) [.int .i64 100, .int .i64 wd, .int .i64 wh, .int .i64 0, .int .i64 0, .int .i64 (-1), .int .i64 0] ∧ Cel v9 zz [.int .i64 8, .slice (some ⟨y1, 0, none⟩) 8 yr, .slice (some ⟨y2, 0, none⟩) 5 yc, .slice (some ⟨y3, 0, none⟩) 256 ym] ∧ Own v9 g1 g2 g3 ⟨100, hR a b, zeros 5, hM 100 wd⟩ ∧ Own v9 x1 x2 x3 ⟨8, hR a b, C1, hM 100 wd⟩ ∧ Own v9 y1 y2 y3 ⟨8, hR a b, C1, (hM 100 wd).set 8 wd2⟩ ∧ Fr w v9) ⟨?_, ?_, ?_, ?_, ?_, ?_, ?_, ?_⟩ ?_
    · have q9 := B_sg.out
      (repeat (first | (with_reducible assumption) | (with_reducible exact Cel.new _ _ _ _ (by first | rfl | omega | (simp; done) | (simp; omega))) | (with_reducible refine Cel.alloc ?_ _) | (with_reducible refine Cel.drew ?_) | (with_reducible refine Cel.drewN ?_ _) | (with_reducible refine Cel.other ?_ _ _ _ (by omega))))
    · have q9 := B_sx.out
      (repeat (first | (with_reducible assumption) | (with_reducible exact Cel.new _ _ _ _ (by first | rfl | omega | (simp; done) | (simp; omega))) | (with_reducible refine Cel.alloc ?_ _) | (with_reducible refine Cel.drew ?_) | (with_reducible refine Cel.drewN ?_ _) | (with_reducible refine Cel.other ?_ _ _ _ (by omega))))
    · have q9 := B_ex.out
      (repeat (first | (with_reducible assumption) | (with_reducible exact Cel.new _ _ _ _ (by first | rfl | omega | (simp; done) | (simp; omega))) | (with_reducible refine Cel.alloc ?_ _) | (with_reducible refine Cel.drew ?_) | (with_reducible refine Cel.drewN ?_ _) | (with_reducible refine Cel.other ?_ _ _ _ (by omega))))
    · have q9 := (show Cel ((((u.setCell ⟨zz, 0, none⟩ (.int .i64 8)).setCell ⟨zz, 1, none⟩ (.slice (some ⟨y1, 0, none⟩) 8 yr)).setCell ⟨zz, 2, none⟩ (.slice (some ⟨y2, 0, none⟩) 5 yc)).setCell ⟨zz, 3, none⟩ (.slice (some ⟨y3, 0, none⟩) 256 ym)) zz [.int .i64 8, .slice (some ⟨y1, 0, none⟩) 8 yr, .slice (some ⟨y2, 0, none⟩) 5 yc, .slice (some ⟨y3, 0, none⟩) 256 ym] from ((((B_sy.out.set 0 (.int .i64 8) (by simp)).set 1 (.slice (some ⟨y1, 0, none⟩) 8 yr) (by simp)).set 2 (.slice (some ⟨y2, 0, none⟩) 5 yc) (by simp)).set 3 (.slice (some ⟨y3, 0, none⟩) 256 ym) (by simp)))
      (repeat (first | (with_reducible assumption) | (with_reducible exact Cel.new _ _ _ _ (by first | rfl | omega | (simp; done) | (simp; omega))) | (with_reducible refine Cel.alloc ?_ _) | (with_reducible refine Cel.drew ?_) | (with_reducible refine Cel.drewN ?_ _) | (with_reducible refine Cel.other ?_ _ _ _ (by omega))))
    · have q9 := O_g.out
      (repeat (first | (with_reducible assumption) | (with_reducible refine Own.alloc ?_ _) | (with_reducible refine Own.drew ?_) | (with_reducible refine Own.drewN ?_ _) | (with_reducible refine Own.other ?_ _ _ _ (by omega) (by omega) (by omega))))
    · have q9 := O_x.out
      (repeat (first | (with_reducible assumption) | (with_reducible refine Own.alloc ?_ _) | (with_reducible refine Own.drew ?_) | (with_reducible refine Own.drewN ?_ _) | (with_reducible refine Own.other ?_ _ _ _ (by omega) (by omega) (by omega))))
    · have q9 := O_y.out
      (repeat (first | (with_reducible assumption) | (with_reducible refine Own.alloc ?_ _) | (with_reducible refine Own.drew ?_) | (with_reducible refine Own.drewN ?_ _) | (with_reducible refine Own.other ?_ _ _ _ (by omega) (by omega) (by omega))))
    · refine fr_but (L := [zz]) HF.out ?_ (fun k hk => by first | (cases hk; done) | (simp at hk; omega))
      (repeat with_reducible first | exact But.refl _ _ | assumption | refine But.alloc ?_ _ | refine But.drew ?_ | refine But.drewN ?_ _ | refine But.set ?_ _ _ _ (by first | (left; simp; done) | (right; simp; done) | (right; omega) | (right; simp; omega)))
    rintro u23 ⟨z0, z1, z2, z3, z4, z5, z6, z7⟩
    replace B_sg := Lib.hid z0
    replace B_sx := Lib.hid z1
    replace B_ex := Lib.hid z2
    replace B_sy := Lib.hid z3
    replace O_g := Lib.hid z4
    replace O_x := Lib.hid z5
    replace O_y := Lib.hid z6
    replace HF := Lib.hid z7
    clear z0 z1 z2 z3 z4 z5 z6 z7
    clear c15 c16 c17 c18 c19 c20 c21 c22
    generalize zz = zy at *
    have c24 : u23.cell? ⟨zy, 0, none⟩ = some (.int .i64 8) := B_sy.out.cel 0 (by simp)
    have c25 : u23.cell? ⟨zy, 1, none⟩ = some (.slice (some ⟨y1, 0, none⟩) 8 yr) := B_sy.out.cel 1 (by simp)
    have c26 : u23.cell? ⟨zy, 2, none⟩ = some (.slice (some ⟨y2, 0, none⟩) 5 yc) := B_sy.out.cel 2 (by simp)
    have c27 : u23.cell? ⟨zy, 3, none⟩ = some (.slice (some ⟨y3, 0, none⟩) 256 ym) := B_sy.out.cel 3 (by simp)
    go_wp2_with fail
    clear c24 c25 c26 c27
    have m29 := B_sg.out.lt
    have m30 := B_sx.out.lt
    have m31 := B_ex.out.lt
    have m32 := B_sy.out.lt
    have m33 := HF.out.size
    refine (step_to (s := ⟨8, hR a b, C1, (hM 100 wd).set 8 wd2⟩) (s2 := ⟨100, hR a b, (C1.set 3 (C1.getD 3 0 / 2)), (hM 100 wd).set 8 wd2⟩) (e2 := ⟨8, wd2, 0, 0, 0, -1, 0⟩) O_y.out HK2.out rfl (HT.out.fr HF.out) HST2.out).mono ?_
    rintro e u28 ⟨z1, z2, z3, zr, zc, zm, he, ho, hl1, hl2, hl3, f⟩
    replace B_sg := Lib.hid (B_sg.out.fr f)
    replace B_sx := Lib.hid (B_sx.out.fr f)
    replace B_ex := Lib.hid (B_ex.out.fr f)
    replace B_sy := Lib.hid (B_sy.out.fr f)
    replace O_g := Lib.hid (O_g.out.fr f)
    replace O_x := Lib.hid (O_x.out.fr f)
    replace O_y := Lib.hid (O_y.out.fr f)
    replace HF := Lib.hid (Fr.trans HF.out f)
    have O_z := Lib.hid (show Own u28 z1 z2 z3 ⟨100, hR a b, (C1.set 3 (C1.getD 3 0 / 2)), (hM 100 wd).set 8 wd2⟩ from ho)
    have he2 : e = .returned (.tuple #[.agg #[.int .i64 100, .slice (some ⟨z1, 0, none⟩) 8 zr, .slice (some ⟨z2, 0, none⟩) 5 zc, .slice (some ⟨z3, 0, none⟩) 256 zm], .agg #[.int .i64 8, .int .i64 wd2, .int .i64 0, .int .i64 0, .int .i64 0, .int .i64 (-1), .int .i64 0]]) := he
    subst he2
    clear he ho f
    have m34a := O_z.out.R.lt
    have m34b := O_z.out.C.lt
    have m34c := O_z.out.M.lt
    go_upto_region 7 with fail
    refine wp_gen (fun v9 => Cel v9 N_x [.int .i64 100, .slice (some ⟨g1, 0, none⟩) 8 gr, .slice (some ⟨g2, 0, none⟩) 5 gc, .slice (some ⟨g3, 0, none⟩) 256 gm] ∧ Cel v9 (N_x + 1) [.int .i64 8, .slice (some ⟨x1, 0, none⟩) 8 xr, .slice (some ⟨x2, 0, none⟩) 5 xc, .slice (some ⟨x3, 0, none⟩) 256 xm] ∧ Cel v9 (N_x + 1 + 1) [.int .i64 100, .int .i64 wd, .int .i64 wh, .int .i64 0, .int .i64 0, .int .i64 (-1), .int .i64 0] ∧ Cel v9 zy [.int .i64 8, .slice (some ⟨y1, 0, none⟩) 8 yr, .slice (some ⟨y2, 0, none⟩) 5 yc, .slice (some ⟨y3, 0, none⟩) 256 ym] ∧ Cel v9 u28.heap.size [.int .i64 100, .slice (some ⟨z1, 0, none⟩) 8 zr, .slice (some ⟨z2, 0, none⟩) 5 zc, .slice (some ⟨z3, 0, none⟩) 256 zm] ∧ Cel v9 (u28.heap.size + 1) [.int .i64 8, .int .i64 wd2, .int .i64 0, .int .i64 0, .int .i64 0, .int .i64 (-1), .int .i64 0] ∧ Own v9 g1 g2 g3 ⟨100, hR a b, zeros 5, hM 100 wd⟩ ∧ Own v9 x1 x2 x3 ⟨8, hR a b, C1, hM 100 wd⟩ ∧ Own v9 y1 y2 y3 ⟨8, hR a b, C1, (hM 100 wd).set 8 wd2⟩ ∧ Own v9 z1 z2 z3 ⟨100, hR a b, (C1.set 3 (C1.getD 3 0 / 2)), (hM 100 wd).set 8 wd2⟩ ∧ Fr w v9) ⟨?_, ?_, ?_, ?_, ?_, ?_, ?_, ?_, ?_, ?_, ?_⟩ ?_
    · have q9 := B_sg.out
      (repeat (first | (with_reducible assumption) | (with_reducible exact Cel.new _ _ _ _ (by first | rfl | omega | (simp; done) | (simp; omega))) | (with_reducible refine Cel.alloc ?_ _) | (with_reducible refine Cel.drew ?_) | (with_reducible refine Cel.drewN ?_ _) | (with_reducible refine Cel.other ?_ _ _ _ (by omega))))
    · have q9 := B_sx.out
      (repeat (first | (with_reducible assumption) | (with_reducible exact Cel.new _ _ _ _ (by first | rfl | omega | (simp; done) | (simp; omega))) | (with_reducible refine Cel.alloc ?_ _) | (with_reducible refine Cel.drew ?_) | (with_reducible refine Cel.drewN ?_ _) | (with_reducible refine Cel.other ?_ _ _ _ (by omega))))
    · have q9 := B_ex.out
      (repeat (first | (with_reducible assumption) | (with_reducible exact Cel.new _ _ _ _ (by first | rfl | omega | (simp; done) | (simp; omega))) | (with_reducible refine Cel.alloc ?_ _) | (with_reducible refine Cel.drew ?_) | (with_reducible refine Cel.drewN ?_ _) | (with_reducible refine Cel.other ?_ _ _ _ (by omega))))
    · have q9 := B_sy.out
      (repeat (first | (with_reducible assumption) | (with_reducible exact Cel.new _ _ _ _ (by first | rfl | omega | (simp; done) | (simp; omega))) | (with_reducible refine Cel.alloc ?_ _) | (with_reducible refine Cel.drew ?_) | (with_reducible refine Cel.drewN ?_ _) | (with_reducible refine Cel.other ?_ _ _ _ (by omega))))
    · (repeat (first | (with_reducible assumption) | (with_reducible exact Cel.new _ _ _ _ (by first | rfl | omega | (simp; done) | (simp; omega))) | (with_reducible refine Cel.alloc ?_ _) | (with_reducible refine Cel.drew ?_) | (with_reducible refine Cel.drewN ?_ _) | (with_reducible refine Cel.other ?_ _ _ _ (by omega))))
    · (repeat (first | (with_reducible assumption) | (with_reducible exact Cel.new _ _ _ _ (by first | rfl | omega | (simp; done) | (simp; omega))) | (with_reducible refine Cel.alloc ?_ _) | (with_reducible refine Cel.drew ?_) | (with_reducible refine Cel.drewN ?_ _) | (with_reducible refine Cel.other ?_ _ _ _ (by omega))))
    · have q9 := O_g.out
      (repeat (first | (with_reducible assumption) | (with_reducible refine Own.alloc ?_ _) | (with_reducible refine Own.drew ?_) | (with_reducible refine Own.drewN ?_ _) | (with_reducible refine Own.other ?_ _ _ _ (by omega) (by omega) (by omega))))
    · have q9 := O_x.out
      (repeat (first | (with_reducible assumption) | (with_reducible refine Own.alloc ?_ _) | (with_reducible refine Own.drew ?_) | (with_reducible refine Own.drewN ?_ _) | (with_reducible refine Own.other ?_ _ _ _ (by omega) (by omega) (by omega))))
    · have q9 := O_y.out
      (repeat (first | (with_reducible assumption) | (with_reducible refine Own.alloc ?_ _) | (with_reducible refine Own.drew ?_) | (with_reducible refine Own.drewN ?_ _) | (with_reducible refine Own.other ?_ _ _ _ (by omega) (by omega) (by omega))))
    · have q9 := O_z.out
      (repeat (first | (with_reducible assumption) | (with_reducible refine Own.alloc ?_ _) | (with_reducible refine Own.drew ?_) | (with_reducible refine Own.drewN ?_ _) | (with_reducible refine Own.other ?_ _ _ _ (by omega) (by omega) (by omega))))
    · refine fr_but (L := []) HF.out ?_ (fun k hk => by first | (cases hk; done) | (simp at hk; omega))
      (repeat with_reducible first | exact But.refl _ _ | assumption | refine But.alloc ?_ _ | refine But.drew ?_ | refine But.drewN ?_ _ | refine But.set ?_ _ _ _ (by first | (left; simp; done) | (right; simp; done) | (right; omega) | (right; simp; omega)))
    rintro u35 ⟨z0, z1, z2, z3, z4, z5, z6, z7, z8, z9, z10⟩
    replace B_sg := Lib.hid z0
    replace B_sx := Lib.hid z1
    replace B_ex := Lib.hid z2
    replace B_sy := Lib.hid z3
    have B_sz := Lib.hid z4
    have B_ez := Lib.hid z5
    replace O_g := Lib.hid z6
    replace O_x := Lib.hid z7
    replace O_y := Lib.hid z8
    replace O_z := Lib.hid z9
    replace HF := Lib.hid z10
    clear z0 z1 z2 z3 z4 z5 z6 z7 z8 z9 z10
    generalize u28.heap.size = N_z at *
    have L_z : Hid (Lens ⟨100, hR a b, (C1.set 3 (C1.getD 3 0 / 2)), (hM 100 wd).set 8 wd2⟩) := Lib.hid ⟨HK3.out.Rl, HK3.out.Cl, HK3.out.Ml⟩
    have c36 : u35.cell? ⟨N_z, 0, none⟩ = some (.int .i64 100) := B_sz.out.cel 0 (by simp)
    have c37 : u35.cell? ⟨N_z, 1, none⟩ = some (.slice (some ⟨z1, 0, none⟩) 8 zr) := B_sz.out.cel 1 (by simp)
    have c38 : u35.cell? ⟨N_z, 2, none⟩ = some (.slice (some ⟨z2, 0, none⟩) 5 zc) := B_sz.out.cel 2 (by simp)
    have c39 : u35.cell? ⟨N_z, 3, none⟩ = some (.slice (some ⟨z3, 0, none⟩) 256 zm) := B_sz.out.cel 3 (by simp)
    go_wp2_with fail
    clear c36 c37 c38 c39
    have m41 := B_sg.out.lt
    have m42 := B_sx.out.lt
    have m43 := B_ex.out.lt
    have m44 := B_sy.out.lt
    have m45 := B_sz.out.lt
    have m46 := B_ez.out.lt
    have m47 := HF.out.size
    refine (step_to (s := ⟨100, hR a b, (C1.set 3 (C1.getD 3 0 / 2)), (hM 100 wd).set 8 wd2⟩) (s2 := ⟨8, hR a b, stopC ⟨100, hR a b, (C1.set 3 (C1.getD 3 0 / 2)), (hM 100 wd).set 8 wd2⟩ wh, (hM 100 wd).set 8 wd2⟩) (e2 := ⟨100, wd, wh, 0, 0, -1, 0⟩) O_z.out HK3.out rfl (HT.out.fr HF.out) HST3.out).mono ?_
    rintro e u40 ⟨v1, v2, v3, vr, vc, vm, he, ho, hl1, hl2, hl3, f⟩
    replace B_sg := Lib.hid (B_sg.out.fr f)
    replace B_sx := Lib.hid (B_sx.out.fr f)
    replace B_ex := Lib.hid (B_ex.out.fr f)
    replace B_sy := Lib.hid (B_sy.out.fr f)
    replace B_sz := Lib.hid (B_sz.out.fr f)
    replace B_ez := Lib.hid (B_ez.out.fr f)
    replace O_g := Lib.hid (O_g.out.fr f)
    replace O_x := Lib.hid (O_x.out.fr f)
    replace O_y := Lib.hid (O_y.out.fr f)
    replace O_z := Lib.hid (O_z.out.fr f)
    replace HF := Lib.hid (Fr.trans HF.out f)
    have O_v := Lib.hid (show Own u40 v1 v2 v3 ⟨8, hR a b, stopC ⟨100, hR a b, (C1.set 3 (C1.getD 3 0 / 2)), (hM 100 wd).set 8 wd2⟩ wh, (hM 100 wd).set 8 wd2⟩ from ho)
    have he2 : e = .returned (.tuple #[.agg #[.int .i64 8, .slice (some ⟨v1, 0, none⟩) 8 vr, .slice (some ⟨v2, 0, none⟩) 5 vc, .slice (some ⟨v3, 0, none⟩) 256 vm], .agg #[.int .i64 100, .int .i64 wd, .int .i64 wh, .int .i64 0, .int .i64 0, .int .i64 (-1), .int .i64 0]]) := he
    subst he2
    clear he ho f
    have m48a := O_v.out.R.lt
    have m48b := O_v.out.C.lt
    have m48c := O_v.out.M.lt
    go_upto_region 8 with fail
    refine wp_gen (fun v9 => Cel v9 N_x [.int .i64 100, .slice (some ⟨g1, 0, none⟩) 8 gr, .slice (some ⟨g2, 0, none⟩) 5 gc, .slice (some ⟨g3, 0, none⟩) 256 gm] ∧ Cel v9 (N_x + 1) [.int .i64 8, .slice (some ⟨x1, 0, none⟩) 8 xr, .slice (some ⟨x2, 0, none⟩) 5 xc, .slice (some ⟨x3, 0, none⟩) 256 xm] ∧ Cel v9 (N_x + 1 + 1) [.int .i64 100, .int .i64 wd, .int .i64 wh, .int .i64 0, .int .i64 0, .int .i64 (-1), .int .i64 0] ∧ Cel v9 zy [.int .i64 8, .slice (some ⟨y1, 0, none⟩) 8 yr, .slice (some ⟨y2, 0, none⟩) 5 yc, .slice (some ⟨y3, 0, none⟩) 256 ym] ∧ Cel v9 N_z [.int .i64 100, .slice (some ⟨z1, 0, none⟩) 8 zr, .slice (some ⟨z2, 0, none⟩) 5 zc, .slice (some ⟨z3, 0, none⟩) 256 zm] ∧ Cel v9 (N_z + 1) [.int .i64 8, .int .i64 wd2, .int .i64 0, .int .i64 0, .int .i64 0, .int .i64 (-1), .int .i64 0] ∧ Cel v9 u40.heap.size [.int .i64 8, .slice (some ⟨v1, 0, none⟩) 8 vr, .slice (some ⟨v2, 0, none⟩) 5 vc, .slice (some ⟨v3, 0, none⟩) 256 vm] ∧ Cel v9 (u40.heap.size + 1) [.int .i64 100, .int .i64 wd, .int .i64 wh, .int .i64 0, .int .i64 0, .int .i64 (-1), .int .i64 0] ∧ Own v9 g1 g2 g3 ⟨100, hR a b, zeros 5, hM 100 wd⟩ ∧ Own v9 x1 x2 x3 ⟨8, hR a b, C1, hM 100 wd⟩ ∧ Own v9 y1 y2 y3 ⟨8, hR a b, C1, (hM 100 wd).set 8 wd2⟩ ∧ Own v9 z1 z2 z3 ⟨100, hR a b, (C1.set 3 (C1.getD 3 0 / 2)), (hM 100 wd).set 8 wd2⟩ ∧ Own v9 v1 v2 v3 ⟨8, hR a b, stopC ⟨100, hR a b, (C1.set 3 (C1.getD 3 0 / 2)), (hM 100 wd).set 8 wd2⟩ wh, (hM 100 wd).set 8 wd2⟩ ∧ Fr w v9) ⟨?_, ?_, ?_, ?_, ?_, ?_, ?_, ?_, ?_, ?_, ?_, ?_, ?_, ?_⟩ ?_
    · have q9 := B_sg.out
      (repeat (first | (with_reducible assumption) | (with_reducible exact Cel.new _ _ _ _ (by first | rfl | omega | (simp; done) | (simp; omega))) | (with_reducible refine Cel.alloc ?_ _) | (with_reducible refine Cel.drew ?_) | (with_reducible refine Cel.drewN ?_ _) | (with_reducible refine Cel.other ?_ _ _ _ (by omega))))
    · have q9 := B_sx.out
      (repeat (first | (with_reducible assumption) | (with_reducible exact Cel.new _ _ _ _ (by first | rfl | omega | (simp; done) | (simp; omega))) | (with_reducible refine Cel.alloc ?_ _) | (with_reducible refine Cel.drew ?_) | (with_reducible refine Cel.drewN ?_ _) | (with_reducible refine Cel.other ?_ _ _ _ (by omega))))
    · have q9 := B_ex.out
      (repeat (first | (with_reducible assumption) | (with_reducible exact Cel.new _ _ _ _ (by first | rfl | omega | (simp; done) | (simp; omega))) | (with_reducible refine Cel.alloc ?_ _) | (with_reducible refine Cel.drew ?_) | (with_reducible refine Cel.drewN ?_ _) | (with_reducible refine Cel.other ?_ _ _ _ (by omega))))
    · have q9 := B_sy.out
      (repeat (first | (with_reducible assumption) | (with_reducible exact Cel.new _ _ _ _ (by first | rfl | omega | (simp; done) | (simp; omega))) | (with_reducible refine Cel.alloc ?_ _) | (with_reducible refine Cel.drew ?_) | (with_reducible refine Cel.drewN ?_ _) | (with_reducible refine Cel.other ?_ _ _ _ (by omega))))
    · have q9 := B_sz.out
      (repeat (first | (with_reducible assumption) | (with_reducible exact Cel.new _ _ _ _ (by first | rfl | omega | (simp; done) | (simp; omega))) | (with_reducible refine Cel.alloc ?_ _) | (with_reducible refine Cel.drew ?_) | (with_reducible refine Cel.drewN ?_ _) | (with_reducible refine Cel.other ?_ _ _ _ (by omega))))
    · have q9 := B_ez.out
      (repeat (first | (with_reducible assumption) | (with_reducible exact Cel.new _ _ _ _ (by first | rfl | omega | (simp; done) | (simp; omega))) | (with_reducible refine Cel.alloc ?_ _) | (with_reducible refine Cel.drew ?_) | (with_reducible refine Cel.drewN ?_ _) | (with_reducible refine Cel.other ?_ _ _ _ (by omega))))
    · (repeat (first | (with_reducible assumption) | (with_reducible exact Cel.new _ _ _ _ (by first | rfl | omega | (simp; done) | (simp; omega))) | (with_reducible refine Cel.alloc ?_ _) | (with_reducible refine Cel.drew ?_) | (with_reducible refine Cel.drewN ?_ _) | (with_reducible refine Cel.other ?_ _ _ _ (by omega))))
    · (repeat (first | (with_reducible assumption) | (with_reducible exact Cel.new _ _ _ _ (by first | rfl | omega | (simp; done) | (simp; omega))) | (with_reducible refine Cel.alloc ?_ _) | (with_reducible refine Cel.drew ?_) | (with_reducible refine Cel.drewN ?_ _) | (with_reducible refine Cel.other ?_ _ _ _ (by omega))))
    · have q9 := O_g.out
      (repeat (first | (with_reducible assumption) | (with_reducible refine Own.alloc ?_ _) | (with_reducible refine Own.drew ?_) | (with_reducible refine Own.drewN ?_ _) | (with_reducible refine Own.other ?_ _ _ _ (by omega) (by omega) (by omega))))
    · have q9 := O_x.out
      (repeat (first | (with_reducible assumption) | (with_reducible refine Own.alloc ?_ _) | (with_reducible refine Own.drew ?_) | (with_reducible refine Own.drewN ?_ _) | (with_reducible refine Own.other ?_ _ _ _ (by omega) (by omega) (by omega))))
    · have q9 := O_y.out
      (repeat (first | (with_reducible assumption) | (with_reducible refine Own.alloc ?_ _) | (with_reducible refine Own.drew ?_) | (with_reducible refine Own.drewN ?_ _) | (with_reducible refine Own.other ?_ _ _ _ (by omega) (by omega) (by omega))))
    · have q9 := O_z.out
      (repeat (first | (with_reducible assumption) | (with_reducible refine Own.alloc ?_ _) | (with_reducible refine Own.drew ?_) | (with_reducible refine Own.drewN ?_ _) | (with_reducible refine Own.other ?_ _ _ _ (by omega) (by omega) (by omega))))
    · have q9 := O_v.out
      (repeat (first | (with_reducible assumption) | (with_reducible refine Own.alloc ?_ _) | (with_reducible refine Own.drew ?_) | (with_reducible refine Own.drewN ?_ _) | (with_reducible refine Own.other ?_ _ _ _ (by omega) (by omega) (by omega))))
    · refine fr_but (L := []) HF.out ?_ (fun k hk => by first | (cases hk; done) | (simp at hk; omega))
      (repeat with_reducible first | exact But.refl _ _ | assumption | refine But.alloc ?_ _ | refine But.drew ?_ | refine But.drewN ?_ _ | refine But.set ?_ _ _ _ (by first | (left; simp; done) | (right; simp; done) | (right; omega) | (right; simp; omega)))
    rintro u49 ⟨z0, z1, z2, z3, z4, z5, z6, z7, z8, z9, z10, z11, z12, z13⟩
    replace B_sg := Lib.hid z0
    replace B_sx := Lib.hid z1
    replace B_ex := Lib.hid z2
    replace B_sy := Lib.hid z3
    replace B_sz := Lib.hid z4
    replace B_ez := Lib.hid z5
    have B_sv := Lib.hid z6
    have B_ev := Lib.hid z7
    replace O_g := Lib.hid z8
    replace O_x := Lib.hid z9
    replace O_y := Lib.hid z10
    replace O_z := Lib.hid z11
    replace O_v := Lib.hid z12
    replace HF := Lib.hid z13
    clear z0 z1 z2 z3 z4 z5 z6 z7 z8 z9 z10 z11 z12 z13
    generalize u40.heap.size = N_v at *
    refine wp_region_lots 92 (fun i => []) (fun _ _ => True) (fun i v9 u => match i with | 0 => v9 = .pointer (some ⟨N_x + 1 + 1, 2, none⟩) | 1 => v9 = .int .i64 wh | 2 => v9 = .int .i64 a | 3 => v9 = .int .i64 n | 4 => v9 = .int .i64 (16 * n) | 5 => v9 = .int .i64 wh | 6 => v9 = .bool true | 7 => v9 = .bool true | 8 => v9 = .pointer (some ⟨N_x + 1, 2, none⟩) | 9 => v9 = .slice (some ⟨x2, 0, none⟩) 5 xc | 10 => v9 = .pointer (some ⟨x2, 1, none⟩) | 11 => v9 = .int .i64 wh | 12 => v9 = .pointer (some ⟨N_x + 1 + 1, 2, none⟩) | 13 => v9 = .int .i64 wh | 14 => v9 = .bool true | 15 => v9 = .bool true | 16 => v9 = .bool true | 17 => v9 = .pointer (some ⟨N_x + 1, 2, none⟩) | 18 => v9 = .slice (some ⟨x2, 0, none⟩) 5 xc | 19 => v9 = .pointer (some ⟨x2, 0, none⟩) | 20 => v9 = .int .i64 100 | 21 => v9 = .bool true | 22 => v9 = .bool true | 23 => v9 = .bool true | 24 => v9 = .pointer (some ⟨N_x + 1, 1, none⟩) | 25 => v9 = .slice (some ⟨x1, 0, none⟩) 8 xr | 26 => v9 = .pointer (some ⟨N_x, 1, none⟩) | 27 => v9 = .slice (some ⟨g1, 0, none⟩) 8 gr | 28 => v9 = .bool true | 29 => v9 = .bool true | 30 => v9 = .bool true | 31 => v9 = .pointer (some ⟨N_z, 0, none⟩) | 32 => v9 = .int .i64 100 | 33 => v9 = .bool true | 34 => v9 = .bool true | 35 => v9 = .bool true | 36 => v9 = .pointer (some ⟨N_v + 1, 2, none⟩) | 37 => v9 = .int .i64 wh | 38 => v9 = .pointer (some ⟨N_x + 1 + 1, 2, none⟩) | 39 => v9 = .int .i64 wh | 40 => v9 = .bool true | 41 => v9 = .bool true | 42 => v9 = .bool true | 43 => v9 = .pointer (some ⟨N_v, 0, none⟩) | 44 => v9 = .int .i64 8 | 45 => v9 = .bool true | 46 => v9 = .bool true | 47 => v9 = .bool true | _ => True) ?mono (by kernel_rfl) (by kernel_rfl) rfl (by kernel_rfl) trivial ?step ?fin
    case mono =>
      intro i j v9 u u' hij hsz h hB
      rcases j with _ | _ | _ | _ | _ | _ | _ | _ | _ | _ | _ | _ | _ | _ | _ | _ | _ | _ | _ | _ | _ | _ | _ | _ | _ | _ | _ | _ | _ | _ | _ | _ | _ | _ | _ | _ | _ | _ | _ | _ | _ | _ | _ | _ | _ | _ | _ | _ | j
      · exact h
      · exact h
      · exact h
      · exact h
      · exact h
      · exact h
      · exact h
      · exact h
      · exact h
      · exact h
      · exact h
      · exact h
      · exact h
      · exact h
      · exact h
      · exact h
      · exact h
      · exact h
      · exact h
      · exact h
      · exact h
      · exact h
      · exact h
      · exact h
      · exact h
      · exact h
      · exact h
      · exact h
      · exact h
      · exact h
      · exact h
      · exact h
      · exact h
      · exact h
      · exact h
      · exact h
      · exact h
      · exact h
      · exact h
      · exact h
      · exact h
      · exact h
      · exact h
      · exact h
      · exact h
      · exact h
      · exact h
      · exact h
      · trivial
    case step =>
      intro i o ho
      rcases i with _ | _ | _ | _ | _ | _ | _ | _ | _ | _ | _ | _ | _ | _ | _ | _ | _ | _ | _ | _ | _ | _ | _ | _ | _ | _ | _ | _ | _ | _ | _ | _ | _ | _ | _ | _ | _ | _ | _ | _ | _ | _ | _ | _ | _ | _ | _ | _ | i
      · cases ho
        intro fu act u hW hB hsz hL hdep
        replace hB := hB [] (fun j hj hd k hk => by
          cases hk)
        have x7 : act.tmps.getD 7 undef = (.pointer (some ⟨N_x + 1 + 1, 0, none⟩) : Value) := (hL.2.2 7 (no_dst (by kernel_rfl))).trans rfl
        clear hdep hL
        refine wpOp_step rfl (fun K hK => ?_)
        go_simp
        exact hK _ _ ⟨_, rfl, (fun h => by cases h), (by first | rfl | (exact congrArg (Value.int .i64) (by first | rfl | (rw [IntWalk.i64_left, IntWalk.wrap64_in _ (by omega)]) | omega)) | (simp; done) | (simp; omega) | (simp; rw [Int.tmod_eq_emod_of_nonneg (by omega)]; omega)), But.refl _ _, trivial⟩
      · cases ho
        intro fu act u hW hB hsz hL hdep
        replace hB := hB [] (fun j hj hd k hk => by
          cases hk)
        have e0 : act.tmps.getD 45 undef = (.pointer (some ⟨N_x + 1 + 1, 2, none⟩) : Value) := hdep { on := 0, ground := .data } (by simp) rfl _ rfl
        clear hdep hL
        have c50 : u.cell? ⟨N_x + 1 + 1, 2, none⟩ = some (.int .i64 wh) := (B_ex.out.but hB (by first | (simp; done) | (simp; omega))).cel 2 (by simp)
        refine wpOp_step rfl (fun K hK => ?_)
        go_simp
        exact hK _ _ ⟨_, rfl, (fun h => by cases h), (by first | rfl | (exact congrArg (Value.int .i64) (by first | rfl | (rw [IntWalk.i64_left, IntWalk.wrap64_in _ (by omega)]) | omega)) | (simp; done) | (simp; omega) | (simp; rw [Int.tmod_eq_emod_of_nonneg (by omega)]; omega)), But.refl _ _, trivial⟩
      · cases ho
        intro fu act u hW hB hsz hL hdep
        replace hB := hB [] (fun j hj hd k hk => by
          cases hk)
        have x3 : act.tmps.getD 3 undef = (.int .i64 a : Value) := (hL.2.2 3 (no_dst (by kernel_rfl))).trans rfl
        clear hdep hL
        refine wpOp_step rfl (fun K hK => ?_)
        go_simp
        exact hK _ _ ⟨_, rfl, (fun h => by cases h), (by first | rfl | (exact congrArg (Value.int .i64) (by first | rfl | (rw [IntWalk.i64_left, IntWalk.wrap64_in _ (by omega)]) | omega)) | (simp; done) | (simp; omega) | (simp; rw [Int.tmod_eq_emod_of_nonneg (by omega)]; omega)), But.refl _ _, trivial⟩
      · cases ho
        intro fu act u hW hB hsz hL hdep
        replace hB := hB [] (fun j hj hd k hk => by
          cases hk)
        have e2 : act.tmps.getD 47 undef = (.int .i64 a : Value) := hdep { on := 2, ground := .data } (by simp) rfl _ rfl
        clear hdep hL
        refine wpOp_step rfl (fun K hK => ?_)
        go_simp
        exact hK _ _ ⟨_, rfl, (fun h => by cases h), (by first | rfl | (exact congrArg (Value.int .i64) (by first | rfl | (rw [IntWalk.i64_left, IntWalk.wrap64_in _ (by omega)]) | omega)) | (simp; done) | (simp; omega) | (simp; rw [Int.tmod_eq_emod_of_nonneg (by omega)]; omega)), But.refl _ _, trivial⟩
      · cases ho
        intro fu act u hW hB hsz hL hdep
        replace hB := hB [] (fun j hj hd k hk => by
          cases hk)
        have e3 : act.tmps.getD 48 undef = (.int .i64 n : Value) := hdep { on := 3, ground := .data } (by simp) rfl _ rfl
        clear hdep hL
        refine wpOp_step rfl (fun K hK => ?_)
        go_simp
        exact hK _ _ ⟨_, rfl, (fun h => by cases h), (by first | rfl | (exact congrArg (Value.int .i64) (by first | rfl | (rw [IntWalk.i64_left, IntWalk.wrap64_in _ (by omega)]) | omega)) | (simp; done) | (simp; omega) | (simp; rw [Int.tmod_eq_emod_of_nonneg (by omega)]; omega)), But.refl _ _, trivial⟩
      · cases ho
        intro fu act u hW hB hsz hL hdep
        replace hB := hB [] (fun j hj hd k hk => by
          cases hk)
        have e4 : act.tmps.getD 49 undef = (.int .i64 (16 * n) : Value) := hdep { on := 4, ground := .data } (by simp) rfl _ rfl
        clear hdep hL
        refine wpOp_step rfl (fun K hK => ?_)
        go_simp
        exact hK _ _ ⟨_, rfl, (fun h => by cases h), (by first | rfl | (exact congrArg (Value.int .i64) (by first | rfl | (rw [IntWalk.i64_left, IntWalk.wrap64_in _ (by omega)]) | omega)) | (simp; done) | (simp; omega) | (simp; rw [Int.tmod_eq_emod_of_nonneg (by omega)]; omega)), But.refl _ _, trivial⟩
      · cases ho
        intro fu act u hW hB hsz hL hdep
        replace hB := hB [] (fun j hj hd k hk => by
          cases hk)
        have e1 : act.tmps.getD 46 undef = (.int .i64 wh : Value) := hdep { on := 1, ground := .data } (by simp) rfl _ rfl
        have e5 : act.tmps.getD 50 undef = (.int .i64 wh : Value) := hdep { on := 5, ground := .data } (by simp) rfl _ rfl
        clear hdep hL
        refine wpOp_step rfl (fun K hK => ?_)
        go_simp
        exact hK _ _ ⟨_, rfl, (fun h => by cases h), (by first | rfl | (exact congrArg (Value.int .i64) (by first | rfl | (rw [IntWalk.i64_left, IntWalk.wrap64_in _ (by omega)]) | omega)) | (simp; done) | (simp; omega) | (simp; rw [Int.tmod_eq_emod_of_nonneg (by omega)]; omega)), But.refl _ _, trivial⟩
      · cases ho
        intro fu act u hW hB hsz hL hdep
        replace hB := hB [] (fun j hj hd k hk => by
          cases hk)
        have e6 : act.tmps.getD 51 undef = (.bool true : Value) := hdep { on := 6, ground := .data } (by simp) rfl _ rfl
        clear hdep hL
        refine wpOp_step rfl (fun K hK => ?_)
        go_simp
        exact hK _ _ ⟨_, rfl, (fun h => by cases h), (by first | rfl | (exact congrArg (Value.int .i64) (by first | rfl | (rw [IntWalk.i64_left, IntWalk.wrap64_in _ (by omega)]) | omega)) | (simp; done) | (simp; omega) | (simp; rw [Int.tmod_eq_emod_of_nonneg (by omega)]; omega)), But.refl _ _, trivial⟩
      · cases ho
        intro fu act u hW hB hsz hL hdep
        replace hB := hB [] (fun j hj hd k hk => by
          cases hk)
        have e7 : act.tmps.getD 52 undef = (.bool true : Value) := hdep { on := 7, ground := .guard } (by simp) rfl _ rfl
        have e7' := get_some e7 (by simp [undef])
        have x6 : act.tmps.getD 6 undef = (.pointer (some ⟨N_x + 1, 0, none⟩) : Value) := (hL.2.2 6 (no_dst (by kernel_rfl))).trans rfl
        clear hdep hL
        refine wpOp_step rfl (fun K hK => ?_)
        go_simp
        exact hK _ _ ⟨_, rfl, (fun h => by cases h), (by first | rfl | (exact congrArg (Value.int .i64) (by first | rfl | (rw [IntWalk.i64_left, IntWalk.wrap64_in _ (by omega)]) | omega)) | (simp; done) | (simp; omega) | (simp; rw [Int.tmod_eq_emod_of_nonneg (by omega)]; omega)), But.refl _ _, trivial⟩
      · cases ho
        intro fu act u hW hB hsz hL hdep
        replace hB := hB [] (fun j hj hd k hk => by
          cases hk)
        have e7 : act.tmps.getD 52 undef = (.bool true : Value) := hdep { on := 7, ground := .guard } (by simp) rfl _ rfl
        have e7' := get_some e7 (by simp [undef])
        have e8 : act.tmps.getD 53 undef = (.pointer (some ⟨N_x + 1, 2, none⟩) : Value) := hdep { on := 8, ground := .data } (by simp) rfl _ rfl
        clear hdep hL
        have c51 : u.cell? ⟨N_x + 1, 2, none⟩ = some (.slice (some ⟨x2, 0, none⟩) 5 xc) := (B_sx.out.but hB (by first | (simp; done) | (simp; omega))).cel 2 (by simp)
        refine wpOp_step rfl (fun K hK => ?_)
        go_simp
        exact hK _ _ ⟨_, rfl, (fun h => by cases h), (by first | rfl | (exact congrArg (Value.int .i64) (by first | rfl | (rw [IntWalk.i64_left, IntWalk.wrap64_in _ (by omega)]) | omega)) | (simp; done) | (simp; omega) | (simp; rw [Int.tmod_eq_emod_of_nonneg (by omega)]; omega)), But.refl _ _, trivial⟩
      · cases ho
        intro fu act u hW hB hsz hL hdep
        replace hB := hB [] (fun j hj hd k hk => by
          cases hk)
        have e7 : act.tmps.getD 52 undef = (.bool true : Value) := hdep { on := 7, ground := .guard } (by simp) rfl _ rfl
        have e7' := get_some e7 (by simp [undef])
        have e9 : act.tmps.getD 54 undef = (.slice (some ⟨x2, 0, none⟩) 5 xc : Value) := hdep { on := 9, ground := .data } (by simp) rfl _ rfl
        clear hdep hL
        refine wpOp_step rfl (fun K hK => ?_)
        go_simp
        exact hK _ _ ⟨_, rfl, (fun h => by cases h), (by first | rfl | (exact congrArg (Value.int .i64) (by first | rfl | (rw [IntWalk.i64_left, IntWalk.wrap64_in _ (by omega)]) | omega)) | (simp; done) | (simp; omega) | (simp; rw [Int.tmod_eq_emod_of_nonneg (by omega)]; omega)), But.refl _ _, trivial⟩
      · cases ho
        intro fu act u hW hB hsz hL hdep
        replace hB := hB [] (fun j hj hd k hk => by
          cases hk)
        have e7 : act.tmps.getD 52 undef = (.bool true : Value) := hdep { on := 7, ground := .guard } (by simp) rfl _ rfl
        have e7' := get_some e7 (by simp [undef])
        have e10 : act.tmps.getD 55 undef = (.pointer (some ⟨x2, 1, none⟩) : Value) := hdep { on := 10, ground := .data } (by simp) rfl _ rfl
        clear hdep hL
        have r52 : u.cell? ⟨x2, 1, none⟩ = some (.int .i64 wh) := ((O_x.out.but hB (by first | (simp; done) | (simp; omega)) (by first | (simp; done) | (simp; omega)) (by first | (simp; done) | (simp; omega))).C.cel 1 (by rw [L_x.out.Cl]; omega)).trans (congrArg (fun x => some (Value.int .i64 x)) (HC1.out))
        refine wpOp_step rfl (fun K hK => ?_)
        go_simp
        exact hK _ _ ⟨_, rfl, (fun h => by cases h), (by first | rfl | (exact congrArg (Value.int .i64) (by first | rfl | (rw [IntWalk.i64_left, IntWalk.wrap64_in _ (by omega)]) | omega)) | (simp; done) | (simp; omega) | (simp; rw [Int.tmod_eq_emod_of_nonneg (by omega)]; omega)), But.refl _ _, trivial⟩
      · cases ho
        intro fu act u hW hB hsz hL hdep
        replace hB := hB [] (fun j hj hd k hk => by
          cases hk)
        have e7 : act.tmps.getD 52 undef = (.bool true : Value) := hdep { on := 7, ground := .guard } (by simp) rfl _ rfl
        have e7' := get_some e7 (by simp [undef])
        have x7 : act.tmps.getD 7 undef = (.pointer (some ⟨N_x + 1 + 1, 0, none⟩) : Value) := (hL.2.2 7 (no_dst (by kernel_rfl))).trans rfl
        clear hdep hL
        refine wpOp_step rfl (fun K hK => ?_)
        go_simp
        exact hK _ _ ⟨_, rfl, (fun h => by cases h), (by first | rfl | (exact congrArg (Value.int .i64) (by first | rfl | (rw [IntWalk.i64_left, IntWalk.wrap64_in _ (by omega)]) | omega)) | (simp; done) | (simp; omega) | (simp; rw [Int.tmod_eq_emod_of_nonneg (by omega)]; omega)), But.refl _ _, trivial⟩
      · cases ho
        intro fu act u hW hB hsz hL hdep
        replace hB := hB [] (fun j hj hd k hk => by
          cases hk)
        have e7 : act.tmps.getD 52 undef = (.bool true : Value) := hdep { on := 7, ground := .guard } (by simp) rfl _ rfl
        have e7' := get_some e7 (by simp [undef])
        have e12 : act.tmps.getD 57 undef = (.pointer (some ⟨N_x + 1 + 1, 2, none⟩) : Value) := hdep { on := 12, ground := .data } (by simp) rfl _ rfl
        clear hdep hL
        have c53 : u.cell? ⟨N_x + 1 + 1, 2, none⟩ = some (.int .i64 wh) := (B_ex.out.but hB (by first | (simp; done) | (simp; omega))).cel 2 (by simp)
        refine wpOp_step rfl (fun K hK => ?_)
        go_simp
        exact hK _ _ ⟨_, rfl, (fun h => by cases h), (by first | rfl | (exact congrArg (Value.int .i64) (by first | rfl | (rw [IntWalk.i64_left, IntWalk.wrap64_in _ (by omega)]) | omega)) | (simp; done) | (simp; omega) | (simp; rw [Int.tmod_eq_emod_of_nonneg (by omega)]; omega)), But.refl _ _, trivial⟩
      · cases ho
        intro fu act u hW hB hsz hL hdep
        replace hB := hB [] (fun j hj hd k hk => by
          cases hk)
        have e7 : act.tmps.getD 52 undef = (.bool true : Value) := hdep { on := 7, ground := .guard } (by simp) rfl _ rfl
        have e7' := get_some e7 (by simp [undef])
        have e11 : act.tmps.getD 56 undef = (.int .i64 wh : Value) := hdep { on := 11, ground := .data } (by simp) rfl _ rfl
        have e13 : act.tmps.getD 58 undef = (.int .i64 wh : Value) := hdep { on := 13, ground := .data } (by simp) rfl _ rfl
        clear hdep hL
        refine wpOp_step rfl (fun K hK => ?_)
        go_simp
        exact hK _ _ ⟨_, rfl, (fun h => by cases h), (by first | rfl | (exact congrArg (Value.int .i64) (by first | rfl | (rw [IntWalk.i64_left, IntWalk.wrap64_in _ (by omega)]) | omega)) | (simp; done) | (simp; omega) | (simp; rw [Int.tmod_eq_emod_of_nonneg (by omega)]; omega)), But.refl _ _, trivial⟩
      · cases ho
        intro fu act u hW hB hsz hL hdep
        replace hB := hB [] (fun j hj hd k hk => by
          cases hk)
        have e7 : act.tmps.getD 52 undef = (.bool true : Value) := hdep { on := 7, ground := .data } (by simp) rfl _ rfl
        have e14 : act.tmps.getD 59 undef = (.bool true : Value) := hdep { on := 14, ground := .data } (by simp) rfl _ rfl
        clear hdep hL
        refine wpOp_step rfl (fun K hK => ?_)
        go_simp
        exact hK _ _ ⟨_, rfl, (fun h => by cases h), (by first | rfl | (exact congrArg (Value.int .i64) (by first | rfl | (rw [IntWalk.i64_left, IntWalk.wrap64_in _ (by omega)]) | omega)) | (simp; done) | (simp; omega) | (simp; rw [Int.tmod_eq_emod_of_nonneg (by omega)]; omega)), But.refl _ _, trivial⟩
      · cases ho
        intro fu act u hW hB hsz hL hdep
        replace hB := hB [] (fun j hj hd k hk => by
          cases hk)
        have e15 : act.tmps.getD 60 undef = (.bool true : Value) := hdep { on := 15, ground := .data } (by simp) rfl _ rfl
        clear hdep hL
        refine wpOp_step rfl (fun K hK => ?_)
        go_simp
        exact hK _ _ ⟨_, rfl, (fun h => by cases h), (by first | rfl | (exact congrArg (Value.int .i64) (by first | rfl | (rw [IntWalk.i64_left, IntWalk.wrap64_in _ (by omega)]) | omega)) | (simp; done) | (simp; omega) | (simp; rw [Int.tmod_eq_emod_of_nonneg (by omega)]; omega)), But.refl _ _, trivial⟩
      · cases ho
        intro fu act u hW hB hsz hL hdep
        replace hB := hB [] (fun j hj hd k hk => by
          cases hk)
        have e16 : act.tmps.getD 61 undef = (.bool true : Value) := hdep { on := 16, ground := .guard } (by simp) rfl _ rfl
        have e16' := get_some e16 (by simp [undef])
        have x6 : act.tmps.getD 6 undef = (.pointer (some ⟨N_x + 1, 0, none⟩) : Value) := (hL.2.2 6 (no_dst (by kernel_rfl))).trans rfl
        clear hdep hL
        refine wpOp_step rfl (fun K hK => ?_)
        go_simp
        exact hK _ _ ⟨_, rfl, (fun h => by cases h), (by first | rfl | (exact congrArg (Value.int .i64) (by first | rfl | (rw [IntWalk.i64_left, IntWalk.wrap64_in _ (by omega)]) | omega)) | (simp; done) | (simp; omega) | (simp; rw [Int.tmod_eq_emod_of_nonneg (by omega)]; omega)), But.refl _ _, trivial⟩
      · cases ho
        intro fu act u hW hB hsz hL hdep
        replace hB := hB [] (fun j hj hd k hk => by
          cases hk)
        have e16 : act.tmps.getD 61 undef = (.bool true : Value) := hdep { on := 16, ground := .guard } (by simp) rfl _ rfl
        have e16' := get_some e16 (by simp [undef])
        have e17 : act.tmps.getD 62 undef = (.pointer (some ⟨N_x + 1, 2, none⟩) : Value) := hdep { on := 17, ground := .data } (by simp) rfl _ rfl
        clear hdep hL
        have c54 : u.cell? ⟨N_x + 1, 2, none⟩ = some (.slice (some ⟨x2, 0, none⟩) 5 xc) := (B_sx.out.but hB (by first | (simp; done) | (simp; omega))).cel 2 (by simp)
        refine wpOp_step rfl (fun K hK => ?_)
        go_simp
        exact hK _ _ ⟨_, rfl, (fun h => by cases h), (by first | rfl | (exact congrArg (Value.int .i64) (by first | rfl | (rw [IntWalk.i64_left, IntWalk.wrap64_in _ (by omega)]) | omega)) | (simp; done) | (simp; omega) | (simp; rw [Int.tmod_eq_emod_of_nonneg (by omega)]; omega)), But.refl _ _, trivial⟩
      · cases ho
        intro fu act u hW hB hsz hL hdep
        replace hB := hB [] (fun j hj hd k hk => by
          cases hk)
        have e16 : act.tmps.getD 61 undef = (.bool true : Value) := hdep { on := 16, ground := .guard } (by simp) rfl _ rfl
        have e16' := get_some e16 (by simp [undef])
        have e18 : act.tmps.getD 63 undef = (.slice (some ⟨x2, 0, none⟩) 5 xc : Value) := hdep { on := 18, ground := .data } (by simp) rfl _ rfl
        clear hdep hL
        refine wpOp_step rfl (fun K hK => ?_)
        go_simp
        exact hK _ _ ⟨_, rfl, (fun h => by cases h), (by first | rfl | (exact congrArg (Value.int .i64) (by first | rfl | (rw [IntWalk.i64_left, IntWalk.wrap64_in _ (by omega)]) | omega)) | (simp; done) | (simp; omega) | (simp; rw [Int.tmod_eq_emod_of_nonneg (by omega)]; omega)), But.refl _ _, trivial⟩
      · cases ho
        intro fu act u hW hB hsz hL hdep
        replace hB := hB [] (fun j hj hd k hk => by
          cases hk)
        have e16 : act.tmps.getD 61 undef = (.bool true : Value) := hdep { on := 16, ground := .guard } (by simp) rfl _ rfl
        have e16' := get_some e16 (by simp [undef])
        have e19 : act.tmps.getD 64 undef = (.pointer (some ⟨x2, 0, none⟩) : Value) := hdep { on := 19, ground := .data } (by simp) rfl _ rfl
        clear hdep hL
        have r55 : u.cell? ⟨x2, 0, none⟩ = some (.int .i64 100) := ((O_x.out.but hB (by first | (simp; done) | (simp; omega)) (by first | (simp; done) | (simp; omega)) (by first | (simp; done) | (simp; omega))).C.cel 0 (by rw [L_x.out.Cl]; omega)).trans (congrArg (fun x => some (Value.int .i64 x)) (HC0.out))
        refine wpOp_step rfl (fun K hK => ?_)
        go_simp
        exact hK _ _ ⟨_, rfl, (fun h => by cases h), (by first | rfl | (exact congrArg (Value.int .i64) (by first | rfl | (rw [IntWalk.i64_left, IntWalk.wrap64_in _ (by omega)]) | omega)) | (simp; done) | (simp; omega) | (simp; rw [Int.tmod_eq_emod_of_nonneg (by omega)]; omega)), But.refl _ _, trivial⟩
      · cases ho
        intro fu act u hW hB hsz hL hdep
        replace hB := hB [] (fun j hj hd k hk => by
          cases hk)
        have e16 : act.tmps.getD 61 undef = (.bool true : Value) := hdep { on := 16, ground := .guard } (by simp) rfl _ rfl
        have e16' := get_some e16 (by simp [undef])
        have e20 : act.tmps.getD 65 undef = (.int .i64 100 : Value) := hdep { on := 20, ground := .data } (by simp) rfl _ rfl
        clear hdep hL
        refine wpOp_step rfl (fun K hK => ?_)
        go_simp
        exact hK _ _ ⟨_, rfl, (fun h => by cases h), (by first | rfl | (exact congrArg (Value.int .i64) (by first | rfl | (rw [IntWalk.i64_left, IntWalk.wrap64_in _ (by omega)]) | omega)) | (simp; done) | (simp; omega) | (simp; rw [Int.tmod_eq_emod_of_nonneg (by omega)]; omega)), But.refl _ _, trivial⟩
      · cases ho
        intro fu act u hW hB hsz hL hdep
        replace hB := hB [] (fun j hj hd k hk => by
          cases hk)
        have e16 : act.tmps.getD 61 undef = (.bool true : Value) := hdep { on := 16, ground := .data } (by simp) rfl _ rfl
        have e21 : act.tmps.getD 66 undef = (.bool true : Value) := hdep { on := 21, ground := .data } (by simp) rfl _ rfl
        clear hdep hL
        refine wpOp_step rfl (fun K hK => ?_)
        go_simp
        exact hK _ _ ⟨_, rfl, (fun h => by cases h), (by first | rfl | (exact congrArg (Value.int .i64) (by first | rfl | (rw [IntWalk.i64_left, IntWalk.wrap64_in _ (by omega)]) | omega)) | (simp; done) | (simp; omega) | (simp; rw [Int.tmod_eq_emod_of_nonneg (by omega)]; omega)), But.refl _ _, trivial⟩
      · cases ho
        intro fu act u hW hB hsz hL hdep
        replace hB := hB [] (fun j hj hd k hk => by
          cases hk)
        have e22 : act.tmps.getD 67 undef = (.bool true : Value) := hdep { on := 22, ground := .data } (by simp) rfl _ rfl
        clear hdep hL
        refine wpOp_step rfl (fun K hK => ?_)
        go_simp
        exact hK _ _ ⟨_, rfl, (fun h => by cases h), (by first | rfl | (exact congrArg (Value.int .i64) (by first | rfl | (rw [IntWalk.i64_left, IntWalk.wrap64_in _ (by omega)]) | omega)) | (simp; done) | (simp; omega) | (simp; rw [Int.tmod_eq_emod_of_nonneg (by omega)]; omega)), But.refl _ _, trivial⟩
      · cases ho
        intro fu act u hW hB hsz hL hdep
        replace hB := hB [] (fun j hj hd k hk => by
          cases hk)
        have e23 : act.tmps.getD 68 undef = (.bool true : Value) := hdep { on := 23, ground := .guard } (by simp) rfl _ rfl
        have e23' := get_some e23 (by simp [undef])
        have x6 : act.tmps.getD 6 undef = (.pointer (some ⟨N_x + 1, 0, none⟩) : Value) := (hL.2.2 6 (no_dst (by kernel_rfl))).trans rfl
        clear hdep hL
        refine wpOp_step rfl (fun K hK => ?_)
        go_simp
        exact hK _ _ ⟨_, rfl, (fun h => by cases h), (by first | rfl | (exact congrArg (Value.int .i64) (by first | rfl | (rw [IntWalk.i64_left, IntWalk.wrap64_in _ (by omega)]) | omega)) | (simp; done) | (simp; omega) | (simp; rw [Int.tmod_eq_emod_of_nonneg (by omega)]; omega)), But.refl _ _, trivial⟩
      · cases ho
        intro fu act u hW hB hsz hL hdep
        replace hB := hB [] (fun j hj hd k hk => by
          cases hk)
        have e23 : act.tmps.getD 68 undef = (.bool true : Value) := hdep { on := 23, ground := .guard } (by simp) rfl _ rfl
        have e23' := get_some e23 (by simp [undef])
        have e24 : act.tmps.getD 69 undef = (.pointer (some ⟨N_x + 1, 1, none⟩) : Value) := hdep { on := 24, ground := .data } (by simp) rfl _ rfl
        clear hdep hL
        have c56 : u.cell? ⟨N_x + 1, 1, none⟩ = some (.slice (some ⟨x1, 0, none⟩) 8 xr) := (B_sx.out.but hB (by first | (simp; done) | (simp; omega))).cel 1 (by simp)
        refine wpOp_step rfl (fun K hK => ?_)
        go_simp
        exact hK _ _ ⟨_, rfl, (fun h => by cases h), (by first | rfl | (exact congrArg (Value.int .i64) (by first | rfl | (rw [IntWalk.i64_left, IntWalk.wrap64_in _ (by omega)]) | omega)) | (simp; done) | (simp; omega) | (simp; rw [Int.tmod_eq_emod_of_nonneg (by omega)]; omega)), But.refl _ _, trivial⟩
      · cases ho
        intro fu act u hW hB hsz hL hdep
        replace hB := hB [] (fun j hj hd k hk => by
          cases hk)
        have e23 : act.tmps.getD 68 undef = (.bool true : Value) := hdep { on := 23, ground := .guard } (by simp) rfl _ rfl
        have e23' := get_some e23 (by simp [undef])
        have x5 : act.tmps.getD 5 undef = (.pointer (some ⟨N_x, 0, none⟩) : Value) := (hL.2.2 5 (no_dst (by kernel_rfl))).trans rfl
        clear hdep hL
        refine wpOp_step rfl (fun K hK => ?_)
        go_simp
        exact hK _ _ ⟨_, rfl, (fun h => by cases h), (by first | rfl | (exact congrArg (Value.int .i64) (by first | rfl | (rw [IntWalk.i64_left, IntWalk.wrap64_in _ (by omega)]) | omega)) | (simp; done) | (simp; omega) | (simp; rw [Int.tmod_eq_emod_of_nonneg (by omega)]; omega)), But.refl _ _, trivial⟩
      · cases ho
        intro fu act u hW hB hsz hL hdep
        replace hB := hB [] (fun j hj hd k hk => by
          cases hk)
        have e23 : act.tmps.getD 68 undef = (.bool true : Value) := hdep { on := 23, ground := .guard } (by simp) rfl _ rfl
        have e23' := get_some e23 (by simp [undef])
        have e26 : act.tmps.getD 71 undef = (.pointer (some ⟨N_x, 1, none⟩) : Value) := hdep { on := 26, ground := .data } (by simp) rfl _ rfl
        clear hdep hL
        have c57 : u.cell? ⟨N_x, 1, none⟩ = some (.slice (some ⟨g1, 0, none⟩) 8 gr) := (B_sg.out.but hB (by first | (simp; done) | (simp; omega))).cel 1 (by simp)
        refine wpOp_step rfl (fun K hK => ?_)
        go_simp
        exact hK _ _ ⟨_, rfl, (fun h => by cases h), (by first | rfl | (exact congrArg (Value.int .i64) (by first | rfl | (rw [IntWalk.i64_left, IntWalk.wrap64_in _ (by omega)]) | omega)) | (simp; done) | (simp; omega) | (simp; rw [Int.tmod_eq_emod_of_nonneg (by omega)]; omega)), But.refl _ _, trivial⟩
      · cases ho
        intro fu act u hW hB hsz hL hdep
        replace hB := hB [] (fun j hj hd k hk => by
          cases hk)
        have e23 : act.tmps.getD 68 undef = (.bool true : Value) := hdep { on := 23, ground := .chain } (by simp) rfl _ rfl
        have e23' := get_some e23 (by simp [undef])
        have e25 : act.tmps.getD 70 undef = (.slice (some ⟨x1, 0, none⟩) 8 xr : Value) := hdep { on := 25, ground := .data } (by simp) rfl _ rfl
        have e27 : act.tmps.getD 72 undef = (.slice (some ⟨g1, 0, none⟩) 8 gr : Value) := hdep { on := 27, ground := .data } (by simp) rfl _ rfl
        clear hdep hL
        refine wpOp_step rfl (fun K hK => ?_)
        go_simp
        refine (same_ints (O_g.out.R.fr (fr_but (L := []) (Below.refl u49.heap.size u49) hB (fun k hk => by cases hk))) (O_x.out.R.fr (fr_but (L := []) (Below.refl u49.heap.size u49) hB (fun k hk => by cases hk))) L_x.out.Rl (by omega)).mono ?_
        rintro e u' ⟨rfl, f'⟩
        go_simp
        exact hK _ _ ⟨_, rfl, (fun h => by cases h), rfl, But.of f', trivial⟩
      · cases ho
        intro fu act u hW hB hsz hL hdep
        replace hB := hB [] (fun j hj hd k hk => by
          cases hk)
        have e23 : act.tmps.getD 68 undef = (.bool true : Value) := hdep { on := 23, ground := .data } (by simp) rfl _ rfl
        have e28 : act.tmps.getD 73 undef = (.bool true : Value) := hdep { on := 28, ground := .data } (by simp) rfl _ rfl
        clear hdep hL
        refine wpOp_step rfl (fun K hK => ?_)
        go_simp
        exact hK _ _ ⟨_, rfl, (fun h => by cases h), (by first | rfl | (exact congrArg (Value.int .i64) (by first | rfl | (rw [IntWalk.i64_left, IntWalk.wrap64_in _ (by omega)]) | omega)) | (simp; done) | (simp; omega) | (simp; rw [Int.tmod_eq_emod_of_nonneg (by omega)]; omega)), But.refl _ _, trivial⟩
      · cases ho
        intro fu act u hW hB hsz hL hdep
        replace hB := hB [] (fun j hj hd k hk => by
          cases hk)
        have e29 : act.tmps.getD 74 undef = (.bool true : Value) := hdep { on := 29, ground := .data } (by simp) rfl _ rfl
        clear hdep hL
        refine wpOp_step rfl (fun K hK => ?_)
        go_simp
        exact hK _ _ ⟨_, rfl, (fun h => by cases h), (by first | rfl | (exact congrArg (Value.int .i64) (by first | rfl | (rw [IntWalk.i64_left, IntWalk.wrap64_in _ (by omega)]) | omega)) | (simp; done) | (simp; omega) | (simp; rw [Int.tmod_eq_emod_of_nonneg (by omega)]; omega)), But.refl _ _, trivial⟩
      · cases ho
        intro fu act u hW hB hsz hL hdep
        replace hB := hB [] (fun j hj hd k hk => by
          cases hk)
        have e30 : act.tmps.getD 75 undef = (.bool true : Value) := hdep { on := 30, ground := .guard } (by simp) rfl _ rfl
        have e30' := get_some e30 (by simp [undef])
        have x9 : act.tmps.getD 9 undef = (.pointer (some ⟨N_z, 0, none⟩) : Value) := (hL.2.2 9 (no_dst (by kernel_rfl))).trans rfl
        clear hdep hL
        refine wpOp_step rfl (fun K hK => ?_)
        go_simp
        exact hK _ _ ⟨_, rfl, (fun h => by cases h), (by first | rfl | (exact congrArg (Value.int .i64) (by first | rfl | (rw [IntWalk.i64_left, IntWalk.wrap64_in _ (by omega)]) | omega)) | (simp; done) | (simp; omega) | (simp; rw [Int.tmod_eq_emod_of_nonneg (by omega)]; omega)), But.refl _ _, trivial⟩
      · cases ho
        intro fu act u hW hB hsz hL hdep
        replace hB := hB [] (fun j hj hd k hk => by
          cases hk)
        have e30 : act.tmps.getD 75 undef = (.bool true : Value) := hdep { on := 30, ground := .guard } (by simp) rfl _ rfl
        have e30' := get_some e30 (by simp [undef])
        have e31 : act.tmps.getD 76 undef = (.pointer (some ⟨N_z, 0, none⟩) : Value) := hdep { on := 31, ground := .data } (by simp) rfl _ rfl
        clear hdep hL
        have c58 : u.cell? ⟨N_z, 0, none⟩ = some (.int .i64 100) := (B_sz.out.but hB (by first | (simp; done) | (simp; omega))).cel 0 (by simp)
        refine wpOp_step rfl (fun K hK => ?_)
        go_simp
        exact hK _ _ ⟨_, rfl, (fun h => by cases h), (by first | rfl | (exact congrArg (Value.int .i64) (by first | rfl | (rw [IntWalk.i64_left, IntWalk.wrap64_in _ (by omega)]) | omega)) | (simp; done) | (simp; omega) | (simp; rw [Int.tmod_eq_emod_of_nonneg (by omega)]; omega)), But.refl _ _, trivial⟩
      · cases ho
        intro fu act u hW hB hsz hL hdep
        replace hB := hB [] (fun j hj hd k hk => by
          cases hk)
        have e30 : act.tmps.getD 75 undef = (.bool true : Value) := hdep { on := 30, ground := .guard } (by simp) rfl _ rfl
        have e30' := get_some e30 (by simp [undef])
        have e32 : act.tmps.getD 77 undef = (.int .i64 100 : Value) := hdep { on := 32, ground := .data } (by simp) rfl _ rfl
        clear hdep hL
        refine wpOp_step rfl (fun K hK => ?_)
        go_simp
        exact hK _ _ ⟨_, rfl, (fun h => by cases h), (by first | rfl | (exact congrArg (Value.int .i64) (by first | rfl | (rw [IntWalk.i64_left, IntWalk.wrap64_in _ (by omega)]) | omega)) | (simp; done) | (simp; omega) | (simp; rw [Int.tmod_eq_emod_of_nonneg (by omega)]; omega)), But.refl _ _, trivial⟩
      · cases ho
        intro fu act u hW hB hsz hL hdep
        replace hB := hB [] (fun j hj hd k hk => by
          cases hk)
        have e30 : act.tmps.getD 75 undef = (.bool true : Value) := hdep { on := 30, ground := .data } (by simp) rfl _ rfl
        have e33 : act.tmps.getD 78 undef = (.bool true : Value) := hdep { on := 33, ground := .data } (by simp) rfl _ rfl
        clear hdep hL
        refine wpOp_step rfl (fun K hK => ?_)
        go_simp
        exact hK _ _ ⟨_, rfl, (fun h => by cases h), (by first | rfl | (exact congrArg (Value.int .i64) (by first | rfl | (rw [IntWalk.i64_left, IntWalk.wrap64_in _ (by omega)]) | omega)) | (simp; done) | (simp; omega) | (simp; rw [Int.tmod_eq_emod_of_nonneg (by omega)]; omega)), But.refl _ _, trivial⟩
      · cases ho
        intro fu act u hW hB hsz hL hdep
        replace hB := hB [] (fun j hj hd k hk => by
          cases hk)
        have e34 : act.tmps.getD 79 undef = (.bool true : Value) := hdep { on := 34, ground := .data } (by simp) rfl _ rfl
        clear hdep hL
        refine wpOp_step rfl (fun K hK => ?_)
        go_simp
        exact hK _ _ ⟨_, rfl, (fun h => by cases h), (by first | rfl | (exact congrArg (Value.int .i64) (by first | rfl | (rw [IntWalk.i64_left, IntWalk.wrap64_in _ (by omega)]) | omega)) | (simp; done) | (simp; omega) | (simp; rw [Int.tmod_eq_emod_of_nonneg (by omega)]; omega)), But.refl _ _, trivial⟩
      · cases ho
        intro fu act u hW hB hsz hL hdep
        replace hB := hB [] (fun j hj hd k hk => by
          cases hk)
        have e35 : act.tmps.getD 80 undef = (.bool true : Value) := hdep { on := 35, ground := .guard } (by simp) rfl _ rfl
        have e35' := get_some e35 (by simp [undef])
        have x12 : act.tmps.getD 12 undef = (.pointer (some ⟨N_v + 1, 0, none⟩) : Value) := (hL.2.2 12 (no_dst (by kernel_rfl))).trans rfl
        clear hdep hL
        refine wpOp_step rfl (fun K hK => ?_)
        go_simp
        exact hK _ _ ⟨_, rfl, (fun h => by cases h), (by first | rfl | (exact congrArg (Value.int .i64) (by first | rfl | (rw [IntWalk.i64_left, IntWalk.wrap64_in _ (by omega)]) | omega)) | (simp; done) | (simp; omega) | (simp; rw [Int.tmod_eq_emod_of_nonneg (by omega)]; omega)), But.refl _ _, trivial⟩
      · cases ho
        intro fu act u hW hB hsz hL hdep
        replace hB := hB [] (fun j hj hd k hk => by
          cases hk)
        have e35 : act.tmps.getD 80 undef = (.bool true : Value) := hdep { on := 35, ground := .guard } (by simp) rfl _ rfl
        have e35' := get_some e35 (by simp [undef])
        have e36 : act.tmps.getD 81 undef = (.pointer (some ⟨N_v + 1, 2, none⟩) : Value) := hdep { on := 36, ground := .data } (by simp) rfl _ rfl
        clear hdep hL
        have c59 : u.cell? ⟨N_v + 1, 2, none⟩ = some (.int .i64 wh) := (B_ev.out.but hB (by first | (simp; done) | (simp; omega))).cel 2 (by simp)
        refine wpOp_step rfl (fun K hK => ?_)
        go_simp
        exact hK _ _ ⟨_, rfl, (fun h => by cases h), (by first | rfl | (exact congrArg (Value.int .i64) (by first | rfl | (rw [IntWalk.i64_left, IntWalk.wrap64_in _ (by omega)]) | omega)) | (simp; done) | (simp; omega) | (simp; rw [Int.tmod_eq_emod_of_nonneg (by omega)]; omega)), But.refl _ _, trivial⟩
      · cases ho
        intro fu act u hW hB hsz hL hdep
        replace hB := hB [] (fun j hj hd k hk => by
          cases hk)
        have e35 : act.tmps.getD 80 undef = (.bool true : Value) := hdep { on := 35, ground := .guard } (by simp) rfl _ rfl
        have e35' := get_some e35 (by simp [undef])
        have x7 : act.tmps.getD 7 undef = (.pointer (some ⟨N_x + 1 + 1, 0, none⟩) : Value) := (hL.2.2 7 (no_dst (by kernel_rfl))).trans rfl
        clear hdep hL
        refine wpOp_step rfl (fun K hK => ?_)
        go_simp
        exact hK _ _ ⟨_, rfl, (fun h => by cases h), (by first | rfl | (exact congrArg (Value.int .i64) (by first | rfl | (rw [IntWalk.i64_left, IntWalk.wrap64_in _ (by omega)]) | omega)) | (simp; done) | (simp; omega) | (simp; rw [Int.tmod_eq_emod_of_nonneg (by omega)]; omega)), But.refl _ _, trivial⟩
      · cases ho
        intro fu act u hW hB hsz hL hdep
        replace hB := hB [] (fun j hj hd k hk => by
          cases hk)
        have e35 : act.tmps.getD 80 undef = (.bool true : Value) := hdep { on := 35, ground := .guard } (by simp) rfl _ rfl
        have e35' := get_some e35 (by simp [undef])
        have e38 : act.tmps.getD 83 undef = (.pointer (some ⟨N_x + 1 + 1, 2, none⟩) : Value) := hdep { on := 38, ground := .data } (by simp) rfl _ rfl
        clear hdep hL
        have c60 : u.cell? ⟨N_x + 1 + 1, 2, none⟩ = some (.int .i64 wh) := (B_ex.out.but hB (by first | (simp; done) | (simp; omega))).cel 2 (by simp)
        refine wpOp_step rfl (fun K hK => ?_)
        go_simp
        exact hK _ _ ⟨_, rfl, (fun h => by cases h), (by first | rfl | (exact congrArg (Value.int .i64) (by first | rfl | (rw [IntWalk.i64_left, IntWalk.wrap64_in _ (by omega)]) | omega)) | (simp; done) | (simp; omega) | (simp; rw [Int.tmod_eq_emod_of_nonneg (by omega)]; omega)), But.refl _ _, trivial⟩
      · cases ho
        intro fu act u hW hB hsz hL hdep
        replace hB := hB [] (fun j hj hd k hk => by
          cases hk)
        have e35 : act.tmps.getD 80 undef = (.bool true : Value) := hdep { on := 35, ground := .guard } (by simp) rfl _ rfl
        have e35' := get_some e35 (by simp [undef])
        have e37 : act.tmps.getD 82 undef = (.int .i64 wh : Value) := hdep { on := 37, ground := .data } (by simp) rfl _ rfl
        have e39 : act.tmps.getD 84 undef = (.int .i64 wh : Value) := hdep { on := 39, ground := .data } (by simp) rfl _ rfl
        clear hdep hL
        refine wpOp_step rfl (fun K hK => ?_)
        go_simp
        exact hK _ _ ⟨_, rfl, (fun h => by cases h), (by first | rfl | (exact congrArg (Value.int .i64) (by first | rfl | (rw [IntWalk.i64_left, IntWalk.wrap64_in _ (by omega)]) | omega)) | (simp; done) | (simp; omega) | (simp; rw [Int.tmod_eq_emod_of_nonneg (by omega)]; omega)), But.refl _ _, trivial⟩
      · cases ho
        intro fu act u hW hB hsz hL hdep
        replace hB := hB [] (fun j hj hd k hk => by
          cases hk)
        have e35 : act.tmps.getD 80 undef = (.bool true : Value) := hdep { on := 35, ground := .data } (by simp) rfl _ rfl
        have e40 : act.tmps.getD 85 undef = (.bool true : Value) := hdep { on := 40, ground := .data } (by simp) rfl _ rfl
        clear hdep hL
        refine wpOp_step rfl (fun K hK => ?_)
        go_simp
        exact hK _ _ ⟨_, rfl, (fun h => by cases h), (by first | rfl | (exact congrArg (Value.int .i64) (by first | rfl | (rw [IntWalk.i64_left, IntWalk.wrap64_in _ (by omega)]) | omega)) | (simp; done) | (simp; omega) | (simp; rw [Int.tmod_eq_emod_of_nonneg (by omega)]; omega)), But.refl _ _, trivial⟩
      · cases ho
        intro fu act u hW hB hsz hL hdep
        replace hB := hB [] (fun j hj hd k hk => by
          cases hk)
        have e41 : act.tmps.getD 86 undef = (.bool true : Value) := hdep { on := 41, ground := .data } (by simp) rfl _ rfl
        clear hdep hL
        refine wpOp_step rfl (fun K hK => ?_)
        go_simp
        exact hK _ _ ⟨_, rfl, (fun h => by cases h), (by first | rfl | (exact congrArg (Value.int .i64) (by first | rfl | (rw [IntWalk.i64_left, IntWalk.wrap64_in _ (by omega)]) | omega)) | (simp; done) | (simp; omega) | (simp; rw [Int.tmod_eq_emod_of_nonneg (by omega)]; omega)), But.refl _ _, trivial⟩
      · cases ho
        intro fu act u hW hB hsz hL hdep
        replace hB := hB [] (fun j hj hd k hk => by
          cases hk)
        have e42 : act.tmps.getD 87 undef = (.bool true : Value) := hdep { on := 42, ground := .guard } (by simp) rfl _ rfl
        have e42' := get_some e42 (by simp [undef])
        have x11 : act.tmps.getD 11 undef = (.pointer (some ⟨N_v, 0, none⟩) : Value) := (hL.2.2 11 (no_dst (by kernel_rfl))).trans rfl
        clear hdep hL
        refine wpOp_step rfl (fun K hK => ?_)
        go_simp
        exact hK _ _ ⟨_, rfl, (fun h => by cases h), (by first | rfl | (exact congrArg (Value.int .i64) (by first | rfl | (rw [IntWalk.i64_left, IntWalk.wrap64_in _ (by omega)]) | omega)) | (simp; done) | (simp; omega) | (simp; rw [Int.tmod_eq_emod_of_nonneg (by omega)]; omega)), But.refl _ _, trivial⟩
      · cases ho
        intro fu act u hW hB hsz hL hdep
        replace hB := hB [] (fun j hj hd k hk => by
          cases hk)
        have e42 : act.tmps.getD 87 undef = (.bool true : Value) := hdep { on := 42, ground := .guard } (by simp) rfl _ rfl
        have e42' := get_some e42 (by simp [undef])
        have e43 : act.tmps.getD 88 undef = (.pointer (some ⟨N_v, 0, none⟩) : Value) := hdep { on := 43, ground := .data } (by simp) rfl _ rfl
        clear hdep hL
        have c61 : u.cell? ⟨N_v, 0, none⟩ = some (.int .i64 8) := (B_sv.out.but hB (by first | (simp; done) | (simp; omega))).cel 0 (by simp)
        refine wpOp_step rfl (fun K hK => ?_)
        go_simp
        exact hK _ _ ⟨_, rfl, (fun h => by cases h), (by first | rfl | (exact congrArg (Value.int .i64) (by first | rfl | (rw [IntWalk.i64_left, IntWalk.wrap64_in _ (by omega)]) | omega)) | (simp; done) | (simp; omega) | (simp; rw [Int.tmod_eq_emod_of_nonneg (by omega)]; omega)), But.refl _ _, trivial⟩
      · cases ho
        intro fu act u hW hB hsz hL hdep
        replace hB := hB [] (fun j hj hd k hk => by
          cases hk)
        have e42 : act.tmps.getD 87 undef = (.bool true : Value) := hdep { on := 42, ground := .guard } (by simp) rfl _ rfl
        have e42' := get_some e42 (by simp [undef])
        have e44 : act.tmps.getD 89 undef = (.int .i64 8 : Value) := hdep { on := 44, ground := .data } (by simp) rfl _ rfl
        clear hdep hL
        refine wpOp_step rfl (fun K hK => ?_)
        go_simp
        exact hK _ _ ⟨_, rfl, (fun h => by cases h), (by first | rfl | (exact congrArg (Value.int .i64) (by first | rfl | (rw [IntWalk.i64_left, IntWalk.wrap64_in _ (by omega)]) | omega)) | (simp; done) | (simp; omega) | (simp; rw [Int.tmod_eq_emod_of_nonneg (by omega)]; omega)), But.refl _ _, trivial⟩
      · cases ho
        intro fu act u hW hB hsz hL hdep
        replace hB := hB [] (fun j hj hd k hk => by
          cases hk)
        have e42 : act.tmps.getD 87 undef = (.bool true : Value) := hdep { on := 42, ground := .data } (by simp) rfl _ rfl
        have e45 : act.tmps.getD 90 undef = (.bool true : Value) := hdep { on := 45, ground := .data } (by simp) rfl _ rfl
        clear hdep hL
        refine wpOp_step rfl (fun K hK => ?_)
        go_simp
        exact hK _ _ ⟨_, rfl, (fun h => by cases h), (by first | rfl | (exact congrArg (Value.int .i64) (by first | rfl | (rw [IntWalk.i64_left, IntWalk.wrap64_in _ (by omega)]) | omega)) | (simp; done) | (simp; omega) | (simp; rw [Int.tmod_eq_emod_of_nonneg (by omega)]; omega)), But.refl _ _, trivial⟩
      · cases ho
        intro fu act u hW hB hsz hL hdep
        replace hB := hB [] (fun j hj hd k hk => by
          cases hk)
        have e46 : act.tmps.getD 91 undef = (.bool true : Value) := hdep { on := 46, ground := .data } (by simp) rfl _ rfl
        clear hdep hL
        refine wpOp_step rfl (fun K hK => ?_)
        go_simp
        exact hK _ _ ⟨_, rfl, (fun h => by cases h), (by first | rfl | (exact congrArg (Value.int .i64) (by first | rfl | (rw [IntWalk.i64_left, IntWalk.wrap64_in _ (by omega)]) | omega)) | (simp; done) | (simp; omega) | (simp; rw [Int.tmod_eq_emod_of_nonneg (by omega)]; omega)), But.refl _ _, trivial⟩
      · exact absurd ho (by simp)
    case fin =>
      intro act u hW hsz hB hL hsf
      replace hB := hB [] (fun j k hk => by
        cases hk)
      have d47 := hsf 47 _ rfl
      obtain ⟨ysl, ha, hy⟩ := hL.puts [45, 46, 47, 48, 49, 50, 51, 52, 53, 54, 55, 56, 57, 58, 59, 60, 61, 62, 63, 64, 65, 66, 67, 68, 69, 70, 71, 72, 73, 74, 75, 76, 77, 78, 79, 80, 81, 82, 83, 84, 85, 86, 87, 88, 89, 90, 91, 2] (by kernel_rfl)
      have e47 : ysl 2 = _ := (hy 2).symm.trans d47
      clear hL hsf hy d47
      simp only [List.foldl, List.setIfInBounds_toArray, List.set_cons_succ, List.set_cons_zero, e47] at ha
      subst ha
      clear e47
      have fB : Fr u49 u := (fr_but (L := []) (Below.refl u49.heap.size u49) hB (fun k hk => by cases hk))
      go_wp2
      go_ret
      exact ⟨rfl, Fr.trans HF.out fB⟩

end Go.Proofs.YtbjapncfgancoaaDoor.fnDoSys
