/- For every code (any bytes), law FnDoOwn returns true and its argument reads as before (no condition; the two tables read as the program's text lays them, which the card ties). -/
import Derived.Test.YtbjapncfgancoaaDoorCards
import Derived.Test.YtbjapncfgancoaaDoorTie
import Derived.Test.YtbjapncfgancoaaDoorLaid
import Derived.Test.YtbjapncfgancoaaDoorSx2
import Derived.WalkKit
import Derived.ProofKit
import Derived.OpenShut
import Derived.ShutString
import Derived.SliceStrings
import Derived.ChangeOld
import Derived.Below
import Derived.SevenTiedAt
namespace Go.Proofs.YtbjapncfgancoaaDoor.fnDoOwn
open Go.ChangeShapes Go.WideShapes Go.ChangeAt Go.RowKit
set_option linter.unusedVariables false

def IsRow (k : IntKind) (w : World) (a : Option Addr) (len cap : Nat) (zs : List Int) : Prop :=
  (a = none ∧ len = 0 ∧ cap = 0 ∧ zs = []) ∨
  ∃ x, a = some x ∧ len ≤ cap ∧ cap ≤ maxLen ∧ zs.length = cap ∧ (∀ i, i < zs.length → w.cell? (x.add i) = some (.int k (zs.getD i 0))) ∧ ∀ n ∈ zs, (Lit.int k n).wf = true

set_option maxRecDepth 100000 in
set_option maxHeartbeats 8000000 in
theorem walk (a0 : Option Addr) (len0 cap0 : Nat) (z0 : List Int) (w : World) (ht : Tabs w) (w0 : IsRow .u8 w a0 len0 cap0 z0) :
    Calls Tryd.prog 14 #[.slice a0 len0 cap0] w fun e w' => e = .returned (.bool true) ∧ Below w.heap.size w w' := by
  have hc : Code1 w.heap.size w a0 len0 cap0 := by
    rcases w0 with ⟨rfl, rfl, rfl, rfl⟩ | ⟨x, rfl, hl, hm, hz, hcell, hwz⟩
    · exact ⟨Nat.le_refl _, Nat.le_refl _, Nat.zero_le _, .inl rfl, fun _ => rfl⟩
    · exact ⟨Nat.le_refl _, hl, hm, bytes_of_row hl hz hcell hwz, by simp⟩
  clear w0
  by_cases hlen : (1048576 : Int) < (len0 : Int)
  · go_enter Tryd.func14, Tryd.ntmps14
    go_wp2
    go_ret
    exact ⟨rfl, Below.refl _ _⟩
  have HT := Lib.hid ht
  have hl : len0 ≤ 1048576 := by omega
  clear ht
  go_enter Tryd.func14, Tryd.ntmps14
  go_wp2_with fail
  refine (laws_haWords w.heap.size a0 len0 cap0 w hc hl).mono ?_
  rintro e w' ⟨a, b, ha, hb, rfl, rfl⟩
  obtain ⟨a0', a1'⟩ := okB_true ha
  obtain ⟨b0', b1'⟩ := okB_true hb
  clear hc hl
  go_wp2_with fail
  go_loopw [5, 6, 7, 8, 9, 10, 11, 12] (fun fv _ _ _ _ _ _ _ wr => ∃ f : Int, 0 ≤ f ∧ f ≤ 5 ∧ fv = .int .i64 f ∧ Fr w wr) (fun fv _ _ _ _ _ _ _ _ => 5 - (intOf fv).toNat)
  case atStart => exact ⟨0, by omega, by omega, rfl, Below.refl _ _⟩
  case round =>
    obtain ⟨f, f0, f8, rfl, hFr⟩ := hrel
    by_cases hf : f < 5
    · obtain ⟨wv, hwv⟩ : ∃ x, (if f = 3 then a % 4 / 2 * 2 else a) = x := ⟨_, rfl⟩
      have hi1 : iok 15 0 1 0 f 0 = true := by simp [iok, okAt, layN, layL, eL, eG, encL]; omega
      have hi2 : iok 14 3 0 0 f 0 = true := by simp [iok, okAt, layN, layL, eL, eG, encL]; omega
      obtain ⟨wd, hwd⟩ : ∃ x, worD 15 0 1 0 f 0 = x := ⟨_, rfl⟩
      obtain ⟨wd2, hwd2⟩ : ∃ x, worD 14 3 0 0 f 0 = x := ⟨_, rfl⟩
      have hk0 : OkS (hS 40 wd a b) := hS_ok (by omega) (by omega) (worD_ok hi1 hwd) ha hb
      have hst1 : stepS (hS 40 wd a b) false = (⟨41, hR a b, setF (hS 40 wd a b) f a, hM 40 wd⟩, ⟨40, wd, 0, 0, 0, -1, 0⟩) := sup_set (hS_sup (by omega) (by omega)) hi1 hwd
      have hk1 := step_okS hk0 hst1
      have hk2 : OkS ⟨41, hR a b, setF (hS 40 wd a b) f a, (hM 40 wd).set 41 wd2⟩ := lay_okS (a := 41) hk1 (by omega) (by omega) (worD_ok hi2 hwd2)
      have hlc : (setF (hS 40 wd a b) f a).length = 5 := hk1.Cl
      have hcf : (setF (hS 40 wd a b) f a).getD f.toNat 0 = wv := by
        show ((zeros 5).set f.toNat (if f = 3 then a % 4 / 2 * 2 else a)).getD f.toNat 0 = wv
        rw [getD_set, if_pos ⟨rfl, by rw [zeros_len]; omega⟩, hwv]
      have hc3 : (setF (hS 40 wd a b) f a).getD 3 0 % 2 = 0 := by
        show ((zeros 5).set f.toNat (if f = 3 then a % 4 / 2 * 2 else a)).getD 3 0 % 2 = 0
        rw [getD_set]
        by_cases h3 : f = 3
        · rw [if_pos ⟨by omega, by rw [zeros_len]; omega⟩, if_pos h3]
          omega
        · rw [if_neg (by omega), zeros_get]
          rfl
      have hst2 : stepS ⟨41, hR a b, setF (hS 40 wd a b) f a, (hM 40 wd).set 41 wd2⟩ false = (⟨42, (hR a b).set 3 wv, setF (hS 40 wd a b) f a, (hM 40 wd).set 41 wd2⟩, ⟨41, wd2, 0, 3, wv, -1, 0⟩) := by
        rw [sup_get (s := ⟨41, hR a b, setF (hS 40 wd a b) f a, (hM 40 wd).set 41 wd2⟩) ⟨by show (0 : Int) ≤ 41; omega, by show (41 : Int) < 256; omega, hc3, by show ((hM 40 wd).set 41 wd2).getD 41 0 = wd2; rw [getD_set, if_pos ⟨rfl, by simp [hM, zeros]⟩]⟩ hi2 hwd2]
        show ((⟨_, putR (hR a b) 3 ((setF (hS 40 wd a b) f a).getD f.toNat 0), _, _⟩ : St), putE _ 3 ((setF (hS 40 wd a b) f a).getD f.toNat 0)) = _
        rw [hcf]
        rfl
      have hk3 := step_okS hk2 hst2
      generalize setF (hS 40 wd a b) f a = C1 at *
      have HI1 := Lib.hid hi1
      have HI2 := Lib.hid hi2
      have HWD := Lib.hid hwd
      have HWD2 := Lib.hid hwd2
      have HST1 := Lib.hid hst1
      have HST2 := Lib.hid hst2
      have HK0 := Lib.hid hk0
      have HK1 := Lib.hid hk1
      have HK2 := Lib.hid hk2
      have HK3 := Lib.hid hk3
      have HCF := Lib.hid hcf
      have HWV := Lib.hid hwv
      clear hi1 hi2 hwd hwd2 hst1 hst2 hk0 hk1 hk2 hk3 hcf hwv hc3 hlc
      have HF : Hid (Fr w wr) := Lib.hid hFr
      clear hFr
      go_wp2_with fail
      have m2 := HF.out.size
      refine (run_to (s2 := ⟨41, hR a b, C1, hM 40 wd⟩) (e2 := ⟨40, wd, 0, 0, 0, -1, 0⟩) HI1.out (by omega) (by omega) ha hb HWD.out HST1.out wr (HT.out.fr HF.out)).mono ?_
      rintro e u1 ⟨g1, g2, g3, gr, gc, gm, x1, x2, x3, xr, xc, xm, X0, he, ho, hx, ⟨hl1, hl2, hl3, hl4, hl5, hl6, hl7, hl8, hl9⟩, f⟩
      replace HF := Lib.hid (Fr.trans HF.out f)
      have O_g := Lib.hid (show Own u1 g1 g2 g3 ⟨40, hR a b, zeros 5, hM 40 wd⟩ from ho)
      have O_x := Lib.hid (show Own u1 x1 x2 x3 ⟨41, hR a b, C1, hM 40 wd⟩ from hx)
      have he2 : e = .returned (.tuple #[.agg #[.int .i64 40, .slice (some ⟨g1, 0, none⟩) 8 gr, .slice (some ⟨g2, 0, none⟩) 5 gc, .slice (some ⟨g3, 0, none⟩) 256 gm], .agg #[.int .i64 41, .slice (some ⟨x1, 0, none⟩) 8 xr, .slice (some ⟨x2, 0, none⟩) 5 xc, .slice (some ⟨x3, 0, none⟩) 256 xm], .agg #[.int .i64 40, .int .i64 wd, .int .i64 0, .int .i64 0, .int .i64 0, .int .i64 (-1), .int .i64 0]]) := he
      subst he2
      clear he ho hx f
      have m3a := O_g.out.R.lt
      have m3b := O_g.out.C.lt
      have m3c := O_g.out.M.lt
      have m4a := O_x.out.R.lt
      have m4b := O_x.out.C.lt
      have m4c := O_x.out.M.lt
      go_upto_region 8 with fail
      refine wp_gen (fun v9 => Cel v9 u1.heap.size [.int .i64 40, .slice (some ⟨g1, 0, none⟩) 8 gr, .slice (some ⟨g2, 0, none⟩) 5 gc, .slice (some ⟨g3, 0, none⟩) 256 gm] ∧ Cel v9 (u1.heap.size + 1) [.int .i64 41, .slice (some ⟨x1, 0, none⟩) 8 xr, .slice (some ⟨x2, 0, none⟩) 5 xc, .slice (some ⟨x3, 0, none⟩) 256 xm] ∧ Cel v9 (u1.heap.size + 1 + 1) [.int .i64 40, .int .i64 wd, .int .i64 0, .int .i64 0, .int .i64 0, .int .i64 (-1), .int .i64 0] ∧ Own v9 g1 g2 g3 ⟨40, hR a b, zeros 5, hM 40 wd⟩ ∧ Own v9 x1 x2 x3 ⟨41, hR a b, C1, hM 40 wd⟩ ∧ Fr w v9) ⟨?_, ?_, ?_, ?_, ?_, ?_⟩ ?_
      · (repeat (first | (with_reducible assumption) | (with_reducible exact Cel.new _ _ _ _ (by first | rfl | omega | (simp; done) | (simp; omega))) | (with_reducible refine Cel.alloc ?_ _) | (with_reducible refine Cel.drew ?_) | (with_reducible refine Cel.drewN ?_ _) | (with_reducible refine Cel.other ?_ _ _ _ (by omega))))
      · (repeat (first | (with_reducible assumption) | (with_reducible exact Cel.new _ _ _ _ (by first | rfl | omega | (simp; done) | (simp; omega))) | (with_reducible refine Cel.alloc ?_ _) | (with_reducible refine Cel.drew ?_) | (with_reducible refine Cel.drewN ?_ _) | (with_reducible refine Cel.other ?_ _ _ _ (by omega))))
      · (repeat (first | (with_reducible assumption) | (with_reducible exact Cel.new _ _ _ _ (by first | rfl | omega | (simp; done) | (simp; omega))) | (with_reducible refine Cel.alloc ?_ _) | (with_reducible refine Cel.drew ?_) | (with_reducible refine Cel.drewN ?_ _) | (with_reducible refine Cel.other ?_ _ _ _ (by omega))))
      · have q9 := O_g.out
        (repeat (first | (with_reducible assumption) | (with_reducible refine Own.alloc ?_ _) | (with_reducible refine Own.drew ?_) | (with_reducible refine Own.drewN ?_ _) | (with_reducible refine Own.other ?_ _ _ _ (by omega) (by omega) (by omega))))
      · have q9 := O_x.out
        (repeat (first | (with_reducible assumption) | (with_reducible refine Own.alloc ?_ _) | (with_reducible refine Own.drew ?_) | (with_reducible refine Own.drewN ?_ _) | (with_reducible refine Own.other ?_ _ _ _ (by omega) (by omega) (by omega))))
      · refine fr_but (L := []) HF.out ?_ (fun k hk => by first | (cases hk; done) | (simp at hk; omega))
        (repeat (first | (with_reducible exact But.refl _ _) | (with_reducible assumption) | (with_reducible refine But.alloc ?_ _) | (with_reducible refine But.drew ?_) | (with_reducible refine But.drewN ?_ _) | (with_reducible refine But.set ?_ _ _ _ (by first | (left; simp; done) | (right; simp; done) | (right; omega) | (right; simp; omega)))))
      rintro u5 ⟨z0, z1, z2, z3, z4, z5⟩
      have B_sg := Lib.hid z0
      have B_sx := Lib.hid z1
      have B_ex := Lib.hid z2
      replace O_g := Lib.hid z3
      replace O_x := Lib.hid z4
      replace HF := Lib.hid z5
      clear z0 z1 z2 z3 z4 z5
      generalize u1.heap.size = N_x at *
      have L_x : Hid (Lens ⟨41, hR a b, C1, hM 40 wd⟩) := Lib.hid ⟨HK1.out.Rl, HK1.out.Cl, HK1.out.Ml⟩
      refine wp_region_rows 77 6 [] (fun _ => []) lb0_in (fun i => false) (fun i v9 u => match i with | 0 => v9 = .agg #[.int .i64 41, .slice (some ⟨x1, 0, none⟩) 8 xr, .slice (some ⟨x2, 0, none⟩) 5 xc, .slice (some ⟨x3, 0, none⟩) 256 xm] | 1 => v9 = .int .i64 f | 2 => v9 = .agg #[.int .i64 14, .int .i64 3, .int .i64 0, .int .i64 0, .int .i64 f, .int .i64 0] | 3 => v9 = .int .i64 wd2 | 4 => ∃ y1 y2 y3 yr yc ym, v9 = .agg #[.int .i64 41, .slice (some ⟨y1, 0, none⟩) 8 yr, .slice (some ⟨y2, 0, none⟩) 5 yc, .slice (some ⟨y3, 0, none⟩) 256 ym] ∧ Own u y1 y2 y3 ⟨41, hR a b, C1, (hM 40 wd).set 41 wd2⟩ ∧ (u5.heap.size ≤ y1 ∧ u5.heap.size ≤ y2 ∧ u5.heap.size ≤ y3) | 5 => ∃ zz, v9 = .pointer (some ⟨zz, 0, none⟩) ∧ Cel u zz [.int .i64 0, .slice none 0 0, .slice none 0 0, .slice none 0 0] ∧ u5.heap.size ≤ zz | _ => True) ?mono (by kernel_rfl) (by kernel_rfl) rfl (by kernel_rfl) (by kernel_rfl) (by decide) ?step ?fin
      case mono =>
        intro i j v u u' hi hij hdj hsz h hB
        rcases j with _ | _ | _ | _ | _ | _ | _ | j
        · exact h
        · exact h
        · exact h
        · exact h
        · obtain ⟨k1, k2, k3, kr, kc, km, e, ho, hh⟩ := h
          exact ⟨k1, k2, k3, kr, kc, km, e, ho.but hB (by simp) (by simp) (by simp), hh⟩
        · obtain ⟨zz, e, hz, hm⟩ := h
          exact ⟨zz, e, hz.but hB (by simp), hm⟩
        · trivial
        · trivial
      case step =>
        intro i o ho hiz
        rcases i with _ | _ | _ | _ | _ | _ | _ | i
        · clear hiz
          cases ho
          intro act u hB hL hdep hap hnw
          replace hB := hB [] (fun j _ k hk => lb0_in j k hk)
          obtain ⟨ysl, ha, hy⟩ := hL.puts [34, 35, 36, 37, 38, 9] (by kernel_rfl)
          clear hdep hL hy hap hnw
          simp only [List.foldl, List.setIfInBounds_toArray, List.set_cons_succ, List.set_cons_zero] at ha
          subst ha
          have c6 : u.cell? ⟨N_x + 1, 0, none⟩ = some (.int .i64 41) := (B_sx.out.but hB (by first | (simp; done) | (simp; omega))).cel 0 (by simp)
          have c7 : u.cell? ⟨N_x + 1, 1, none⟩ = some (.slice (some ⟨x1, 0, none⟩) 8 xr) := (B_sx.out.but hB (by first | (simp; done) | (simp; omega))).cel 1 (by simp)
          have c8 : u.cell? ⟨N_x + 1, 2, none⟩ = some (.slice (some ⟨x2, 0, none⟩) 5 xc) := (B_sx.out.but hB (by first | (simp; done) | (simp; omega))).cel 2 (by simp)
          have c9 : u.cell? ⟨N_x + 1, 3, none⟩ = some (.slice (some ⟨x3, 0, none⟩) 256 xm) := (B_sx.out.but hB (by first | (simp; done) | (simp; omega))).cel 3 (by simp)
          refine wpOp_step rfl (fun K hK => ?_)
          go_simp
          exact hK _ _ ⟨_, rfl, (fun h => by cases h), (by first | rfl | (exact congrArg (Value.int .i64) (by first | rfl | (rw [IntWalk.i64_left, IntWalk.wrap64_in _ (by omega)]) | omega)) | (simp; done) | (simp; omega) | (simp; rw [Int.tmod_eq_emod_of_nonneg (by omega)]; omega)), But.refl _ _, (fun h => by cases h)⟩
        · clear hiz
          cases ho
          intro act u hB hL hdep hap hnw
          replace hB := hB [] (fun j _ k hk => lb0_in j k hk)
          obtain ⟨ysl, ha, hy⟩ := hL.puts [34, 35, 36, 37, 38, 9] (by kernel_rfl)
          clear hdep hL hy hap hnw
          simp only [List.foldl, List.setIfInBounds_toArray, List.set_cons_succ, List.set_cons_zero] at ha
          subst ha
          refine wpOp_step rfl (fun K hK => ?_)
          go_simp
          exact hK _ _ ⟨_, rfl, (fun h => by cases h), (by first | rfl | (exact congrArg (Value.int .i64) (by first | rfl | (rw [IntWalk.i64_left, IntWalk.wrap64_in _ (by omega)]) | omega)) | (simp; done) | (simp; omega) | (simp; rw [Int.tmod_eq_emod_of_nonneg (by omega)]; omega)), But.refl _ _, (fun h => by cases h)⟩
        · clear hiz
          cases ho
          intro act u hB hL hdep hap hnw
          replace hB := hB [] (fun j _ k hk => lb0_in j k hk)
          have d1 := hdep { on := 1, ground := .data } (by simp) rfl _ rfl
          obtain ⟨ysl, ha, hy⟩ := hL.puts [34, 35, 36, 37, 38, 9] (by kernel_rfl)
          have e1 : ysl 35 = _ := (hy 35).symm.trans d1
          clear hdep hL hy hap hnw d1
          simp only [List.foldl, List.setIfInBounds_toArray, List.set_cons_succ, List.set_cons_zero, e1] at ha
          subst ha
          clear e1
          refine wpOp_step rfl (fun K hK => ?_)
          go_simp
          exact hK _ _ ⟨_, rfl, (fun h => by cases h), (by first | rfl | (exact congrArg (Value.int .i64) (by first | rfl | (rw [IntWalk.i64_left, IntWalk.wrap64_in _ (by omega)]) | omega)) | (simp; done) | (simp; omega) | (simp; rw [Int.tmod_eq_emod_of_nonneg (by omega)]; omega)), But.refl _ _, (fun h => by cases h)⟩
        · clear hiz
          cases ho
          intro act u hB hL hdep hap hnw
          replace hB := hB [] (fun j _ k hk => lb0_in j k hk)
          have d2 := hdep { on := 2, ground := .data } (by simp) rfl _ rfl
          obtain ⟨ysl, ha, hy⟩ := hL.puts [34, 35, 36, 37, 38, 9] (by kernel_rfl)
          have e2 : ysl 36 = _ := (hy 36).symm.trans d2
          clear hdep hL hy hap hnw d2
          simp only [List.foldl, List.setIfInBounds_toArray, List.set_cons_succ, List.set_cons_zero, e2] at ha
          subst ha
          clear e2
          refine wpOp_step rfl (fun K hK => ?_)
          go_simp
          have EW := impl_CodWord 14 3 0 0 f 0 u ((HT.out.fr HF.out).fr (fr_but (L := []) (Below.refl u5.heap.size u5) hB (fun k hk => by cases hk)))
          rw [HWD2.out] at EW
          refine EW.mono ?_
          rintro e u' ⟨rfl, f'⟩
          go_simp
          exact hK _ _ ⟨_, rfl, (fun h => by cases h), rfl, But.of f', (fun h => by cases h)⟩
        · clear hiz
          cases ho
          intro act u hB hL hdep hap hnw
          replace hB := hB [] (fun j _ k hk => lb0_in j k hk)
          have d0 := hdep { on := 0, ground := .data } (by simp) rfl _ rfl
          have d3 := hdep { on := 3, ground := .data } (by simp) rfl _ rfl
          obtain ⟨ysl, ha, hy⟩ := hL.puts [34, 35, 36, 37, 38, 9] (by kernel_rfl)
          have e0 : ysl 34 = _ := (hy 34).symm.trans d0
          have e3 : ysl 37 = _ := (hy 37).symm.trans d3
          clear hdep hL hy hap hnw d0 d3
          simp only [List.foldl, List.setIfInBounds_toArray, List.set_cons_succ, List.set_cons_zero, e0, e3] at ha
          subst ha
          clear e0 e3
          refine wpOp_step rfl (fun K hK => ?_)
          go_simp
          refine (lay_to (s := ⟨41, hR a b, C1, hM 40 wd⟩) (O_x.out.fr (fr_but (L := []) (Below.refl u5.heap.size u5) hB (fun k hk => by cases hk))) HK1.out rfl (by omega) (by omega) (worD_ok HI2.out HWD2.out)).mono ?_
          rintro e u' ⟨k1, k2, k3, kr, kc, km, he, ho, hl1, hl2, hl3, f'⟩
          obtain rfl := he
          go_simp
          exact hK _ _ ⟨_, rfl, (fun h => by cases h), ⟨k1, k2, k3, kr, kc, km, rfl, ho, Nat.le_trans hB.size hl1, Nat.le_trans hB.size hl2, Nat.le_trans hB.size hl3⟩, But.of f', (fun h => by cases h)⟩
        · clear hiz
          cases ho
          intro act u hB hL hdep hap hnw
          replace hB := hB [] (fun j _ k hk => lb0_in j k hk)
          obtain ⟨ysl, ha, hy⟩ := hL.puts [34, 35, 36, 37, 38, 9] (by kernel_rfl)
          clear hdep hL hy hap hnw
          simp only [List.foldl, List.setIfInBounds_toArray, List.set_cons_succ, List.set_cons_zero] at ha
          subst ha
          refine wpOp_step rfl (fun K hK => ?_)
          go_simp
          exact hK _ _ ⟨_, rfl, (fun h => by cases h), ⟨_, rfl, Cel.new _ [.int .i64 0, .slice none 0 0, .slice none 0 0, .slice none 0 0] _ _ rfl, hB.size⟩, But.of (Fr.alloc _ _), (fun h => by cases h)⟩
        · exact absurd rfl hiz
        · exact absurd ho (by simp)
      case fin =>
        intro act u hB hL hsf hap hnw
        have d4 := hsf 4 _ rfl (by decide)
        have d5 := hsf 5 _ rfl (by decide)
        obtain ⟨ysl, ha, hy⟩ := hL.puts [34, 35, 36, 37, 38, 9] (by kernel_rfl)
        obtain ⟨y1, y2, y3, yr, yc, ym, h4, ho4, hl4⟩ := d4
        have e4 : ysl 38 = .agg #[.int .i64 41, .slice (some ⟨y1, 0, none⟩) 8 yr, .slice (some ⟨y2, 0, none⟩) 5 yc, .slice (some ⟨y3, 0, none⟩) 256 ym] := (hy 38).symm.trans h4
        obtain ⟨zz, h5, hz5, hm5⟩ := d5
        have e5 : ysl 9 = .pointer (some ⟨zz, 0, none⟩) := (hy 9).symm.trans h5
        clear hL hsf hy hap hnw h4 h5
        simp only [List.foldl, List.setIfInBounds_toArray, List.set_cons_succ, List.set_cons_zero, e4, e5] at ha
        subst ha
        clear e4 e5
        have m10 := B_sg.out.lt
        have m11 := B_sx.out.lt
        have m12 := B_ex.out.lt
        have m13 := HF.out.size
        have fB : Fr u5 u := (fr_but (L := []) (Below.refl u5.heap.size u5) hB (fun k hk => by cases hk))
        replace B_sg := Lib.hid (B_sg.out.fr fB)
        replace B_sx := Lib.hid (B_sx.out.fr fB)
        replace B_ex := Lib.hid (B_ex.out.fr fB)
        replace O_g := Lib.hid (O_g.out.fr fB)
        replace O_x := Lib.hid (O_x.out.fr fB)
        replace HF := Lib.hid (Fr.trans HF.out fB)
        have B_sy := Lib.hid hz5
        have O_y := Lib.hid (show Own u y1 y2 y3 ⟨41, hR a b, C1, (hM 40 wd).set 41 wd2⟩ from ho4)
        obtain ⟨hl1, hl2, hl3⟩ := hl4
        obtain ⟨nz1, nz2, nz3⟩ := apart_own hz5 ho4 (lay_okS (s := ⟨41, hR a b, C1, hM 40 wd⟩) (a := 41) HK1.out (by omega) (by omega) (worD_ok HI2.out HWD2.out))
        clear hz5 ho4 hl4 hB fB
        have m14a := O_y.out.R.lt
        have m14b := O_y.out.C.lt
        have m14c := O_y.out.M.lt
        have mzz := B_sy.out.lt
        have c15 : u.cell? ⟨zz, 0, none⟩ = some (.int .i64 0) := B_sy.out.cel 0 (by simp)
        have c16 : u.cell? ⟨zz, 1, none⟩ = some (.slice none 0 0) := B_sy.out.cel 1 (by simp)
        have c17 : u.cell? ⟨zz, 2, none⟩ = some (.slice none 0 0) := B_sy.out.cel 2 (by simp)
        have c18 : u.cell? ⟨zz, 3, none⟩ = some (.slice none 0 0) := B_sy.out.cel 3 (by simp)
        have c19 : u.frozen? ⟨zz, 0, none⟩ = false := B_sy.out.fro 0 (by simp)
        have c20 : u.frozen? ⟨zz, 1, none⟩ = false := B_sy.out.fro 1 (by simp)
        have c21 : u.frozen? ⟨zz, 2, none⟩ = false := B_sy.out.fro 2 (by simp)
        have c22 : u.frozen? ⟨zz, 3, none⟩ = false := B_sy.out.fro 3 (by simp)
        refine wpOp_step rfl (fun K hK => ?_)
        go_simp
        refine hK _ _ ?_
        go_upto_region 9 with fail
        refine wp_gen (fun v9 => Cel v9 N_x [.int .i64 40, .slice (some ⟨g1, 0, none⟩) 8 gr, .slice (some ⟨g2, 0, none⟩) 5 gc, .slice (some ⟨g3, 0, none⟩) 256 gm] ∧ Cel v9 (N_x + 1) [.int .i64 41, .slice (some ⟨x1, 0, none⟩) 8 xr, .slice (some ⟨x2, 0, none⟩) 5 xc, .slice (some ⟨x3, 0, none⟩) 256 xm] ∧ Cel v9 (N_x + 1 + 1) [.int .i64 40, .int .i64 wd, .int .i64 0, .int .i64 0, .int .i64 0, .int .i64 (-1), .int .i64 0] ∧ Cel v9 zz [.int .i64 41, .slice (some ⟨y1, 0, none⟩) 8 yr, .slice (some ⟨y2, 0, none⟩) 5 yc, .slice (some ⟨y3, 0, none⟩) 256 ym] ∧ Own v9 g1 g2 g3 ⟨40, hR a b, zeros 5, hM 40 wd⟩ ∧ Own v9 x1 x2 x3 ⟨41, hR a b, C1, hM 40 wd⟩ ∧ Own v9 y1 y2 y3 ⟨41, hR a b, C1, (hM 40 wd).set 41 wd2⟩ ∧ Fr w v9) ⟨?_, ?_, ?_, ?_, ?_, ?_, ?_, ?_⟩ ?_
        · have q9 := B_sg.out
          (repeat (first | (with_reducible assumption) | (with_reducible exact Cel.new _ _ _ _ (by first | rfl | omega | (simp; done) | (simp; omega))) | (with_reducible refine Cel.alloc ?_ _) | (with_reducible refine Cel.drew ?_) | (with_reducible refine Cel.drewN ?_ _) | (with_reducible refine Cel.other ?_ _ _ _ (by omega))))
        · have q9 := B_sx.out
          (repeat (first | (with_reducible assumption) | (with_reducible exact Cel.new _ _ _ _ (by first | rfl | omega | (simp; done) | (simp; omega))) | (with_reducible refine Cel.alloc ?_ _) | (with_reducible refine Cel.drew ?_) | (with_reducible refine Cel.drewN ?_ _) | (with_reducible refine Cel.other ?_ _ _ _ (by omega))))
        · have q9 := B_ex.out
          (repeat (first | (with_reducible assumption) | (with_reducible exact Cel.new _ _ _ _ (by first | rfl | omega | (simp; done) | (simp; omega))) | (with_reducible refine Cel.alloc ?_ _) | (with_reducible refine Cel.drew ?_) | (with_reducible refine Cel.drewN ?_ _) | (with_reducible refine Cel.other ?_ _ _ _ (by omega))))
        · have q9 := (show Cel ((((u.setCell ⟨zz, 0, none⟩ (.int .i64 41)).setCell ⟨zz, 1, none⟩ (.slice (some ⟨y1, 0, none⟩) 8 yr)).setCell ⟨zz, 2, none⟩ (.slice (some ⟨y2, 0, none⟩) 5 yc)).setCell ⟨zz, 3, none⟩ (.slice (some ⟨y3, 0, none⟩) 256 ym)) zz [.int .i64 41, .slice (some ⟨y1, 0, none⟩) 8 yr, .slice (some ⟨y2, 0, none⟩) 5 yc, .slice (some ⟨y3, 0, none⟩) 256 ym] from ((((B_sy.out.set 0 (.int .i64 41) (by simp)).set 1 (.slice (some ⟨y1, 0, none⟩) 8 yr) (by simp)).set 2 (.slice (some ⟨y2, 0, none⟩) 5 yc) (by simp)).set 3 (.slice (some ⟨y3, 0, none⟩) 256 ym) (by simp)))
          (repeat (first | (with_reducible assumption) | (with_reducible exact Cel.new _ _ _ _ (by first | rfl | omega | (simp; done) | (simp; omega))) | (with_reducible refine Cel.alloc ?_ _) | (with_reducible refine Cel.drew ?_) | (with_reducible refine Cel.drewN ?_ _) | (with_reducible refine Cel.other ?_ _ _ _ (by omega))))
        · have q9 := O_g.out
          (repeat (first | (with_reducible assumption) | (with_reducible refine Own.alloc ?_ _) | (with_reducible refine Own.drew ?_) | (with_reducible refine Own.drewN ?_ _) | (with_reducible refine Own.other ?_ _ _ _ (by omega) (by omega) (by omega))))
        · have q9 := O_x.out
          (repeat (first | (with_reducible assumption) | (with_reducible refine Own.alloc ?_ _) | (with_reducible refine Own.drew ?_) | (with_reducible refine Own.drewN ?_ _) | (with_reducible refine Own.other ?_ _ _ _ (by omega) (by omega) (by omega))))
        · have q9 := O_y.out
          (repeat (first | (with_reducible assumption) | (with_reducible refine Own.alloc ?_ _) | (with_reducible refine Own.drew ?_) | (with_reducible refine Own.drewN ?_ _) | (with_reducible refine Own.other ?_ _ _ _ (by omega) (by omega) (by omega))))
        · refine fr_but (L := [zz]) HF.out ?_ (fun k hk => by first | (cases hk; done) | (simp at hk; omega))
          (repeat (first | (with_reducible exact But.refl _ _) | (with_reducible assumption) | (with_reducible refine But.alloc ?_ _) | (with_reducible refine But.drew ?_) | (with_reducible refine But.drewN ?_ _) | (with_reducible refine But.set ?_ _ _ _ (by first | (left; simp; done) | (right; simp; done) | (right; omega) | (right; simp; omega)))))
        rintro u23 ⟨z0, z1, z2, z3, z4, z5, z6, z7⟩
        replace B_sg := Lib.hid z0
        replace B_sx := Lib.hid z1
        replace B_ex := Lib.hid z2
        replace B_sy := Lib.hid z3
        replace O_g := Lib.hid z4
        replace O_x := Lib.hid z5
        replace O_y := Lib.hid z6
        replace HF := Lib.hid z7
        clear z0 z1 z2 z3 z4 z5 z6 z7
        clear c15 c16 c17 c18 c19 c20 c21 c22
        generalize zz = zy at *
        have c24 : u23.cell? ⟨zy, 0, none⟩ = some (.int .i64 41) := B_sy.out.cel 0 (by simp)
        have c25 : u23.cell? ⟨zy, 1, none⟩ = some (.slice (some ⟨y1, 0, none⟩) 8 yr) := B_sy.out.cel 1 (by simp)
        have c26 : u23.cell? ⟨zy, 2, none⟩ = some (.slice (some ⟨y2, 0, none⟩) 5 yc) := B_sy.out.cel 2 (by simp)
        have c27 : u23.cell? ⟨zy, 3, none⟩ = some (.slice (some ⟨y3, 0, none⟩) 256 ym) := B_sy.out.cel 3 (by simp)
        go_wp2_with fail
        clear c24 c25 c26 c27
        have m29 := B_sg.out.lt
        have m30 := B_sx.out.lt
        have m31 := B_ex.out.lt
        have m32 := B_sy.out.lt
        have m33 := HF.out.size
        refine (step_to (s := ⟨41, hR a b, C1, (hM 40 wd).set 41 wd2⟩) (s2 := ⟨42, (hR a b).set 3 wv, C1, (hM 40 wd).set 41 wd2⟩) (e2 := ⟨41, wd2, 0, 3, wv, -1, 0⟩) O_y.out HK2.out rfl (HT.out.fr HF.out) HST2.out).mono ?_
        rintro e u28 ⟨z1, z2, z3, zr, zc, zm, he, ho, hl1, hl2, hl3, f⟩
        replace B_sg := Lib.hid (B_sg.out.fr f)
        replace B_sx := Lib.hid (B_sx.out.fr f)
        replace B_ex := Lib.hid (B_ex.out.fr f)
        replace B_sy := Lib.hid (B_sy.out.fr f)
        replace O_g := Lib.hid (O_g.out.fr f)
        replace O_x := Lib.hid (O_x.out.fr f)
        replace O_y := Lib.hid (O_y.out.fr f)
        replace HF := Lib.hid (Fr.trans HF.out f)
        have O_z := Lib.hid (show Own u28 z1 z2 z3 ⟨42, (hR a b).set 3 wv, C1, (hM 40 wd).set 41 wd2⟩ from ho)
        have he2 : e = .returned (.tuple #[.agg #[.int .i64 42, .slice (some ⟨z1, 0, none⟩) 8 zr, .slice (some ⟨z2, 0, none⟩) 5 zc, .slice (some ⟨z3, 0, none⟩) 256 zm], .agg #[.int .i64 41, .int .i64 wd2, .int .i64 0, .int .i64 3, .int .i64 wv, .int .i64 (-1), .int .i64 0]]) := he
        subst he2
        clear he ho f
        have m34a := O_z.out.R.lt
        have m34b := O_z.out.C.lt
        have m34c := O_z.out.M.lt
        go_upto_region 10 with fail
        refine wp_gen (fun v9 => Cel v9 N_x [.int .i64 40, .slice (some ⟨g1, 0, none⟩) 8 gr, .slice (some ⟨g2, 0, none⟩) 5 gc, .slice (some ⟨g3, 0, none⟩) 256 gm] ∧ Cel v9 (N_x + 1) [.int .i64 41, .slice (some ⟨x1, 0, none⟩) 8 xr, .slice (some ⟨x2, 0, none⟩) 5 xc, .slice (some ⟨x3, 0, none⟩) 256 xm] ∧ Cel v9 (N_x + 1 + 1) [.int .i64 40, .int .i64 wd, .int .i64 0, .int .i64 0, .int .i64 0, .int .i64 (-1), .int .i64 0] ∧ Cel v9 zy [.int .i64 41, .slice (some ⟨y1, 0, none⟩) 8 yr, .slice (some ⟨y2, 0, none⟩) 5 yc, .slice (some ⟨y3, 0, none⟩) 256 ym] ∧ Cel v9 u28.heap.size [.int .i64 42, .slice (some ⟨z1, 0, none⟩) 8 zr, .slice (some ⟨z2, 0, none⟩) 5 zc, .slice (some ⟨z3, 0, none⟩) 256 zm] ∧ Cel v9 (u28.heap.size + 1) [.int .i64 41, .int .i64 wd2, .int .i64 0, .int .i64 3, .int .i64 wv, .int .i64 (-1), .int .i64 0] ∧ Own v9 g1 g2 g3 ⟨40, hR a b, zeros 5, hM 40 wd⟩ ∧ Own v9 x1 x2 x3 ⟨41, hR a b, C1, hM 40 wd⟩ ∧ Own v9 y1 y2 y3 ⟨41, hR a b, C1, (hM 40 wd).set 41 wd2⟩ ∧ Own v9 z1 z2 z3 ⟨42, (hR a b).set 3 wv, C1, (hM 40 wd).set 41 wd2⟩ ∧ Fr w v9) ⟨?_, ?_, ?_, ?_, ?_, ?_, ?_, ?_, ?_, ?_, ?_⟩ ?_
        · have q9 := B_sg.out
          (repeat (first | (with_reducible assumption) | (with_reducible exact Cel.new _ _ _ _ (by first | rfl | omega | (simp; done) | (simp; omega))) | (with_reducible refine Cel.alloc ?_ _) | (with_reducible refine Cel.drew ?_) | (with_reducible refine Cel.drewN ?_ _) | (with_reducible refine Cel.other ?_ _ _ _ (by omega))))
        · have q9 := B_sx.out
          (repeat (first | (with_reducible assumption) | (with_reducible exact Cel.new _ _ _ _ (by first | rfl | omega | (simp; done) | (simp; omega))) | (with_reducible refine Cel.alloc ?_ _) | (with_reducible refine Cel.drew ?_) | (with_reducible refine Cel.drewN ?_ _) | (with_reducible refine Cel.other ?_ _ _ _ (by omega))))
        · have q9 := B_ex.out
          (repeat (first | (with_reducible assumption) | (with_reducible exact Cel.new _ _ _ _ (by first | rfl | omega | (simp; done) | (simp; omega))) | (with_reducible refine Cel.alloc ?_ _) | (with_reducible refine Cel.drew ?_) | (with_reducible refine Cel.drewN ?_ _) | (with_reducible refine Cel.other ?_ _ _ _ (by omega))))
        · have q9 := B_sy.out
          (repeat (first | (with_reducible assumption) | (with_reducible exact Cel.new _ _ _ _ (by first | rfl | omega | (simp; done) | (simp; omega))) | (with_reducible refine Cel.alloc ?_ _) | (with_reducible refine Cel.drew ?_) | (with_reducible refine Cel.drewN ?_ _) | (with_reducible refine Cel.other ?_ _ _ _ (by omega))))
        · (repeat (first | (with_reducible assumption) | (with_reducible exact Cel.new _ _ _ _ (by first | rfl | omega | (simp; done) | (simp; omega))) | (with_reducible refine Cel.alloc ?_ _) | (with_reducible refine Cel.drew ?_) | (with_reducible refine Cel.drewN ?_ _) | (with_reducible refine Cel.other ?_ _ _ _ (by omega))))
        · (repeat (first | (with_reducible assumption) | (with_reducible exact Cel.new _ _ _ _ (by first | rfl | omega | (simp; done) | (simp; omega))) | (with_reducible refine Cel.alloc ?_ _) | (with_reducible refine Cel.drew ?_) | (with_reducible refine Cel.drewN ?_ _) | (with_reducible refine Cel.other ?_ _ _ _ (by omega))))
        · have q9 := O_g.out
          (repeat (first | (with_reducible assumption) | (with_reducible refine Own.alloc ?_ _) | (with_reducible refine Own.drew ?_) | (with_reducible refine Own.drewN ?_ _) | (with_reducible refine Own.other ?_ _ _ _ (by omega) (by omega) (by omega))))
        · have q9 := O_x.out
          (repeat (first | (with_reducible assumption) | (with_reducible refine Own.alloc ?_ _) | (with_reducible refine Own.drew ?_) | (with_reducible refine Own.drewN ?_ _) | (with_reducible refine Own.other ?_ _ _ _ (by omega) (by omega) (by omega))))
        · have q9 := O_y.out
          (repeat (first | (with_reducible assumption) | (with_reducible refine Own.alloc ?_ _) | (with_reducible refine Own.drew ?_) | (with_reducible refine Own.drewN ?_ _) | (with_reducible refine Own.other ?_ _ _ _ (by omega) (by omega) (by omega))))
        · have q9 := O_z.out
          (repeat (first | (with_reducible assumption) | (with_reducible refine Own.alloc ?_ _) | (with_reducible refine Own.drew ?_) | (with_reducible refine Own.drewN ?_ _) | (with_reducible refine Own.other ?_ _ _ _ (by omega) (by omega) (by omega))))
        · refine fr_but (L := []) HF.out ?_ (fun k hk => by first | (cases hk; done) | (simp at hk; omega))
          (repeat (first | (with_reducible exact But.refl _ _) | (with_reducible assumption) | (with_reducible refine But.alloc ?_ _) | (with_reducible refine But.drew ?_) | (with_reducible refine But.drewN ?_ _) | (with_reducible refine But.set ?_ _ _ _ (by first | (left; simp; done) | (right; simp; done) | (right; omega) | (right; simp; omega)))))
        rintro u35 ⟨z0, z1, z2, z3, z4, z5, z6, z7, z8, z9, z10⟩
        replace B_sg := Lib.hid z0
        replace B_sx := Lib.hid z1
        replace B_ex := Lib.hid z2
        replace B_sy := Lib.hid z3
        have B_sz := Lib.hid z4
        have B_ez := Lib.hid z5
        replace O_g := Lib.hid z6
        replace O_x := Lib.hid z7
        replace O_y := Lib.hid z8
        replace O_z := Lib.hid z9
        replace HF := Lib.hid z10
        clear z0 z1 z2 z3 z4 z5 z6 z7 z8 z9 z10
        generalize u28.heap.size = N_z at *
        have L_z : Hid (Lens ⟨42, (hR a b).set 3 wv, C1, (hM 40 wd).set 41 wd2⟩) := Lib.hid ⟨HK3.out.Rl, HK3.out.Cl, HK3.out.Ml⟩
        have HC := Lib.hid True.intro
        by_cases h3 : f = 3
        · have hwv : a % 4 / 2 * 2 = wv := by rw [← HWV.out, if_pos h3]
          subst h3
          have c36 : u35.cell? ⟨N_x + 1 + 1, 2, none⟩ = some (.int .i64 0) := B_ex.out.cel 2 (by simp)
          have c37 : u35.cell? ⟨N_z, 1, none⟩ = some (.slice (some ⟨z1, 0, none⟩) 8 zr) := B_sz.out.cel 1 (by simp)
          have r38 : u35.cell? ⟨z1, 3, none⟩ = some (.int .i64 wv) := (O_z.out.R.cel 3 (by rw [L_z.out.Rl]; omega)).trans (congrArg (fun x => some (Value.int .i64 x)) (show ((hR a b).set 3 wv).getD 3 0 = wv from rfl))
          have c39 : u35.cell? ⟨N_z + 1, 4, none⟩ = some (.int .i64 wv) := B_ez.out.cel 4 (by simp)
          have c40 : u35.cell? ⟨N_x + 1, 2, none⟩ = some (.slice (some ⟨x2, 0, none⟩) 5 xc) := B_sx.out.cel 2 (by simp)
          have r41 : u35.cell? ⟨x2, 3, none⟩ = some (.int .i64 wv) := (O_x.out.C.cel 3 (by rw [L_x.out.Cl]; omega)).trans (congrArg (fun x => some (Value.int .i64 x)) (HCF.out))
          go_wp2_with fail
          go_roundw
          case rel => exact ⟨3 + 1, by omega, by omega, by go_num, HF.out⟩
          case measure => first | (simp [intOf]; done) | (simp [intOf]; omega)
        · have hwv : a = wv := by rw [← HWV.out, if_neg h3]
          subst hwv
          have c42 : u35.cell? ⟨N_x + 1 + 1, 2, none⟩ = some (.int .i64 0) := B_ex.out.cel 2 (by simp)
          have c43 : u35.cell? ⟨N_z, 1, none⟩ = some (.slice (some ⟨z1, 0, none⟩) 8 zr) := B_sz.out.cel 1 (by simp)
          have r44 : u35.cell? ⟨z1, 3, none⟩ = some (.int .i64 a) := (O_z.out.R.cel 3 (by rw [L_z.out.Rl]; omega)).trans (congrArg (fun x => some (Value.int .i64 x)) (show ((hR a b).set 3 a).getD 3 0 = a from rfl))
          have c45 : u35.cell? ⟨N_z + 1, 4, none⟩ = some (.int .i64 a) := B_ez.out.cel 4 (by simp)
          have c46 : u35.cell? ⟨N_x + 1, 2, none⟩ = some (.slice (some ⟨x2, 0, none⟩) 5 xc) := B_sx.out.cel 2 (by simp)
          have ix0 : 0 ≤ f := by omega
          have ix1 : f < 5 := by omega
          have r47 : u35.cell? ⟨x2, f.toNat, none⟩ = some (.int .i64 a) := (O_x.out.C.cel f.toNat (by rw [L_x.out.Cl]; omega)).trans (congrArg (fun x => some (Value.int .i64 x)) (HCF.out))
          go_wp2_with fail
          go_roundw
          case rel => exact ⟨f + 1, by omega, by omega, by go_num, HF.out⟩
          case measure => first | (simp [intOf]; done) | (simp [intOf]; omega)
    · go_wp2
      go_ret
      exact ⟨rfl, hFr⟩

set_option maxRecDepth 100000 in
theorem lifted (os : Os) (started : os.Started) (H : Type) (enc : TypeId × Value → H) :
    ReturnsInHanded {} Tryd.checked os 14 .any (fun w args => (Rows.fnDoOwnSpec.pre enc Tryd.prog Tryd.f14 [] false w args ∧ laidMetH Tryd.prog laidAll w) ∧ sizedMet enc Tryd.prog Tryd.f14 (OpenSpec.ofChange Rows.fnDoOwnSpec) false w args)
      (Rows.fnDoOwnSpec.post enc Tryd.prog Tryd.f14 false true false false) := by
  refine returnsInHanded_of_change_and (C := Tryd.checked) (X := fun w _ => laidMetH Tryd.prog laidAll w) (fun _ _ _ hh h => h.of_heap hh) own started (by kernel_rfl) Tryd.func14
    (ChangeSpec.witness_shaped (enc := enc) (C := Tryd.checked) (os := os) (X := fun w _ => laidMetH Tryd.prog laidAll w) false (World.doorLaid Tryd.prog 400 os) #[.slice none 0 0] 8 rfl (World.shaped_of_RefB (by kernel_rfl) (by kernel_rfl)) (by kernel_rfl) (by kernel_rfl) (by kernel_rfl) (door_met os _)) ?_
  intro W base args ds gs before hval0 hW _ _ hL _
  have hval : ∀ (j : Nat) t v, Tryd.f14.params[j]? = some t → args[j]? = some v → Value.okWide Tryd.prog W .any base t v := hval0
  have hW' := hW
  obtain ⟨p, q, hA0, hV0, rfl, hfz, hnd⟩ := hW
  have hA : DataW.TrodAll enc Tryd.prog W 0 (fun _ => true) true Tryd.f14.params.toList args.toList ds p := hA0
  have hV : DataW.TrodVars enc Tryd.prog W (fun _ => true) laidNames gs q := hV0
  rw [Tryd.params14] at hA hval
  obtain ⟨v0, vs0, d0, ds0, p0, q0, hargs, rfl, rfl, h0, r0⟩ := trodAll_cons hA
  obtain ⟨rfl, rfl, rfl⟩ := trodAll_nil r0
  obtain rfl : args = #[v0] := by cases args; simp_all
  have hV1 := hV
  obtain ⟨g0, t0, cs0, f0, e0, s0, g1, t1, cs1, f1, e1, s1, rfl, _⟩ := trodVars_two hV1
  obtain ⟨a0, len0, cap0, rfl⟩ := okWide_slice Tryd.underlying42 (hval 0 42 v0 rfl rfl)
  have k0 := h0
  have lt0 : ∀ x ∈ p0, x.block < W.heap.size := by obtain ⟨m, hm⟩ := k0; exact DataW.trod_lt m _ _ _ hm
  obtain ⟨z0, w0⟩ : ∃ zs, IsRow .u8 W a0 len0 cap0 zs := by
    obtain ⟨fuel, hf⟩ := h0
    rcases open_ints Tryd.underlying42 Tryd.underlying5 (by kernel_rfl) hf with ⟨hcs, _⟩ | ⟨x, l, c, zs, hcs, _, hl, hm, hz, _, hcell, hwz⟩
    · simp [Value.cells] at hcs
      obtain ⟨rfl, rfl, rfl⟩ := hcs
      exact ⟨[], .inl ⟨rfl, rfl, rfl, rfl⟩⟩
    · simp [Value.cells] at hcs
      obtain ⟨rfl, rfl, rfl⟩ := hcs
      exact ⟨zs, .inr ⟨_, rfl, hl, hm, by simpa using hz, hcell, hwz⟩⟩
  clear hA0 hval0 hV1
  refine (walk a0 len0 cap0 z0 W (tabs_of_laid hL) w0).mono fun e W' ⟨he, bel⟩ => ?_
  subst he
  exact ⟨_, rfl, _, _, _, [], _, _, hW', trodAll_mk1 (shut_bool Tryd.underlying4 _), (trodAll_cons_mk (Below.trod laidOut (by kernel_rfl) (of_decide_eq_true (by kernel_rfl)) k0 bel lt0) trodAll_mk0), bel.trodVars laidOut (by kernel_rfl) hV, bel.frame _, fun h => by cases h⟩

theorem over : Rows.fnDoOwnRow.holds Tryd.pinned (OpenSpec.ofChange Rows.fnDoOwnSpec) :=
  OpenClaim.holds_of_wide 14 Tryd.f14 rfl rfl rfl rfl rfl rfl rfl ⟨rfl, rfl, rfl, rfl, rfl⟩ rfl rfl rfl rfl rfl (by kernel_rfl) Tryd.func14 (by kernel_rfl)
    (of_decide_eq_true (by kernel_rfl)) (by unfold Func.isWrapper; first | (rw [if_pos (by decide +kernel)]; kernel_rfl) | (rw [if_neg (by decide +kernel)]; exact ⟨rfl, rfl⟩))
    (fun os started H enc _ => lifted os started H enc)

/-- THE STATEMENT: the tied card. -/
theorem proved : Rows.FnDoOwnCardSaid :=
  Claim7.holds_tied_plain_at .later [] [.wider, .data] true (true, "9dc2e115a97561e3249269897313e148c9c7960c406c87ea32a23191d0e08754") true
    over (fun _ h => by cases h) (by kernel_rfl) (fun _ h => by cases h) fnDoOwn_row_tie rfl ⟨rfl, rfl⟩ (by kernel_rfl) rfl
    (fun f fn hf hfn => by
      obtain rfl : f = 14 := Option.some.inj ((show Tryd.prog.funcNamed "loop.example/harbinger/laws.FnDoOwn" = some 14 by kernel_rfl).symm.trans hf) |>.symm
      obtain rfl : fn = Tryd.f14 := (Option.some.inj (Tryd.func14.symm.trans hfn)).symm
      exact ⟨by kernel_rfl, fun j t ht => by
        rw [Tryd.params14] at ht
        have hm : t ∈ [42] := by simpa using Array.mem_of_getElem? ht
        have hall : ([42].all fun u => !Tryd.prog.wantsStandIn u) = true := by kernel_rfl
        exact (show Tryd.prog.wantsStandIn t = false by simpa using List.all_eq_true.1 hall t hm)⟩)
    (by kernel_rfl)
#print axioms proved
end Go.Proofs.YtbjapncfgancoaaDoor.fnDoOwn
