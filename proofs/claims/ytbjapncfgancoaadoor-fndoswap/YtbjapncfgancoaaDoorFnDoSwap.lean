/- For every code (any bytes), law FnDoSwap returns true and its argument reads as before (no condition; the two tables read as the program's text lays them, which the card ties). -/
import Derived.Test.YtbjapncfgancoaaDoorCards
import Derived.Test.YtbjapncfgancoaaDoorTie
import Derived.Test.YtbjapncfgancoaaDoorLaid
import Derived.Test.YtbjapncfgancoaaDoorSx2
import Derived.WalkKit
import Derived.ProofKit
import Derived.OpenShut
import Derived.ShutString
import Derived.SliceStrings
import Derived.ChangeOld
import Derived.Below
import Derived.SevenTiedAt
namespace Go.Proofs.YtbjapncfgancoaaDoor.fnDoSwap
open Go.ChangeShapes Go.WideShapes Go.ChangeAt Go.RowKit
set_option linter.unusedVariables false

def IsRow (k : IntKind) (w : World) (a : Option Addr) (len cap : Nat) (zs : List Int) : Prop :=
  (a = none ∧ len = 0 ∧ cap = 0 ∧ zs = []) ∨
  ∃ x, a = some x ∧ len ≤ cap ∧ cap ≤ maxLen ∧ zs.length = cap ∧ (∀ i, i < zs.length → w.cell? (x.add i) = some (.int k (zs.getD i 0))) ∧ ∀ n ∈ zs, (Lit.int k n).wf = true

set_option maxRecDepth 100000 in
set_option maxHeartbeats 8000000 in
theorem walk (a0 : Option Addr) (len0 cap0 : Nat) (z0 : List Int) (w : World) (ht : Tabs w) (w0 : IsRow .u8 w a0 len0 cap0 z0) :
    Calls Tryd.prog 12 #[.slice a0 len0 cap0] w fun e w' => e = .returned (.bool true) ∧ Below w.heap.size w w' := by
  have hc : Code1 w.heap.size w a0 len0 cap0 := by
    rcases w0 with ⟨rfl, rfl, rfl, rfl⟩ | ⟨x, rfl, hl, hm, hz, hcell, hwz⟩
    · exact ⟨Nat.le_refl _, Nat.le_refl _, Nat.zero_le _, .inl rfl, fun _ => rfl⟩
    · exact ⟨Nat.le_refl _, hl, hm, bytes_of_row hl hz hcell hwz, by simp⟩
  clear w0
  by_cases hlen : (1048576 : Int) < (len0 : Int)
  · go_enter Tryd.func12, Tryd.ntmps12
    go_wp2
    go_ret
    exact ⟨rfl, Below.refl _ _⟩
  have HT := Lib.hid ht
  have hl : len0 ≤ 1048576 := by omega
  clear ht
  go_enter Tryd.func12, Tryd.ntmps12
  go_wp2_with fail
  refine (laws_haWords w.heap.size a0 len0 cap0 w hc hl).mono ?_
  rintro e w' ⟨a, b, ha, hb, rfl, rfl⟩
  obtain ⟨a0', a1'⟩ := okB_true ha
  obtain ⟨b0', b1'⟩ := okB_true hb
  clear hc hl
  obtain ⟨ad, had⟩ : ∃ x, 120 + a % 100 = x := ⟨_, rfl⟩
  have ad0 : 120 ≤ ad := by omega
  have ad1 : ad < 220 := by omega
  have had2 : okB ad = true := okB_mk (by omega) (by omega)
  have hi1 : iok 10 2 1 2 0 0 = true := by simp [iok, okAt, layN, layL, eL, eG, encL]
  obtain ⟨wd, hwd⟩ : ∃ x, worD 10 2 1 2 0 0 = x := ⟨_, rfl⟩
  have hw := worD_ok hi1 hwd
  have hk0 : OkS ⟨0, zeros 8, zeros 5, newM [wd, wd]⟩ := nS_ok hw hw
  have hkl : OkS ⟨0, zeros 8, zeros 5, (newM [wd, wd]).set ad.toNat a⟩ := lay_okS (a := ad) hk0 (by omega) (by omega) ha
  have hk1 : OkS ⟨0, ((zeros 8).set 1 ad).set 2 b, zeros 5, (newM [wd, wd]).set ad.toNat a⟩ := ⟨rfl, ok_set (ok_set (zeros_ok 8) _ had2) _ hb, by simp only [List.length_set, zeros_len], hkl.C, hkl.Cl, hkl.M, hkl.Ml, rfl, hkl.c3⟩
  have hm0 : (newM [wd, wd]).length = 256 := hk0.Ml
  have hc3 : (zeros 5).getD 3 0 % 2 = 0 := by rw [zeros_get]; rfl
  have e0 : ∀ j : Nat, j < 2 → (newM [wd, wd]).getD j 0 = wd := fun j hj => by
    have h : j = 0 ∨ j = 1 := by omega
    rcases h with rfl | rfl <;> rfl
  have g1 : ∀ j : Nat, j < 2 → ((newM [wd, wd]).set ad.toNat a).getD j 0 = wd := fun j hj => by rw [getD_set, if_neg (by omega)]; exact e0 j hj
  have g2 : ∀ j : Nat, j < 2 → (((newM [wd, wd]).set ad.toNat a).set ad.toNat b).getD j 0 = wd := fun j hj => by rw [getD_set, if_neg (by omega)]; exact g1 j hj
  have v1 : ((newM [wd, wd]).set ad.toNat a).getD ad.toNat 0 = a := by rw [getD_set, if_pos ⟨rfl, by rw [hm0]; omega⟩]
  have v2 : (((newM [wd, wd]).set ad.toNat a).set ad.toNat b).getD ad.toNat 0 = b := by rw [getD_set, if_pos ⟨rfl, by rw [List.length_set, hm0]; omega⟩]
  have v3 : ((((newM [wd, wd]).set ad.toNat a).set ad.toNat b).set ad.toNat a).getD ad.toNat 0 = a := by rw [getD_set, if_pos ⟨rfl, by rw [List.length_set, List.length_set, hm0]; omega⟩]
  have hst1 : stepS ⟨0, ((zeros 8).set 1 ad).set 2 b, zeros 5, (newM [wd, wd]).set ad.toNat a⟩ false = (⟨1, (((zeros 8).set 1 ad).set 2 b).set 2 a, zeros 5, ((newM [wd, wd]).set ad.toNat a).set ad.toNat b⟩, ⟨0, wd, 0, 2, a, ad, b⟩) := by
    rw [sup_swap (s := ⟨0, ((zeros 8).set 1 ad).set 2 b, zeros 5, (newM [wd, wd]).set ad.toNat a⟩) (v := a) ⟨by show (0 : Int) ≤ 0; omega, by show (0 : Int) < 256; omega, hc3, g1 0 (by decide)⟩ hi1 hwd (by show 0 ≤ ad; omega) (by show ad < 256; omega) v1]
    rfl
  have hk2 := step_okS hk1 hst1
  have hst2 : stepS ⟨1, (((zeros 8).set 1 ad).set 2 b).set 2 a, zeros 5, ((newM [wd, wd]).set ad.toNat a).set ad.toNat b⟩ false = (⟨2, ((((zeros 8).set 1 ad).set 2 b).set 2 a).set 2 b, zeros 5, (((newM [wd, wd]).set ad.toNat a).set ad.toNat b).set ad.toNat a⟩, ⟨1, wd, 0, 2, b, ad, a⟩) := by
    rw [sup_swap (s := ⟨1, (((zeros 8).set 1 ad).set 2 b).set 2 a, zeros 5, ((newM [wd, wd]).set ad.toNat a).set ad.toNat b⟩) (v := b) ⟨by show (0 : Int) ≤ 1; omega, by show (1 : Int) < 256; omega, hc3, g2 1 (by decide)⟩ hi1 hwd (by show 0 ≤ ad; omega) (by show ad < 256; omega) v2]
    rfl
  have hk3 := step_okS hk2 hst2
  have HI1 := Lib.hid hi1
  have HWD := Lib.hid hwd
  have HST1 := Lib.hid hst1
  have HST2 := Lib.hid hst2
  have HK0 := Lib.hid hk0
  have HKL := Lib.hid hkl
  have HK1 := Lib.hid hk1
  have HK2 := Lib.hid hk2
  have HK3 := Lib.hid hk3
  have HW := Lib.hid hw
  have V2 := Lib.hid v2
  have V3 := Lib.hid v3
  clear hi1 hwd hst1 hst2 hk0 hkl hk1 hk2 hk3 hw v2 v3 had2 hm0 hc3 e0 g1 g2 v1
  have HF : Hid (Fr w w) := Lib.hid (Below.refl _ _)
  go_upto_region 6 with fail
  refine wp_gen (fun v9 => Cel v9 w.heap.size [.int .i64 10, .int .i64 2, .int .i64 1, .int .i64 2, .int .i64 0, .int .i64 0] ∧ Fr w v9) ⟨?_, ?_⟩ ?_
  · (repeat (first | (with_reducible assumption) | (with_reducible exact Cel.new _ _ _ _ (by first | rfl | omega | (simp; done) | (simp; omega))) | (with_reducible refine Cel.alloc ?_ _) | (with_reducible refine Cel.drew ?_) | (with_reducible refine Cel.drewN ?_ _) | (with_reducible refine Cel.other ?_ _ _ _ (by omega))))
  · refine fr_but (L := []) HF.out ?_ (fun k hk => by first | (cases hk; done) | (simp at hk; omega))
    (repeat (first | (with_reducible exact But.refl _ _) | (with_reducible assumption) | (with_reducible refine But.alloc ?_ _) | (with_reducible refine But.drew ?_) | (with_reducible refine But.drewN ?_ _) | (with_reducible refine But.set ?_ _ _ _ (by first | (left; simp; done) | (right; simp; done) | (right; omega) | (right; simp; omega)))))
  rintro u1 ⟨z0, z1⟩
  have B_c := Lib.hid z0
  replace HF := Lib.hid z1
  clear z0 z1
  refine wp_region_rows 112 10 [] (fun _ => []) lb0_in (fun i => false) (fun i v9 u => match i with | 0 => v9 = .agg #[.int .i64 10, .int .i64 2, .int .i64 1, .int .i64 2, .int .i64 0, .int .i64 0] | 1 => v9 = .int .i64 wd | 2 => v9 = .agg #[.int .i64 10, .int .i64 2, .int .i64 1, .int .i64 2, .int .i64 0, .int .i64 0] | 3 => v9 = .int .i64 wd | 4 => ∃ gg, v9 = .slice (some ⟨gg, 0, none⟩) 2 2 ∧ Ro u gg [wd, wd] | 5 => ∃ n1 n2 n3 nr nc nm, v9 = .agg #[.int .i64 0, .slice (some ⟨n1, 0, none⟩) 8 nr, .slice (some ⟨n2, 0, none⟩) 5 nc, .slice (some ⟨n3, 0, none⟩) 256 nm] ∧ Own u n1 n2 n3 ⟨0, zeros 8, zeros 5, newM [wd, wd]⟩ ∧ (u1.heap.size ≤ n1 ∧ u1.heap.size ≤ n2 ∧ u1.heap.size ≤ n3) | 6 => v9 = .int .i64 ad | 7 => v9 = .int .i64 a | 8 => ∃ s1 s2 s3 sr sc sm, v9 = .agg #[.int .i64 0, .slice (some ⟨s1, 0, none⟩) 8 sr, .slice (some ⟨s2, 0, none⟩) 5 sc, .slice (some ⟨s3, 0, none⟩) 256 sm] ∧ Own u s1 s2 s3 ⟨0, zeros 8, zeros 5, (newM [wd, wd]).set ad.toNat a⟩ ∧ (u1.heap.size ≤ s1 ∧ u1.heap.size ≤ s2 ∧ u1.heap.size ≤ s3) | 9 => ∃ zz, v9 = .pointer (some ⟨zz, 0, none⟩) ∧ Cel u zz [.int .i64 0, .slice none 0 0, .slice none 0 0, .slice none 0 0] ∧ u1.heap.size ≤ zz | _ => True) ?mono (by kernel_rfl) (by kernel_rfl) rfl (by kernel_rfl) (by kernel_rfl) (by decide) ?step ?fin
  case mono =>
    intro i j v u u' hi hij hdj hsz h hB
    rcases j with _ | _ | _ | _ | _ | _ | _ | _ | _ | _ | _ | j
    · exact h
    · exact h
    · exact h
    · exact h
    · obtain ⟨gg, e, r⟩ := h
      exact ⟨gg, e, r.but hB (by simp)⟩
    · obtain ⟨k1, k2, k3, kr, kc, km, e, ho, hh⟩ := h
      exact ⟨k1, k2, k3, kr, kc, km, e, ho.but hB (by simp) (by simp) (by simp), hh⟩
    · exact h
    · exact h
    · obtain ⟨k1, k2, k3, kr, kc, km, e, ho, hh⟩ := h
      exact ⟨k1, k2, k3, kr, kc, km, e, ho.but hB (by simp) (by simp) (by simp), hh⟩
    · obtain ⟨zz, e, hz, hm⟩ := h
      exact ⟨zz, e, hz.but hB (by simp), hm⟩
    · trivial
    · trivial
  case step =>
    intro i o ho hiz
    rcases i with _ | _ | _ | _ | _ | _ | _ | _ | _ | _ | _ | i
    · clear hiz
      cases ho
      intro act u hB hL hdep hap hnw
      replace hB := hB [] (fun j _ k hk => lb0_in j k hk)
      obtain ⟨ysl, ha, hy⟩ := hL.puts [24, 25, 26, 27, 28, 29, 30, 31, 32, 7] (by kernel_rfl)
      clear hdep hL hy hap hnw
      simp only [List.foldl, List.setIfInBounds_toArray, List.set_cons_succ, List.set_cons_zero] at ha
      subst ha
      have c2 : u.cell? ⟨w.heap.size, 0, none⟩ = some (.int .i64 10) := (B_c.out.but hB (by first | (simp; done) | (simp; omega))).cel 0 (by simp)
      have c3 : u.cell? ⟨w.heap.size, 1, none⟩ = some (.int .i64 2) := (B_c.out.but hB (by first | (simp; done) | (simp; omega))).cel 1 (by simp)
      have c4 : u.cell? ⟨w.heap.size, 2, none⟩ = some (.int .i64 1) := (B_c.out.but hB (by first | (simp; done) | (simp; omega))).cel 2 (by simp)
      have c5 : u.cell? ⟨w.heap.size, 3, none⟩ = some (.int .i64 2) := (B_c.out.but hB (by first | (simp; done) | (simp; omega))).cel 3 (by simp)
      have c6 : u.cell? ⟨w.heap.size, 4, none⟩ = some (.int .i64 0) := (B_c.out.but hB (by first | (simp; done) | (simp; omega))).cel 4 (by simp)
      have c7 : u.cell? ⟨w.heap.size, 5, none⟩ = some (.int .i64 0) := (B_c.out.but hB (by first | (simp; done) | (simp; omega))).cel 5 (by simp)
      refine wpOp_step rfl (fun K hK => ?_)
      go_simp
      exact hK _ _ ⟨_, rfl, (fun h => by cases h), (by first | rfl | (exact congrArg (Value.int .i64) (by first | rfl | (rw [IntWalk.i64_left, IntWalk.wrap64_in _ (by omega)]) | omega)) | (simp; done) | (simp; omega) | (simp; rw [Int.tmod_eq_emod_of_nonneg (by omega)]; omega)), But.refl _ _, (fun h => by cases h)⟩
    · clear hiz
      cases ho
      intro act u hB hL hdep hap hnw
      replace hB := hB [] (fun j _ k hk => lb0_in j k hk)
      have d0 := hdep { on := 0, ground := .data } (by simp) rfl _ rfl
      obtain ⟨ysl, ha, hy⟩ := hL.puts [24, 25, 26, 27, 28, 29, 30, 31, 32, 7] (by kernel_rfl)
      have e0 : ysl 24 = _ := (hy 24).symm.trans d0
      clear hdep hL hy hap hnw d0
      simp only [List.foldl, List.setIfInBounds_toArray, List.set_cons_succ, List.set_cons_zero, e0] at ha
      subst ha
      clear e0
      refine wpOp_step rfl (fun K hK => ?_)
      go_simp
      have EW := impl_CodWord 10 2 1 2 0 0 u ((HT.out.fr HF.out).fr (fr_but (L := []) (Below.refl u1.heap.size u1) hB (fun k hk => by cases hk)))
      rw [HWD.out] at EW
      refine EW.mono ?_
      rintro e u' ⟨rfl, f'⟩
      go_simp
      exact hK _ _ ⟨_, rfl, (fun h => by cases h), rfl, But.of f', (fun h => by cases h)⟩
    · clear hiz
      cases ho
      intro act u hB hL hdep hap hnw
      replace hB := hB [] (fun j _ k hk => lb0_in j k hk)
      obtain ⟨ysl, ha, hy⟩ := hL.puts [24, 25, 26, 27, 28, 29, 30, 31, 32, 7] (by kernel_rfl)
      clear hdep hL hy hap hnw
      simp only [List.foldl, List.setIfInBounds_toArray, List.set_cons_succ, List.set_cons_zero] at ha
      subst ha
      have c8 : u.cell? ⟨w.heap.size, 0, none⟩ = some (.int .i64 10) := (B_c.out.but hB (by first | (simp; done) | (simp; omega))).cel 0 (by simp)
      have c9 : u.cell? ⟨w.heap.size, 1, none⟩ = some (.int .i64 2) := (B_c.out.but hB (by first | (simp; done) | (simp; omega))).cel 1 (by simp)
      have c10 : u.cell? ⟨w.heap.size, 2, none⟩ = some (.int .i64 1) := (B_c.out.but hB (by first | (simp; done) | (simp; omega))).cel 2 (by simp)
      have c11 : u.cell? ⟨w.heap.size, 3, none⟩ = some (.int .i64 2) := (B_c.out.but hB (by first | (simp; done) | (simp; omega))).cel 3 (by simp)
      have c12 : u.cell? ⟨w.heap.size, 4, none⟩ = some (.int .i64 0) := (B_c.out.but hB (by first | (simp; done) | (simp; omega))).cel 4 (by simp)
      have c13 : u.cell? ⟨w.heap.size, 5, none⟩ = some (.int .i64 0) := (B_c.out.but hB (by first | (simp; done) | (simp; omega))).cel 5 (by simp)
      refine wpOp_step rfl (fun K hK => ?_)
      go_simp
      exact hK _ _ ⟨_, rfl, (fun h => by cases h), (by first | rfl | (exact congrArg (Value.int .i64) (by first | rfl | (rw [IntWalk.i64_left, IntWalk.wrap64_in _ (by omega)]) | omega)) | (simp; done) | (simp; omega) | (simp; rw [Int.tmod_eq_emod_of_nonneg (by omega)]; omega)), But.refl _ _, (fun h => by cases h)⟩
    · clear hiz
      cases ho
      intro act u hB hL hdep hap hnw
      replace hB := hB [] (fun j _ k hk => lb0_in j k hk)
      have d2 := hdep { on := 2, ground := .data } (by simp) rfl _ rfl
      obtain ⟨ysl, ha, hy⟩ := hL.puts [24, 25, 26, 27, 28, 29, 30, 31, 32, 7] (by kernel_rfl)
      have e2 : ysl 26 = _ := (hy 26).symm.trans d2
      clear hdep hL hy hap hnw d2
      simp only [List.foldl, List.setIfInBounds_toArray, List.set_cons_succ, List.set_cons_zero, e2] at ha
      subst ha
      clear e2
      refine wpOp_step rfl (fun K hK => ?_)
      go_simp
      have EW := impl_CodWord 10 2 1 2 0 0 u ((HT.out.fr HF.out).fr (fr_but (L := []) (Below.refl u1.heap.size u1) hB (fun k hk => by cases hk)))
      rw [HWD.out] at EW
      refine EW.mono ?_
      rintro e u' ⟨rfl, f'⟩
      go_simp
      exact hK _ _ ⟨_, rfl, (fun h => by cases h), rfl, But.of f', (fun h => by cases h)⟩
    · clear hiz
      cases ho
      intro act u hB hL hdep hap hnw
      replace hB := hB [] (fun j _ k hk => lb0_in j k hk)
      have d1 := hdep { on := 1, ground := .data } (by simp) rfl _ rfl
      have d3 := hdep { on := 3, ground := .data } (by simp) rfl _ rfl
      obtain ⟨ysl, ha, hy⟩ := hL.puts [24, 25, 26, 27, 28, 29, 30, 31, 32, 7] (by kernel_rfl)
      have e1 : ysl 25 = _ := (hy 25).symm.trans d1
      have e3 : ysl 27 = _ := (hy 27).symm.trans d3
      clear hdep hL hy hap hnw d1 d3
      simp only [List.foldl, List.setIfInBounds_toArray, List.set_cons_succ, List.set_cons_zero, e1, e3] at ha
      subst ha
      clear e1 e3
      refine wpOp_step rfl (fun K hK => ?_)
      go_simp
      exact hK _ _ ⟨_, rfl, (fun h => by cases h), ⟨_, rfl, (Cel.new _ [.int .i64 wd, .int .i64 wd] _ _ rfl).ro (xs := [wd, wd])⟩, But.of (Fr.alloc _ _), (fun h => by cases h)⟩
    · clear hiz
      cases ho
      intro act u hB hL hdep hap hnw
      replace hB := hB [] (fun j _ k hk => lb0_in j k hk)
      have d4 := hdep { on := 4, ground := .data } (by simp) rfl _ rfl
      obtain ⟨ysl, ha, hy⟩ := hL.puts [24, 25, 26, 27, 28, 29, 30, 31, 32, 7] (by kernel_rfl)
      obtain ⟨gg, h4, r4⟩ := d4
      have e4 : ysl 28 = .slice (some ⟨gg, 0, none⟩) 2 2 := (hy 28).symm.trans h4
      clear hdep hL hy hap hnw h4
      simp only [List.foldl, List.setIfInBounds_toArray, List.set_cons_succ, List.set_cons_zero, e4] at ha
      subst ha
      clear e4
      refine wpOp_step rfl (fun K hK => ?_)
      go_simp
      refine (new_to [wd, wd] _ 2 _ _ r4.src rfl (good_two HW.out HW.out)).mono ?_
      rintro e u' ⟨k1, k2, k3, kr, kc, km, he, ho, hl1, hl2, hl3, f'⟩
      obtain rfl := he
      go_simp
      exact hK _ _ ⟨_, rfl, (fun h => by cases h), ⟨k1, k2, k3, kr, kc, km, rfl, ho, Nat.le_trans hB.size hl1, Nat.le_trans hB.size hl2, Nat.le_trans hB.size hl3⟩, But.of f', (fun h => by cases h)⟩
    · clear hiz
      cases ho
      intro act u hB hL hdep hap hnw
      replace hB := hB [] (fun j _ k hk => lb0_in j k hk)
      obtain ⟨ysl, ha, hy⟩ := hL.puts [24, 25, 26, 27, 28, 29, 30, 31, 32, 7] (by kernel_rfl)
      clear hdep hL hy hap hnw
      simp only [List.foldl, List.setIfInBounds_toArray, List.set_cons_succ, List.set_cons_zero] at ha
      subst ha
      refine wpOp_step rfl (fun K hK => ?_)
      go_simp
      exact hK _ _ ⟨_, rfl, (fun h => by cases h), (by first | rfl | (exact congrArg (Value.int .i64) (by first | rfl | (rw [IntWalk.i64_left, IntWalk.wrap64_in _ (by omega)]) | omega)) | (simp; done) | (simp; omega) | (simp; rw [Int.tmod_eq_emod_of_nonneg (by omega)]; omega)), But.refl _ _, (fun h => by cases h)⟩
    · clear hiz
      cases ho
      intro act u hB hL hdep hap hnw
      replace hB := hB [] (fun j _ k hk => lb0_in j k hk)
      obtain ⟨ysl, ha, hy⟩ := hL.puts [24, 25, 26, 27, 28, 29, 30, 31, 32, 7] (by kernel_rfl)
      clear hdep hL hy hap hnw
      simp only [List.foldl, List.setIfInBounds_toArray, List.set_cons_succ, List.set_cons_zero] at ha
      subst ha
      refine wpOp_step rfl (fun K hK => ?_)
      go_simp
      exact hK _ _ ⟨_, rfl, (fun h => by cases h), (by first | rfl | (exact congrArg (Value.int .i64) (by first | rfl | (rw [IntWalk.i64_left, IntWalk.wrap64_in _ (by omega)]) | omega)) | (simp; done) | (simp; omega) | (simp; rw [Int.tmod_eq_emod_of_nonneg (by omega)]; omega)), But.refl _ _, (fun h => by cases h)⟩
    · clear hiz
      cases ho
      intro act u hB hL hdep hap hnw
      replace hB := hB [] (fun j _ k hk => lb0_in j k hk)
      have d5 := hdep { on := 5, ground := .data } (by simp) rfl _ rfl
      have d6 := hdep { on := 6, ground := .data } (by simp) rfl _ rfl
      have d7 := hdep { on := 7, ground := .data } (by simp) rfl _ rfl
      obtain ⟨ysl, ha, hy⟩ := hL.puts [24, 25, 26, 27, 28, 29, 30, 31, 32, 7] (by kernel_rfl)
      obtain ⟨n1, n2, n3, nr, nc, nm, h5, ho5, hl5⟩ := d5
      have e5 : ysl 29 = .agg #[.int .i64 0, .slice (some ⟨n1, 0, none⟩) 8 nr, .slice (some ⟨n2, 0, none⟩) 5 nc, .slice (some ⟨n3, 0, none⟩) 256 nm] := (hy 29).symm.trans h5
      have e6 : ysl 30 = _ := (hy 30).symm.trans d6
      have e7 : ysl 31 = _ := (hy 31).symm.trans d7
      clear hdep hL hy hap hnw d6 d7 h5
      simp only [List.foldl, List.setIfInBounds_toArray, List.set_cons_succ, List.set_cons_zero, e5, e6, e7] at ha
      subst ha
      clear e5 e6 e7
      refine wpOp_step rfl (fun K hK => ?_)
      go_simp
      refine (lay_to (s := ⟨0, zeros 8, zeros 5, newM [wd, wd]⟩) ho5 HK0.out rfl (by omega) (by omega) ha).mono ?_
      rintro e u' ⟨k1, k2, k3, kr, kc, km, he, ho, hl1, hl2, hl3, f'⟩
      obtain rfl := he
      go_simp
      exact hK _ _ ⟨_, rfl, (fun h => by cases h), ⟨k1, k2, k3, kr, kc, km, rfl, ho, Nat.le_trans hB.size hl1, Nat.le_trans hB.size hl2, Nat.le_trans hB.size hl3⟩, But.of f', (fun h => by cases h)⟩
    · clear hiz
      cases ho
      intro act u hB hL hdep hap hnw
      replace hB := hB [] (fun j _ k hk => lb0_in j k hk)
      obtain ⟨ysl, ha, hy⟩ := hL.puts [24, 25, 26, 27, 28, 29, 30, 31, 32, 7] (by kernel_rfl)
      clear hdep hL hy hap hnw
      simp only [List.foldl, List.setIfInBounds_toArray, List.set_cons_succ, List.set_cons_zero] at ha
      subst ha
      refine wpOp_step rfl (fun K hK => ?_)
      go_simp
      exact hK _ _ ⟨_, rfl, (fun h => by cases h), ⟨_, rfl, Cel.new _ [.int .i64 0, .slice none 0 0, .slice none 0 0, .slice none 0 0] _ _ rfl, hB.size⟩, But.of (Fr.alloc _ _), (fun h => by cases h)⟩
    · exact absurd rfl hiz
    · exact absurd ho (by simp)
  case fin =>
    intro act u hB hL hsf hap hnw
    have d8 := hsf 8 _ rfl (by decide)
    have d9 := hsf 9 _ rfl (by decide)
    obtain ⟨ysl, ha, hy⟩ := hL.puts [24, 25, 26, 27, 28, 29, 30, 31, 32, 7] (by kernel_rfl)
    obtain ⟨s1, s2, s3, sr, sc, sm, h8, ho8, hl8⟩ := d8
    have e8 : ysl 32 = .agg #[.int .i64 0, .slice (some ⟨s1, 0, none⟩) 8 sr, .slice (some ⟨s2, 0, none⟩) 5 sc, .slice (some ⟨s3, 0, none⟩) 256 sm] := (hy 32).symm.trans h8
    obtain ⟨zz, h9, hz9, hm9⟩ := d9
    have e9 : ysl 7 = .pointer (some ⟨zz, 0, none⟩) := (hy 7).symm.trans h9
    clear hL hsf hy hap hnw h8 h9
    simp only [List.foldl, List.setIfInBounds_toArray, List.set_cons_succ, List.set_cons_zero, e8, e9] at ha
    subst ha
    clear e8 e9
    have m14 := B_c.out.lt
    have m15 := HF.out.size
    have fB : Fr u1 u := (fr_but (L := []) (Below.refl u1.heap.size u1) hB (fun k hk => by cases hk))
    replace B_c := Lib.hid (B_c.out.fr fB)
    replace HF := Lib.hid (Fr.trans HF.out fB)
    have B_ss := Lib.hid hz9
    have O_s := Lib.hid (show Own u s1 s2 s3 ⟨0, zeros 8, zeros 5, (newM [wd, wd]).set ad.toNat a⟩ from ho8)
    obtain ⟨hl1, hl2, hl3⟩ := hl8
    obtain ⟨nz1, nz2, nz3⟩ := apart_own hz9 ho8 (HKL.out)
    clear hz9 ho8 hB fB
    have m16a := O_s.out.R.lt
    have m16b := O_s.out.C.lt
    have m16c := O_s.out.M.lt
    have mzz := B_ss.out.lt
    have c17 : u.cell? ⟨zz, 0, none⟩ = some (.int .i64 0) := B_ss.out.cel 0 (by simp)
    have c18 : u.cell? ⟨zz, 1, none⟩ = some (.slice none 0 0) := B_ss.out.cel 1 (by simp)
    have c19 : u.cell? ⟨zz, 2, none⟩ = some (.slice none 0 0) := B_ss.out.cel 2 (by simp)
    have c20 : u.cell? ⟨zz, 3, none⟩ = some (.slice none 0 0) := B_ss.out.cel 3 (by simp)
    have c21 : u.frozen? ⟨zz, 0, none⟩ = false := B_ss.out.fro 0 (by simp)
    have c22 : u.frozen? ⟨zz, 1, none⟩ = false := B_ss.out.fro 1 (by simp)
    have c23 : u.frozen? ⟨zz, 2, none⟩ = false := B_ss.out.fro 2 (by simp)
    have c24 : u.frozen? ⟨zz, 3, none⟩ = false := B_ss.out.fro 3 (by simp)
    refine wpOp_step rfl (fun K hK => ?_)
    go_simp
    refine hK _ _ ?_
    go_upto_region 7 with fail
    refine wp_gen (fun v9 => Cel v9 w.heap.size [.int .i64 10, .int .i64 2, .int .i64 1, .int .i64 2, .int .i64 0, .int .i64 0] ∧ Cel v9 zz [.int .i64 0, .slice (some ⟨s1, 0, none⟩) 8 sr, .slice (some ⟨s2, 0, none⟩) 5 sc, .slice (some ⟨s3, 0, none⟩) 256 sm] ∧ Own v9 s1 s2 s3 ⟨0, zeros 8, zeros 5, (newM [wd, wd]).set ad.toNat a⟩ ∧ Fr w v9) ⟨?_, ?_, ?_, ?_⟩ ?_
    · have q9 := B_c.out
      (repeat (first | (with_reducible assumption) | (with_reducible exact Cel.new _ _ _ _ (by first | rfl | omega | (simp; done) | (simp; omega))) | (with_reducible refine Cel.alloc ?_ _) | (with_reducible refine Cel.drew ?_) | (with_reducible refine Cel.drewN ?_ _) | (with_reducible refine Cel.other ?_ _ _ _ (by omega))))
    · have q9 := (show Cel ((((u.setCell ⟨zz, 0, none⟩ (.int .i64 0)).setCell ⟨zz, 1, none⟩ (.slice (some ⟨s1, 0, none⟩) 8 sr)).setCell ⟨zz, 2, none⟩ (.slice (some ⟨s2, 0, none⟩) 5 sc)).setCell ⟨zz, 3, none⟩ (.slice (some ⟨s3, 0, none⟩) 256 sm)) zz [.int .i64 0, .slice (some ⟨s1, 0, none⟩) 8 sr, .slice (some ⟨s2, 0, none⟩) 5 sc, .slice (some ⟨s3, 0, none⟩) 256 sm] from ((((B_ss.out.set 0 (.int .i64 0) (by simp)).set 1 (.slice (some ⟨s1, 0, none⟩) 8 sr) (by simp)).set 2 (.slice (some ⟨s2, 0, none⟩) 5 sc) (by simp)).set 3 (.slice (some ⟨s3, 0, none⟩) 256 sm) (by simp)))
      (repeat (first | (with_reducible assumption) | (with_reducible exact Cel.new _ _ _ _ (by first | rfl | omega | (simp; done) | (simp; omega))) | (with_reducible refine Cel.alloc ?_ _) | (with_reducible refine Cel.drew ?_) | (with_reducible refine Cel.drewN ?_ _) | (with_reducible refine Cel.other ?_ _ _ _ (by omega))))
    · have q9 := O_s.out
      (repeat (first | (with_reducible assumption) | (with_reducible refine Own.alloc ?_ _) | (with_reducible refine Own.drew ?_) | (with_reducible refine Own.drewN ?_ _) | (with_reducible refine Own.other ?_ _ _ _ (by omega) (by omega) (by omega))))
    · refine fr_but (L := [zz]) HF.out ?_ (fun k hk => by first | (cases hk; done) | (simp at hk; omega))
      (repeat (first | (with_reducible exact But.refl _ _) | (with_reducible assumption) | (with_reducible refine But.alloc ?_ _) | (with_reducible refine But.drew ?_) | (with_reducible refine But.drewN ?_ _) | (with_reducible refine But.set ?_ _ _ _ (by first | (left; simp; done) | (right; simp; done) | (right; omega) | (right; simp; omega)))))
    rintro u25 ⟨z0, z1, z2, z3⟩
    replace B_c := Lib.hid z0
    replace B_ss := Lib.hid z1
    replace O_s := Lib.hid z2
    replace HF := Lib.hid z3
    clear z0 z1 z2 z3
    clear c17 c18 c19 c20 c21 c22 c23 c24
    generalize zz = zs at *
    have L_s : Hid (Lens ⟨0, zeros 8, zeros 5, (newM [wd, wd]).set ad.toNat a⟩) := Lib.hid ⟨HKL.out.Rl, HKL.out.Cl, HKL.out.Ml⟩
    have c26 : u25.cell? ⟨zs, 1, none⟩ = some (.slice (some ⟨s1, 0, none⟩) 8 sr) := B_ss.out.cel 1 (by simp)
    have r27 := O_s.out.R.cel 1 (by rw [L_s.out.Rl]; omega)
    have r28 : u25.frozen? ⟨s1, 1, none⟩ = false := O_s.out.R.fro 1 (by rw [L_s.out.Rl]; omega)
    go_upto_region 8 with fail
    refine wp_gen (fun v9 => Cel v9 w.heap.size [.int .i64 10, .int .i64 2, .int .i64 1, .int .i64 2, .int .i64 0, .int .i64 0] ∧ Cel v9 zs [.int .i64 0, .slice (some ⟨s1, 0, none⟩) 8 sr, .slice (some ⟨s2, 0, none⟩) 5 sc, .slice (some ⟨s3, 0, none⟩) 256 sm] ∧ Own v9 s1 s2 s3 ⟨0, (zeros 8).set 1 ad, zeros 5, (newM [wd, wd]).set ad.toNat a⟩ ∧ Fr w v9) ⟨?_, ?_, ?_, ?_⟩ ?_
    · have q9 := B_c.out
      (repeat (first | (with_reducible assumption) | (with_reducible exact Cel.new _ _ _ _ (by first | rfl | omega | (simp; done) | (simp; omega))) | (with_reducible refine Cel.alloc ?_ _) | (with_reducible refine Cel.drew ?_) | (with_reducible refine Cel.drewN ?_ _) | (with_reducible refine Cel.other ?_ _ _ _ (by omega))))
    · have q9 := B_ss.out
      (repeat (first | (with_reducible assumption) | (with_reducible exact Cel.new _ _ _ _ (by first | rfl | omega | (simp; done) | (simp; omega))) | (with_reducible refine Cel.alloc ?_ _) | (with_reducible refine Cel.drew ?_) | (with_reducible refine Cel.drewN ?_ _) | (with_reducible refine Cel.other ?_ _ _ _ (by omega))))
    · have q9 := (show Own (u25.setCell ⟨s1, 1, none⟩ (.int .i64 ad)) s1 s2 s3 ⟨0, (zeros 8).set 1 ad, zeros 5, (newM [wd, wd]).set ad.toNat a⟩ from O_s.out.setR 1 ad (by rw [L_s.out.Rl]; omega) 0)
      (repeat (first | (with_reducible assumption) | (with_reducible refine Own.alloc ?_ _) | (with_reducible refine Own.drew ?_) | (with_reducible refine Own.drewN ?_ _) | (with_reducible refine Own.other ?_ _ _ _ (by omega) (by omega) (by omega))))
    · refine fr_but (L := [s1]) HF.out ?_ (fun k hk => by first | (cases hk; done) | (simp at hk; omega))
      (repeat (first | (with_reducible exact But.refl _ _) | (with_reducible assumption) | (with_reducible refine But.alloc ?_ _) | (with_reducible refine But.drew ?_) | (with_reducible refine But.drewN ?_ _) | (with_reducible refine But.set ?_ _ _ _ (by first | (left; simp; done) | (right; simp; done) | (right; omega) | (right; simp; omega)))))
    rintro u29 ⟨z0, z1, z2, z3⟩
    replace B_c := Lib.hid z0
    replace B_ss := Lib.hid z1
    replace O_s := Lib.hid z2
    replace HF := Lib.hid z3
    clear z0 z1 z2 z3
    clear L_s
    have L_s : Hid (Lens ⟨0, (zeros 8).set 1 ad, zeros 5, (newM [wd, wd]).set ad.toNat a⟩) := Lib.hid ⟨by show (List.length ((zeros 8).set 1 ad) = 8); simp only [List.length_set, zeros_len], HKL.out.Cl, HKL.out.Ml⟩
    clear c26 r27 r28
    have c30 : u29.cell? ⟨zs, 1, none⟩ = some (.slice (some ⟨s1, 0, none⟩) 8 sr) := B_ss.out.cel 1 (by simp)
    have r31 := O_s.out.R.cel 2 (by rw [L_s.out.Rl]; omega)
    have r32 : u29.frozen? ⟨s1, 2, none⟩ = false := O_s.out.R.fro 2 (by rw [L_s.out.Rl]; omega)
    go_upto_region 9 with fail
    refine wp_gen (fun v9 => Cel v9 w.heap.size [.int .i64 10, .int .i64 2, .int .i64 1, .int .i64 2, .int .i64 0, .int .i64 0] ∧ Cel v9 zs [.int .i64 0, .slice (some ⟨s1, 0, none⟩) 8 sr, .slice (some ⟨s2, 0, none⟩) 5 sc, .slice (some ⟨s3, 0, none⟩) 256 sm] ∧ Own v9 s1 s2 s3 ⟨0, ((zeros 8).set 1 ad).set 2 b, zeros 5, (newM [wd, wd]).set ad.toNat a⟩ ∧ Fr w v9) ⟨?_, ?_, ?_, ?_⟩ ?_
    · have q9 := B_c.out
      (repeat (first | (with_reducible assumption) | (with_reducible exact Cel.new _ _ _ _ (by first | rfl | omega | (simp; done) | (simp; omega))) | (with_reducible refine Cel.alloc ?_ _) | (with_reducible refine Cel.drew ?_) | (with_reducible refine Cel.drewN ?_ _) | (with_reducible refine Cel.other ?_ _ _ _ (by omega))))
    · have q9 := B_ss.out
      (repeat (first | (with_reducible assumption) | (with_reducible exact Cel.new _ _ _ _ (by first | rfl | omega | (simp; done) | (simp; omega))) | (with_reducible refine Cel.alloc ?_ _) | (with_reducible refine Cel.drew ?_) | (with_reducible refine Cel.drewN ?_ _) | (with_reducible refine Cel.other ?_ _ _ _ (by omega))))
    · have q9 := (show Own (u29.setCell ⟨s1, 2, none⟩ (.int .i64 b)) s1 s2 s3 ⟨0, ((zeros 8).set 1 ad).set 2 b, zeros 5, (newM [wd, wd]).set ad.toNat a⟩ from O_s.out.setR 2 b (by rw [L_s.out.Rl]; omega) 0)
      (repeat (first | (with_reducible assumption) | (with_reducible refine Own.alloc ?_ _) | (with_reducible refine Own.drew ?_) | (with_reducible refine Own.drewN ?_ _) | (with_reducible refine Own.other ?_ _ _ _ (by omega) (by omega) (by omega))))
    · refine fr_but (L := [s1]) HF.out ?_ (fun k hk => by first | (cases hk; done) | (simp at hk; omega))
      (repeat (first | (with_reducible exact But.refl _ _) | (with_reducible assumption) | (with_reducible refine But.alloc ?_ _) | (with_reducible refine But.drew ?_) | (with_reducible refine But.drewN ?_ _) | (with_reducible refine But.set ?_ _ _ _ (by first | (left; simp; done) | (right; simp; done) | (right; omega) | (right; simp; omega)))))
    rintro u33 ⟨z0, z1, z2, z3⟩
    replace B_c := Lib.hid z0
    replace B_ss := Lib.hid z1
    replace O_s := Lib.hid z2
    replace HF := Lib.hid z3
    clear z0 z1 z2 z3
    clear L_s
    have L_s : Hid (Lens ⟨0, ((zeros 8).set 1 ad).set 2 b, zeros 5, (newM [wd, wd]).set ad.toNat a⟩) := Lib.hid ⟨HK1.out.Rl, HK1.out.Cl, HK1.out.Ml⟩
    clear c30 r31 r32
    have c34 : u33.cell? ⟨zs, 0, none⟩ = some (.int .i64 0) := B_ss.out.cel 0 (by simp)
    have c35 : u33.cell? ⟨zs, 1, none⟩ = some (.slice (some ⟨s1, 0, none⟩) 8 sr) := B_ss.out.cel 1 (by simp)
    have c36 : u33.cell? ⟨zs, 2, none⟩ = some (.slice (some ⟨s2, 0, none⟩) 5 sc) := B_ss.out.cel 2 (by simp)
    have c37 : u33.cell? ⟨zs, 3, none⟩ = some (.slice (some ⟨s3, 0, none⟩) 256 sm) := B_ss.out.cel 3 (by simp)
    go_wp2_with fail
    clear c34 c35 c36 c37
    have m39 := B_c.out.lt
    have m40 := B_ss.out.lt
    have m41 := HF.out.size
    refine (step_to (s := ⟨0, ((zeros 8).set 1 ad).set 2 b, zeros 5, (newM [wd, wd]).set ad.toNat a⟩) (s2 := ⟨1, (((zeros 8).set 1 ad).set 2 b).set 2 a, zeros 5, ((newM [wd, wd]).set ad.toNat a).set ad.toNat b⟩) (e2 := ⟨0, wd, 0, 2, a, ad, b⟩) O_s.out HK1.out rfl (HT.out.fr HF.out) HST1.out).mono ?_
    rintro e u38 ⟨x1, x2, x3, xr, xc, xm, he, ho, hl1, hl2, hl3, f⟩
    replace B_c := Lib.hid (B_c.out.fr f)
    replace B_ss := Lib.hid (B_ss.out.fr f)
    replace O_s := Lib.hid (O_s.out.fr f)
    replace HF := Lib.hid (Fr.trans HF.out f)
    have O_x := Lib.hid (show Own u38 x1 x2 x3 ⟨1, (((zeros 8).set 1 ad).set 2 b).set 2 a, zeros 5, ((newM [wd, wd]).set ad.toNat a).set ad.toNat b⟩ from ho)
    have he2 : e = .returned (.tuple #[.agg #[.int .i64 1, .slice (some ⟨x1, 0, none⟩) 8 xr, .slice (some ⟨x2, 0, none⟩) 5 xc, .slice (some ⟨x3, 0, none⟩) 256 xm], .agg #[.int .i64 0, .int .i64 wd, .int .i64 0, .int .i64 2, .int .i64 a, .int .i64 ad, .int .i64 b]]) := he
    subst he2
    clear he ho f
    have m42a := O_x.out.R.lt
    have m42b := O_x.out.C.lt
    have m42c := O_x.out.M.lt
    go_upto_region 10 with fail
    refine wp_gen (fun v9 => Cel v9 w.heap.size [.int .i64 10, .int .i64 2, .int .i64 1, .int .i64 2, .int .i64 0, .int .i64 0] ∧ Cel v9 zs [.int .i64 0, .slice (some ⟨s1, 0, none⟩) 8 sr, .slice (some ⟨s2, 0, none⟩) 5 sc, .slice (some ⟨s3, 0, none⟩) 256 sm] ∧ Cel v9 u38.heap.size [.int .i64 1, .slice (some ⟨x1, 0, none⟩) 8 xr, .slice (some ⟨x2, 0, none⟩) 5 xc, .slice (some ⟨x3, 0, none⟩) 256 xm] ∧ Cel v9 (u38.heap.size + 1) [.int .i64 0, .int .i64 wd, .int .i64 0, .int .i64 2, .int .i64 a, .int .i64 ad, .int .i64 b] ∧ Own v9 s1 s2 s3 ⟨0, ((zeros 8).set 1 ad).set 2 b, zeros 5, (newM [wd, wd]).set ad.toNat a⟩ ∧ Own v9 x1 x2 x3 ⟨1, (((zeros 8).set 1 ad).set 2 b).set 2 a, zeros 5, ((newM [wd, wd]).set ad.toNat a).set ad.toNat b⟩ ∧ Fr w v9) ⟨?_, ?_, ?_, ?_, ?_, ?_, ?_⟩ ?_
    · have q9 := B_c.out
      (repeat (first | (with_reducible assumption) | (with_reducible exact Cel.new _ _ _ _ (by first | rfl | omega | (simp; done) | (simp; omega))) | (with_reducible refine Cel.alloc ?_ _) | (with_reducible refine Cel.drew ?_) | (with_reducible refine Cel.drewN ?_ _) | (with_reducible refine Cel.other ?_ _ _ _ (by omega))))
    · have q9 := B_ss.out
      (repeat (first | (with_reducible assumption) | (with_reducible exact Cel.new _ _ _ _ (by first | rfl | omega | (simp; done) | (simp; omega))) | (with_reducible refine Cel.alloc ?_ _) | (with_reducible refine Cel.drew ?_) | (with_reducible refine Cel.drewN ?_ _) | (with_reducible refine Cel.other ?_ _ _ _ (by omega))))
    · (repeat (first | (with_reducible assumption) | (with_reducible exact Cel.new _ _ _ _ (by first | rfl | omega | (simp; done) | (simp; omega))) | (with_reducible refine Cel.alloc ?_ _) | (with_reducible refine Cel.drew ?_) | (with_reducible refine Cel.drewN ?_ _) | (with_reducible refine Cel.other ?_ _ _ _ (by omega))))
    · (repeat (first | (with_reducible assumption) | (with_reducible exact Cel.new _ _ _ _ (by first | rfl | omega | (simp; done) | (simp; omega))) | (with_reducible refine Cel.alloc ?_ _) | (with_reducible refine Cel.drew ?_) | (with_reducible refine Cel.drewN ?_ _) | (with_reducible refine Cel.other ?_ _ _ _ (by omega))))
    · have q9 := O_s.out
      (repeat (first | (with_reducible assumption) | (with_reducible refine Own.alloc ?_ _) | (with_reducible refine Own.drew ?_) | (with_reducible refine Own.drewN ?_ _) | (with_reducible refine Own.other ?_ _ _ _ (by omega) (by omega) (by omega))))
    · have q9 := O_x.out
      (repeat (first | (with_reducible assumption) | (with_reducible refine Own.alloc ?_ _) | (with_reducible refine Own.drew ?_) | (with_reducible refine Own.drewN ?_ _) | (with_reducible refine Own.other ?_ _ _ _ (by omega) (by omega) (by omega))))
    · refine fr_but (L := []) HF.out ?_ (fun k hk => by first | (cases hk; done) | (simp at hk; omega))
      (repeat (first | (with_reducible exact But.refl _ _) | (with_reducible assumption) | (with_reducible refine But.alloc ?_ _) | (with_reducible refine But.drew ?_) | (with_reducible refine But.drewN ?_ _) | (with_reducible refine But.set ?_ _ _ _ (by first | (left; simp; done) | (right; simp; done) | (right; omega) | (right; simp; omega)))))
    rintro u43 ⟨z0, z1, z2, z3, z4, z5, z6⟩
    replace B_c := Lib.hid z0
    replace B_ss := Lib.hid z1
    have B_sx := Lib.hid z2
    have B_ex := Lib.hid z3
    replace O_s := Lib.hid z4
    replace O_x := Lib.hid z5
    replace HF := Lib.hid z6
    clear z0 z1 z2 z3 z4 z5 z6
    generalize u38.heap.size = N_x at *
    have L_x : Hid (Lens ⟨1, (((zeros 8).set 1 ad).set 2 b).set 2 a, zeros 5, ((newM [wd, wd]).set ad.toNat a).set ad.toNat b⟩) := Lib.hid ⟨HK2.out.Rl, HK2.out.Cl, HK2.out.Ml⟩
    have c44 : u43.cell? ⟨N_x, 0, none⟩ = some (.int .i64 1) := B_sx.out.cel 0 (by simp)
    have c45 : u43.cell? ⟨N_x, 1, none⟩ = some (.slice (some ⟨x1, 0, none⟩) 8 xr) := B_sx.out.cel 1 (by simp)
    have c46 : u43.cell? ⟨N_x, 2, none⟩ = some (.slice (some ⟨x2, 0, none⟩) 5 xc) := B_sx.out.cel 2 (by simp)
    have c47 : u43.cell? ⟨N_x, 3, none⟩ = some (.slice (some ⟨x3, 0, none⟩) 256 xm) := B_sx.out.cel 3 (by simp)
    go_wp2_with fail
    clear c44 c45 c46 c47
    have m49 := B_c.out.lt
    have m50 := B_ss.out.lt
    have m51 := B_sx.out.lt
    have m52 := B_ex.out.lt
    have m53 := HF.out.size
    refine (step_to (s := ⟨1, (((zeros 8).set 1 ad).set 2 b).set 2 a, zeros 5, ((newM [wd, wd]).set ad.toNat a).set ad.toNat b⟩) (s2 := ⟨2, ((((zeros 8).set 1 ad).set 2 b).set 2 a).set 2 b, zeros 5, (((newM [wd, wd]).set ad.toNat a).set ad.toNat b).set ad.toNat a⟩) (e2 := ⟨1, wd, 0, 2, b, ad, a⟩) O_x.out HK2.out rfl (HT.out.fr HF.out) HST2.out).mono ?_
    rintro e u48 ⟨y1, y2, y3, yr, yc, ym, he, ho, hl1, hl2, hl3, f⟩
    replace B_c := Lib.hid (B_c.out.fr f)
    replace B_ss := Lib.hid (B_ss.out.fr f)
    replace B_sx := Lib.hid (B_sx.out.fr f)
    replace B_ex := Lib.hid (B_ex.out.fr f)
    replace O_s := Lib.hid (O_s.out.fr f)
    replace O_x := Lib.hid (O_x.out.fr f)
    replace HF := Lib.hid (Fr.trans HF.out f)
    have O_y := Lib.hid (show Own u48 y1 y2 y3 ⟨2, ((((zeros 8).set 1 ad).set 2 b).set 2 a).set 2 b, zeros 5, (((newM [wd, wd]).set ad.toNat a).set ad.toNat b).set ad.toNat a⟩ from ho)
    have he2 : e = .returned (.tuple #[.agg #[.int .i64 2, .slice (some ⟨y1, 0, none⟩) 8 yr, .slice (some ⟨y2, 0, none⟩) 5 yc, .slice (some ⟨y3, 0, none⟩) 256 ym], .agg #[.int .i64 1, .int .i64 wd, .int .i64 0, .int .i64 2, .int .i64 b, .int .i64 ad, .int .i64 a]]) := he
    subst he2
    clear he ho f
    have m54a := O_y.out.R.lt
    have m54b := O_y.out.C.lt
    have m54c := O_y.out.M.lt
    go_upto_region 11 with fail
    refine wp_gen (fun v9 => Cel v9 w.heap.size [.int .i64 10, .int .i64 2, .int .i64 1, .int .i64 2, .int .i64 0, .int .i64 0] ∧ Cel v9 zs [.int .i64 0, .slice (some ⟨s1, 0, none⟩) 8 sr, .slice (some ⟨s2, 0, none⟩) 5 sc, .slice (some ⟨s3, 0, none⟩) 256 sm] ∧ Cel v9 N_x [.int .i64 1, .slice (some ⟨x1, 0, none⟩) 8 xr, .slice (some ⟨x2, 0, none⟩) 5 xc, .slice (some ⟨x3, 0, none⟩) 256 xm] ∧ Cel v9 (N_x + 1) [.int .i64 0, .int .i64 wd, .int .i64 0, .int .i64 2, .int .i64 a, .int .i64 ad, .int .i64 b] ∧ Cel v9 u48.heap.size [.int .i64 2, .slice (some ⟨y1, 0, none⟩) 8 yr, .slice (some ⟨y2, 0, none⟩) 5 yc, .slice (some ⟨y3, 0, none⟩) 256 ym] ∧ Cel v9 (u48.heap.size + 1) [.int .i64 1, .int .i64 wd, .int .i64 0, .int .i64 2, .int .i64 b, .int .i64 ad, .int .i64 a] ∧ Own v9 s1 s2 s3 ⟨0, ((zeros 8).set 1 ad).set 2 b, zeros 5, (newM [wd, wd]).set ad.toNat a⟩ ∧ Own v9 x1 x2 x3 ⟨1, (((zeros 8).set 1 ad).set 2 b).set 2 a, zeros 5, ((newM [wd, wd]).set ad.toNat a).set ad.toNat b⟩ ∧ Own v9 y1 y2 y3 ⟨2, ((((zeros 8).set 1 ad).set 2 b).set 2 a).set 2 b, zeros 5, (((newM [wd, wd]).set ad.toNat a).set ad.toNat b).set ad.toNat a⟩ ∧ Fr w v9) ⟨?_, ?_, ?_, ?_, ?_, ?_, ?_, ?_, ?_, ?_⟩ ?_
    · have q9 := B_c.out
      (repeat (first | (with_reducible assumption) | (with_reducible exact Cel.new _ _ _ _ (by first | rfl | omega | (simp; done) | (simp; omega))) | (with_reducible refine Cel.alloc ?_ _) | (with_reducible refine Cel.drew ?_) | (with_reducible refine Cel.drewN ?_ _) | (with_reducible refine Cel.other ?_ _ _ _ (by omega))))
    · have q9 := B_ss.out
      (repeat (first | (with_reducible assumption) | (with_reducible exact Cel.new _ _ _ _ (by first | rfl | omega | (simp; done) | (simp; omega))) | (with_reducible refine Cel.alloc ?_ _) | (with_reducible refine Cel.drew ?_) | (with_reducible refine Cel.drewN ?_ _) | (with_reducible refine Cel.other ?_ _ _ _ (by omega))))
    · have q9 := B_sx.out
      (repeat (first | (with_reducible assumption) | (with_reducible exact Cel.new _ _ _ _ (by first | rfl | omega | (simp; done) | (simp; omega))) | (with_reducible refine Cel.alloc ?_ _) | (with_reducible refine Cel.drew ?_) | (with_reducible refine Cel.drewN ?_ _) | (with_reducible refine Cel.other ?_ _ _ _ (by omega))))
    · have q9 := B_ex.out
      (repeat (first | (with_reducible assumption) | (with_reducible exact Cel.new _ _ _ _ (by first | rfl | omega | (simp; done) | (simp; omega))) | (with_reducible refine Cel.alloc ?_ _) | (with_reducible refine Cel.drew ?_) | (with_reducible refine Cel.drewN ?_ _) | (with_reducible refine Cel.other ?_ _ _ _ (by omega))))
    · (repeat (first | (with_reducible assumption) | (with_reducible exact Cel.new _ _ _ _ (by first | rfl | omega | (simp; done) | (simp; omega))) | (with_reducible refine Cel.alloc ?_ _) | (with_reducible refine Cel.drew ?_) | (with_reducible refine Cel.drewN ?_ _) | (with_reducible refine Cel.other ?_ _ _ _ (by omega))))
    · (repeat (first | (with_reducible assumption) | (with_reducible exact Cel.new _ _ _ _ (by first | rfl | omega | (simp; done) | (simp; omega))) | (with_reducible refine Cel.alloc ?_ _) | (with_reducible refine Cel.drew ?_) | (with_reducible refine Cel.drewN ?_ _) | (with_reducible refine Cel.other ?_ _ _ _ (by omega))))
    · have q9 := O_s.out
      (repeat (first | (with_reducible assumption) | (with_reducible refine Own.alloc ?_ _) | (with_reducible refine Own.drew ?_) | (with_reducible refine Own.drewN ?_ _) | (with_reducible refine Own.other ?_ _ _ _ (by omega) (by omega) (by omega))))
    · have q9 := O_x.out
      (repeat (first | (with_reducible assumption) | (with_reducible refine Own.alloc ?_ _) | (with_reducible refine Own.drew ?_) | (with_reducible refine Own.drewN ?_ _) | (with_reducible refine Own.other ?_ _ _ _ (by omega) (by omega) (by omega))))
    · have q9 := O_y.out
      (repeat (first | (with_reducible assumption) | (with_reducible refine Own.alloc ?_ _) | (with_reducible refine Own.drew ?_) | (with_reducible refine Own.drewN ?_ _) | (with_reducible refine Own.other ?_ _ _ _ (by omega) (by omega) (by omega))))
    · refine fr_but (L := []) HF.out ?_ (fun k hk => by first | (cases hk; done) | (simp at hk; omega))
      (repeat (first | (with_reducible exact But.refl _ _) | (with_reducible assumption) | (with_reducible refine But.alloc ?_ _) | (with_reducible refine But.drew ?_) | (with_reducible refine But.drewN ?_ _) | (with_reducible refine But.set ?_ _ _ _ (by first | (left; simp; done) | (right; simp; done) | (right; omega) | (right; simp; omega)))))
    rintro u55 ⟨z0, z1, z2, z3, z4, z5, z6, z7, z8, z9⟩
    replace B_c := Lib.hid z0
    replace B_ss := Lib.hid z1
    replace B_sx := Lib.hid z2
    replace B_ex := Lib.hid z3
    have B_sy := Lib.hid z4
    have B_ey := Lib.hid z5
    replace O_s := Lib.hid z6
    replace O_x := Lib.hid z7
    replace O_y := Lib.hid z8
    replace HF := Lib.hid z9
    clear z0 z1 z2 z3 z4 z5 z6 z7 z8 z9
    generalize u48.heap.size = N_y at *
    have L_y : Hid (Lens ⟨2, ((((zeros 8).set 1 ad).set 2 b).set 2 a).set 2 b, zeros 5, (((newM [wd, wd]).set ad.toNat a).set ad.toNat b).set ad.toNat a⟩) := Lib.hid ⟨HK3.out.Rl, HK3.out.Cl, HK3.out.Ml⟩
    have c56 : u55.cell? ⟨N_x, 3, none⟩ = some (.slice (some ⟨x3, 0, none⟩) 256 xm) := B_sx.out.cel 3 (by simp)
    have ix0 : 0 ≤ ad := by omega
    have ix1 : ad < 256 := by omega
    have r57 : u55.cell? ⟨x3, ad.toNat, none⟩ = some (.int .i64 b) := (O_x.out.M.cel ad.toNat (by rw [L_x.out.Ml]; omega)).trans (congrArg (fun x => some (Value.int .i64 x)) (V2.out))
    have c58 : u55.cell? ⟨N_x, 1, none⟩ = some (.slice (some ⟨x1, 0, none⟩) 8 xr) := B_sx.out.cel 1 (by simp)
    have r59 : u55.cell? ⟨x1, 2, none⟩ = some (.int .i64 a) := (O_x.out.R.cel 2 (by rw [L_x.out.Rl]; omega)).trans (congrArg (fun x => some (Value.int .i64 x)) (show ((((zeros 8).set 1 ad).set 2 b).set 2 a).getD 2 0 = a from rfl))
    have c60 : u55.cell? ⟨N_x + 1, 4, none⟩ = some (.int .i64 a) := B_ex.out.cel 4 (by simp)
    have c61 : u55.cell? ⟨N_x + 1, 6, none⟩ = some (.int .i64 b) := B_ex.out.cel 6 (by simp)
    have c62 : u55.cell? ⟨N_x + 1, 5, none⟩ = some (.int .i64 ad) := B_ex.out.cel 5 (by simp)
    have c63 : u55.cell? ⟨N_y, 3, none⟩ = some (.slice (some ⟨y3, 0, none⟩) 256 ym) := B_sy.out.cel 3 (by simp)
    have r64 : u55.cell? ⟨y3, ad.toNat, none⟩ = some (.int .i64 a) := (O_y.out.M.cel ad.toNat (by rw [L_y.out.Ml]; omega)).trans (congrArg (fun x => some (Value.int .i64 x)) (V3.out))
    have c65 : u55.cell? ⟨N_y, 1, none⟩ = some (.slice (some ⟨y1, 0, none⟩) 8 yr) := B_sy.out.cel 1 (by simp)
    have r66 : u55.cell? ⟨y1, 2, none⟩ = some (.int .i64 b) := (O_y.out.R.cel 2 (by rw [L_y.out.Rl]; omega)).trans (congrArg (fun x => some (Value.int .i64 x)) (show (((((zeros 8).set 1 ad).set 2 b).set 2 a).set 2 b).getD 2 0 = b from rfl))
    have c67 : u55.cell? ⟨N_y + 1, 4, none⟩ = some (.int .i64 b) := B_ey.out.cel 4 (by simp)
    have c68 : u55.cell? ⟨N_y, 0, none⟩ = some (.int .i64 2) := B_sy.out.cel 0 (by simp)
    go_wp2
    go_ret
    exact ⟨rfl, HF.out⟩

set_option maxRecDepth 100000 in
theorem lifted (os : Os) (started : os.Started) (H : Type) (enc : TypeId × Value → H) :
    ReturnsInHanded {} Tryd.checked os 12 .any (fun w args => (Rows.fnDoSwapSpec.pre enc Tryd.prog Tryd.f12 [] false w args ∧ laidMetH Tryd.prog laidAll w) ∧ sizedMet enc Tryd.prog Tryd.f12 (OpenSpec.ofChange Rows.fnDoSwapSpec) false w args)
      (Rows.fnDoSwapSpec.post enc Tryd.prog Tryd.f12 false true false false) := by
  refine returnsInHanded_of_change_and (C := Tryd.checked) (X := fun w _ => laidMetH Tryd.prog laidAll w) (fun _ _ _ hh h => h.of_heap hh) own started (by kernel_rfl) Tryd.func12
    (ChangeSpec.witness_shaped (enc := enc) (C := Tryd.checked) (os := os) (X := fun w _ => laidMetH Tryd.prog laidAll w) false (World.doorLaid Tryd.prog 400 os) #[.slice none 0 0] 8 rfl (World.shaped_of_RefB (by kernel_rfl) (by kernel_rfl)) (by kernel_rfl) (by kernel_rfl) (by kernel_rfl) (door_met os _)) ?_
  intro W base args ds gs before hval0 hW _ _ hL _
  have hval : ∀ (j : Nat) t v, Tryd.f12.params[j]? = some t → args[j]? = some v → Value.okWide Tryd.prog W .any base t v := hval0
  have hW' := hW
  obtain ⟨p, q, hA0, hV0, rfl, hfz, hnd⟩ := hW
  have hA : DataW.TrodAll enc Tryd.prog W 0 (fun _ => true) true Tryd.f12.params.toList args.toList ds p := hA0
  have hV : DataW.TrodVars enc Tryd.prog W (fun _ => true) laidNames gs q := hV0
  rw [Tryd.params12] at hA hval
  obtain ⟨v0, vs0, d0, ds0, p0, q0, hargs, rfl, rfl, h0, r0⟩ := trodAll_cons hA
  obtain ⟨rfl, rfl, rfl⟩ := trodAll_nil r0
  obtain rfl : args = #[v0] := by cases args; simp_all
  have hV1 := hV
  obtain ⟨g0, t0, cs0, f0, e0, s0, g1, t1, cs1, f1, e1, s1, rfl, _⟩ := trodVars_two hV1
  obtain ⟨a0, len0, cap0, rfl⟩ := okWide_slice Tryd.underlying42 (hval 0 42 v0 rfl rfl)
  have k0 := h0
  have lt0 : ∀ x ∈ p0, x.block < W.heap.size := by obtain ⟨m, hm⟩ := k0; exact DataW.trod_lt m _ _ _ hm
  obtain ⟨z0, w0⟩ : ∃ zs, IsRow .u8 W a0 len0 cap0 zs := by
    obtain ⟨fuel, hf⟩ := h0
    rcases open_ints Tryd.underlying42 Tryd.underlying5 (by kernel_rfl) hf with ⟨hcs, _⟩ | ⟨x, l, c, zs, hcs, _, hl, hm, hz, _, hcell, hwz⟩
    · simp [Value.cells] at hcs
      obtain ⟨rfl, rfl, rfl⟩ := hcs
      exact ⟨[], .inl ⟨rfl, rfl, rfl, rfl⟩⟩
    · simp [Value.cells] at hcs
      obtain ⟨rfl, rfl, rfl⟩ := hcs
      exact ⟨zs, .inr ⟨_, rfl, hl, hm, by simpa using hz, hcell, hwz⟩⟩
  clear hA0 hval0 hV1
  refine (walk a0 len0 cap0 z0 W (tabs_of_laid hL) w0).mono fun e W' ⟨he, bel⟩ => ?_
  subst he
  exact ⟨_, rfl, _, _, _, [], _, _, hW', trodAll_mk1 (shut_bool Tryd.underlying4 _), (trodAll_cons_mk (Below.trod laidOut (by kernel_rfl) (of_decide_eq_true (by kernel_rfl)) k0 bel lt0) trodAll_mk0), bel.trodVars laidOut (by kernel_rfl) hV, bel.frame _, fun h => by cases h⟩

theorem over : Rows.fnDoSwapRow.holds Tryd.pinned (OpenSpec.ofChange Rows.fnDoSwapSpec) :=
  OpenClaim.holds_of_wide 12 Tryd.f12 rfl rfl rfl rfl rfl rfl rfl ⟨rfl, rfl, rfl, rfl, rfl⟩ rfl rfl rfl rfl rfl (by kernel_rfl) Tryd.func12 (by kernel_rfl)
    (of_decide_eq_true (by kernel_rfl)) (by unfold Func.isWrapper; first | (rw [if_pos (by decide +kernel)]; kernel_rfl) | (rw [if_neg (by decide +kernel)]; exact ⟨rfl, rfl⟩))
    (fun os started H enc _ => lifted os started H enc)

/-- THE STATEMENT: the tied card. -/
theorem proved : Rows.FnDoSwapCardSaid :=
  Claim7.holds_tied_plain_at .later [] [.wider, .data] true (true, "9dc2e115a97561e3249269897313e148c9c7960c406c87ea32a23191d0e08754") true
    over (fun _ h => by cases h) (by kernel_rfl) (fun _ h => by cases h) fnDoSwap_row_tie rfl ⟨rfl, rfl⟩ (by kernel_rfl) rfl
    (fun f fn hf hfn => by
      obtain rfl : f = 12 := Option.some.inj ((show Tryd.prog.funcNamed "loop.example/harbinger/laws.FnDoSwap" = some 12 by kernel_rfl).symm.trans hf) |>.symm
      obtain rfl : fn = Tryd.f12 := (Option.some.inj (Tryd.func12.symm.trans hfn)).symm
      exact ⟨by kernel_rfl, fun j t ht => by
        rw [Tryd.params12] at ht
        have hm : t ∈ [42] := by simpa using Array.mem_of_getElem? ht
        have hall : ([42].all fun u => !Tryd.prog.wantsStandIn u) = true := by kernel_rfl
        exact (show Tryd.prog.wantsStandIn t = false by simpa using List.all_eq_true.1 hall t hm)⟩)
    (by kernel_rfl)
#print axioms proved
end Go.Proofs.YtbjapncfgancoaaDoor.fnDoSwap
