/- For every code (any bytes), law FnDoPage returns true and its argument reads as before (no condition; the two tables read as the program's text lays them, which the card ties). -/
import Derived.Test.YtbjapncfgancoaaDoorCards
import Derived.Test.YtbjapncfgancoaaDoorTie
import Derived.Test.YtbjapncfgancoaaDoorLaid
import Derived.Test.YtbjapncfgancoaaDoorSx2
import Derived.WalkKit
import Derived.ProofKit
import Derived.OpenShut
import Derived.ShutString
import Derived.SliceStrings
import Derived.ChangeOld
import Derived.Below
import Derived.SevenTiedAt
namespace Go.Proofs.YtbjapncfgancoaaDoor.fnDoPage
open Go.ChangeShapes Go.WideShapes Go.ChangeAt Go.RowKit
set_option linter.unusedVariables false

def IsRow (k : IntKind) (w : World) (a : Option Addr) (len cap : Nat) (zs : List Int) : Prop :=
  (a = none ∧ len = 0 ∧ cap = 0 ∧ zs = []) ∨
  ∃ x, a = some x ∧ len ≤ cap ∧ cap ≤ maxLen ∧ zs.length = cap ∧ (∀ i, i < zs.length → w.cell? (x.add i) = some (.int k (zs.getD i 0))) ∧ ∀ n ∈ zs, (Lit.int k n).wf = true

set_option maxRecDepth 100000 in
set_option maxHeartbeats 8000000 in
theorem walk (a0 : Option Addr) (len0 cap0 : Nat) (z0 : List Int) (w : World) (ht : Tabs w) (w0 : IsRow .u8 w a0 len0 cap0 z0) :
    Calls Tryd.prog 18 #[.slice a0 len0 cap0] w fun e w' => e = .returned (.bool true) ∧ Below w.heap.size w w' := by
  have hc : Code1 w.heap.size w a0 len0 cap0 := by
    rcases w0 with ⟨rfl, rfl, rfl, rfl⟩ | ⟨x, rfl, hl, hm, hz, hcell, hwz⟩
    · exact ⟨Nat.le_refl _, Nat.le_refl _, Nat.zero_le _, .inl rfl, fun _ => rfl⟩
    · exact ⟨Nat.le_refl _, hl, hm, bytes_of_row hl hz hcell hwz, by simp⟩
  clear w0
  by_cases hlen : (1048576 : Int) < (len0 : Int)
  · go_enter Tryd.func18, Tryd.ntmps18
    go_wp2
    go_ret
    exact ⟨rfl, Below.refl _ _⟩
  have HT := Lib.hid ht
  have hl : len0 ≤ 1048576 := by omega
  clear ht
  go_enter Tryd.func18, Tryd.ntmps18
  go_wp2_with fail
  refine (laws_haWords w.heap.size a0 len0 cap0 w hc hl).mono ?_
  rintro e w' ⟨a, b, ha, hb, rfl, rfl⟩
  obtain ⟨a0', a1'⟩ := okB_true ha
  obtain ⟨b0', b1'⟩ := okB_true hb
  clear hc hl
  obtain ⟨fr, hfr⟩ : ∃ x, 10 + a % 6 = x := ⟨_, rfl⟩
  have fr0 : 10 ≤ fr := by omega
  have fr1 : fr < 16 := by omega
  obtain ⟨c, hc⟩ : ∃ x, b % 16 = x := ⟨_, rfl⟩
  have c0 : 0 ≤ c := by omega
  have c1 : c < 16 := by omega
  obtain ⟨ad, had⟩ : ∃ x, 16 + c = x := ⟨_, rfl⟩
  have ad0 : 16 ≤ ad := by omega
  have ad1 : ad < 32 := by omega
  obtain ⟨q, hq⟩ : ∃ x, fr * 16 + c = x := ⟨_, rfl⟩
  have q0 : 160 ≤ q := by omega
  have q1 : q < 256 := by omega
  have hi1 : iok 4 0 1 2 0 0 = true := by simp [iok, okAt, layN, layL, eL, eG, encL]
  have hi2 : iok 3 3 1 0 0 16 = true := by simp [iok, okAt, layN, layL, eL, eG, encL]
  have hi3 : iok 4 0 1 2 0 16 = true := by simp [iok, okAt, layN, layL, eL, eG, encL]
  obtain ⟨wd1, hwd1⟩ : ∃ x, worD 4 0 1 2 0 0 = x := ⟨_, rfl⟩
  obtain ⟨wd2, hwd2⟩ : ∃ x, worD 3 3 1 0 0 16 = x := ⟨_, rfl⟩
  obtain ⟨wd3, hwd3⟩ : ∃ x, worD 4 0 1 2 0 16 = x := ⟨_, rfl⟩
  have hst1 := pg_1 (f := fr) (c := c) (w2 := wd2) (w3 := wd3) (b := b) fr0 fr1 c0 c1 hwd1 hi1
  have hst2 := pg_2 (f := fr) (c := c) (w1 := wd1) (w3 := wd3) (b := b) fr0 fr1 c0 c1 hwd2 hi2
  have hst3 := pg_3 (f := fr) (c := c) (w1 := wd1) (w2 := wd2) (b := b) fr0 fr1 c0 c1 hwd3 hi3 (R := (pgR (16 + c) b).set 3 b) rfl
  have hk0 := pg_ok (f := fr) (w1 := wd1) (w2 := wd2) (w3 := wd3) (ad := ad) (b := b) (by omega) fr1 (worD_ok hi1 hwd1) (worD_ok hi2 hwd2) (worD_ok hi3 hwd3) (okB_mk (by omega) (by omega)) hb
  have hs1 := pg_see1 (f := fr) (c := c) (w1 := wd1) (w2 := wd2) (w3 := wd3) fr0 fr1 c0 c1
  have hs3 := pg_see3 (f := fr) (c := c) (w1 := wd1) (w2 := wd2) (w3 := wd3) fr0 fr1 c0 c1
  have hs4 := pg_see4 (f := fr) (w1 := wd1) (w2 := wd2) (w3 := wd3)
  rw [had, hq] at hst1 hst2 hst3
  rw [had, hq] at hs1
  have hk1 := step_okS hk0 hst1
  have hk2 := step_okS hk1 hst2
  have had2 : okB ad = true := okB_mk (by omega) (by omega)
  have had3 : okB (32 + c) = true := okB_mk (by omega) (by omega)
  have hw1 := worD_ok hi1 hwd1
  have hw2 := worD_ok hi2 hwd2
  have hw3 := worD_ok hi3 hwd3
  have hl8 : (zeros 8).length = 8 := zeros_len 8
  have hl5 : (zeros 5).length = 5 := zeros_len 5
  have hl256 : (zeros 256).length = 256 := zeros_len 256
  have HI1 := Lib.hid hi1
  have HI2 := Lib.hid hi2
  have HI3 := Lib.hid hi3
  have HWD1 := Lib.hid hwd1
  have HWD2 := Lib.hid hwd2
  have HWD3 := Lib.hid hwd3
  have HST1 := Lib.hid hst1
  have HST2 := Lib.hid hst2
  have HST3 := Lib.hid hst3
  have HK0 := Lib.hid hk0
  have HK1 := Lib.hid hk1
  have HK2 := Lib.hid hk2
  have HS1 := Lib.hid hs1
  have HS3 := Lib.hid hs3
  have HS4 := Lib.hid hs4
  have HAD2 := Lib.hid had2
  have HAD3 := Lib.hid had3
  have HW1 := Lib.hid hw1
  have HW2 := Lib.hid hw2
  have HW3 := Lib.hid hw3
  have HL8 := Lib.hid hl8
  have HL5 := Lib.hid hl5
  have HL256 := Lib.hid hl256
  clear hi1 hi2 hi3 hwd1 hwd2 hwd3 hst1 hst2 hst3 hk0 hk1 hk2 hs1 hs3 hs4 had2 had3 hw1 hw2 hw3 hl8 hl5 hl256
  have HF : Hid (Fr w w) := Lib.hid (Below.refl _ _)
  go_wp2_with fail
  have m2 := HF.out.size
  have f0 : Fr w (w.alloc (.cells #[] 3)) := Fr.alloc _ _
  replace HF := Lib.hid (Fr.trans HF.out f0)
  have m3 := HF.out.size
  clear f0
  refine (new_to [] _ 0 _ _ (src_none _ _) rfl rfl).mono ?_
  rintro e u1 ⟨s1, s2, s3, sr, sc, sm, he, ho, hl1, hl2, hl3, f⟩
  replace HF := Lib.hid (Fr.trans HF.out f)
  have O_s := Lib.hid (show Own u1 s1 s2 s3 ⟨0, zeros 8, zeros 5, zeros 256⟩ from ho)
  have he2 : e = .returned (.agg #[.int .i64 0, .slice (some ⟨s1, 0, none⟩) 8 sr, .slice (some ⟨s2, 0, none⟩) 5 sc, .slice (some ⟨s3, 0, none⟩) 256 sm]) := he
  subst he2
  clear he ho f
  have m4a := O_s.out.R.lt
  have m4b := O_s.out.C.lt
  have m4c := O_s.out.M.lt
  go_upto_region 6 with fail
  refine wp_gen (fun v9 => Cel v9 u1.heap.size [.int .i64 0, .slice (some ⟨s1, 0, none⟩) 8 sr, .slice (some ⟨s2, 0, none⟩) 5 sc, .slice (some ⟨s3, 0, none⟩) 256 sm] ∧ Own v9 s1 s2 s3 ⟨0, zeros 8, zeros 5, zeros 256⟩ ∧ Fr w v9) ⟨?_, ?_, ?_⟩ ?_
  · (repeat (first | (with_reducible assumption) | (with_reducible exact Cel.new _ _ _ _ (by first | rfl | omega | (simp; done) | (simp; omega))) | (with_reducible refine Cel.alloc ?_ _) | (with_reducible refine Cel.drew ?_) | (with_reducible refine Cel.drewN ?_ _) | (with_reducible refine Cel.other ?_ _ _ _ (by omega))))
  · have q9 := O_s.out
    (repeat (first | (with_reducible assumption) | (with_reducible refine Own.alloc ?_ _) | (with_reducible refine Own.drew ?_) | (with_reducible refine Own.drewN ?_ _) | (with_reducible refine Own.other ?_ _ _ _ (by omega) (by omega) (by omega))))
  · refine fr_but (L := []) HF.out ?_ (fun k hk => by first | (cases hk; done) | (simp at hk; omega))
    (repeat (first | (with_reducible exact But.refl _ _) | (with_reducible assumption) | (with_reducible refine But.alloc ?_ _) | (with_reducible refine But.drew ?_) | (with_reducible refine But.drewN ?_ _) | (with_reducible refine But.set ?_ _ _ _ (by first | (left; simp; done) | (right; simp; done) | (right; omega) | (right; simp; omega)))))
  rintro u5 ⟨z0, z1, z2⟩
  have B_ss := Lib.hid z0
  replace O_s := Lib.hid z1
  replace HF := Lib.hid z2
  clear z0 z1 z2
  generalize u1.heap.size = N_s at *
  have L_s : Hid (Lens ⟨0, zeros 8, zeros 5, zeros 256⟩) := Lib.hid ⟨by show (List.length (zeros 8) = 8); simp only [List.length_set, HL8.out], by show (List.length (zeros 5) = 5); simp only [List.length_set, HL5.out], by show (List.length (zeros 256) = 256); simp only [List.length_set, HL256.out]⟩
  have c6 : u5.cell? ⟨N_s, 2, none⟩ = some (.slice (some ⟨s2, 0, none⟩) 5 sc) := B_ss.out.cel 2 (by simp)
  have r7 := O_s.out.C.cel 2 (by rw [L_s.out.Cl]; omega)
  have r8 : u5.frozen? ⟨s2, 2, none⟩ = false := O_s.out.C.fro 2 (by rw [L_s.out.Cl]; omega)
  go_upto_region 7 with fail
  refine wp_gen (fun v9 => Cel v9 N_s [.int .i64 0, .slice (some ⟨s1, 0, none⟩) 8 sr, .slice (some ⟨s2, 0, none⟩) 5 sc, .slice (some ⟨s3, 0, none⟩) 256 sm] ∧ Own v9 s1 s2 s3 ⟨0, zeros 8, (zeros 5).set 2 64, zeros 256⟩ ∧ Fr w v9) ⟨?_, ?_, ?_⟩ ?_
  · have q9 := B_ss.out
    (repeat (first | (with_reducible assumption) | (with_reducible exact Cel.new _ _ _ _ (by first | rfl | omega | (simp; done) | (simp; omega))) | (with_reducible refine Cel.alloc ?_ _) | (with_reducible refine Cel.drew ?_) | (with_reducible refine Cel.drewN ?_ _) | (with_reducible refine Cel.other ?_ _ _ _ (by omega))))
  · have q9 := (show Own (u5.setCell ⟨s2, 2, none⟩ (.int .i64 64)) s1 s2 s3 ⟨0, zeros 8, (zeros 5).set 2 64, zeros 256⟩ from O_s.out.setC 2 64 (by rw [L_s.out.Cl]; omega) 0)
    (repeat (first | (with_reducible assumption) | (with_reducible refine Own.alloc ?_ _) | (with_reducible refine Own.drew ?_) | (with_reducible refine Own.drewN ?_ _) | (with_reducible refine Own.other ?_ _ _ _ (by omega) (by omega) (by omega))))
  · refine fr_but (L := [s2]) HF.out ?_ (fun k hk => by first | (cases hk; done) | (simp at hk; omega))
    (repeat (first | (with_reducible exact But.refl _ _) | (with_reducible assumption) | (with_reducible refine But.alloc ?_ _) | (with_reducible refine But.drew ?_) | (with_reducible refine But.drewN ?_ _) | (with_reducible refine But.set ?_ _ _ _ (by first | (left; simp; done) | (right; simp; done) | (right; omega) | (right; simp; omega)))))
  rintro u9 ⟨z0, z1, z2⟩
  replace B_ss := Lib.hid z0
  replace O_s := Lib.hid z1
  replace HF := Lib.hid z2
  clear z0 z1 z2
  clear L_s
  have L_s : Hid (Lens ⟨0, zeros 8, (zeros 5).set 2 64, zeros 256⟩) := Lib.hid ⟨by show (List.length (zeros 8) = 8); simp only [List.length_set, HL8.out], by show (List.length ((zeros 5).set 2 64) = 5); simp only [List.length_set, HL5.out], by show (List.length (zeros 256) = 256); simp only [List.length_set, HL256.out]⟩
  clear c6 r7 r8
  have c10 : u9.cell? ⟨N_s, 2, none⟩ = some (.slice (some ⟨s2, 0, none⟩) 5 sc) := B_ss.out.cel 2 (by simp)
  have r11 := O_s.out.C.cel 3 (by rw [L_s.out.Cl]; omega)
  have r12 : u9.frozen? ⟨s2, 3, none⟩ = false := O_s.out.C.fro 3 (by rw [L_s.out.Cl]; omega)
  go_upto_region 8 with fail
  refine wp_gen (fun v9 => Cel v9 N_s [.int .i64 0, .slice (some ⟨s1, 0, none⟩) 8 sr, .slice (some ⟨s2, 0, none⟩) 5 sc, .slice (some ⟨s3, 0, none⟩) 256 sm] ∧ Own v9 s1 s2 s3 ⟨0, zeros 8, ((zeros 5).set 2 64).set 3 1, zeros 256⟩ ∧ Fr w v9) ⟨?_, ?_, ?_⟩ ?_
  · have q9 := B_ss.out
    (repeat (first | (with_reducible assumption) | (with_reducible exact Cel.new _ _ _ _ (by first | rfl | omega | (simp; done) | (simp; omega))) | (with_reducible refine Cel.alloc ?_ _) | (with_reducible refine Cel.drew ?_) | (with_reducible refine Cel.drewN ?_ _) | (with_reducible refine Cel.other ?_ _ _ _ (by omega))))
  · have q9 := (show Own (u9.setCell ⟨s2, 3, none⟩ (.int .i64 1)) s1 s2 s3 ⟨0, zeros 8, ((zeros 5).set 2 64).set 3 1, zeros 256⟩ from O_s.out.setC 3 1 (by rw [L_s.out.Cl]; omega) 0)
    (repeat (first | (with_reducible assumption) | (with_reducible refine Own.alloc ?_ _) | (with_reducible refine Own.drew ?_) | (with_reducible refine Own.drewN ?_ _) | (with_reducible refine Own.other ?_ _ _ _ (by omega) (by omega) (by omega))))
  · refine fr_but (L := [s2]) HF.out ?_ (fun k hk => by first | (cases hk; done) | (simp at hk; omega))
    (repeat (first | (with_reducible exact But.refl _ _) | (with_reducible assumption) | (with_reducible refine But.alloc ?_ _) | (with_reducible refine But.drew ?_) | (with_reducible refine But.drewN ?_ _) | (with_reducible refine But.set ?_ _ _ _ (by first | (left; simp; done) | (right; simp; done) | (right; omega) | (right; simp; omega)))))
  rintro u13 ⟨z0, z1, z2⟩
  replace B_ss := Lib.hid z0
  replace O_s := Lib.hid z1
  replace HF := Lib.hid z2
  clear z0 z1 z2
  clear L_s
  have L_s : Hid (Lens ⟨0, zeros 8, ((zeros 5).set 2 64).set 3 1, zeros 256⟩) := Lib.hid ⟨by show (List.length (zeros 8) = 8); simp only [List.length_set, HL8.out], by show (List.length (((zeros 5).set 2 64).set 3 1) = 5); simp only [List.length_set, HL5.out], by show (List.length (zeros 256) = 256); simp only [List.length_set, HL256.out]⟩
  clear c10 r11 r12
  have c14 : u13.cell? ⟨N_s, 3, none⟩ = some (.slice (some ⟨s3, 0, none⟩) 256 sm) := B_ss.out.cel 3 (by simp)
  have r15 := O_s.out.M.cel 64 (by rw [L_s.out.Ml]; omega)
  have r16 : u13.frozen? ⟨s3, 64, none⟩ = false := O_s.out.M.fro 64 (by rw [L_s.out.Ml]; omega)
  go_upto_region 9 with fail
  refine wp_gen (fun v9 => Cel v9 N_s [.int .i64 0, .slice (some ⟨s1, 0, none⟩) 8 sr, .slice (some ⟨s2, 0, none⟩) 5 sc, .slice (some ⟨s3, 0, none⟩) 256 sm] ∧ Own v9 s1 s2 s3 ⟨0, zeros 8, ((zeros 5).set 2 64).set 3 1, (zeros 256).set 64 16⟩ ∧ Fr w v9) ⟨?_, ?_, ?_⟩ ?_
  · have q9 := B_ss.out
    (repeat (first | (with_reducible assumption) | (with_reducible exact Cel.new _ _ _ _ (by first | rfl | omega | (simp; done) | (simp; omega))) | (with_reducible refine Cel.alloc ?_ _) | (with_reducible refine Cel.drew ?_) | (with_reducible refine Cel.drewN ?_ _) | (with_reducible refine Cel.other ?_ _ _ _ (by omega))))
  · have q9 := (show Own (u13.setCell ⟨s3, 64, none⟩ (.int .i64 16)) s1 s2 s3 ⟨0, zeros 8, ((zeros 5).set 2 64).set 3 1, (zeros 256).set 64 16⟩ from O_s.out.setM 64 16 (by rw [L_s.out.Ml]; omega) 0)
    (repeat (first | (with_reducible assumption) | (with_reducible refine Own.alloc ?_ _) | (with_reducible refine Own.drew ?_) | (with_reducible refine Own.drewN ?_ _) | (with_reducible refine Own.other ?_ _ _ _ (by omega) (by omega) (by omega))))
  · refine fr_but (L := [s3]) HF.out ?_ (fun k hk => by first | (cases hk; done) | (simp at hk; omega))
    (repeat (first | (with_reducible exact But.refl _ _) | (with_reducible assumption) | (with_reducible refine But.alloc ?_ _) | (with_reducible refine But.drew ?_) | (with_reducible refine But.drewN ?_ _) | (with_reducible refine But.set ?_ _ _ _ (by first | (left; simp; done) | (right; simp; done) | (right; omega) | (right; simp; omega)))))
  rintro u17 ⟨z0, z1, z2⟩
  replace B_ss := Lib.hid z0
  replace O_s := Lib.hid z1
  replace HF := Lib.hid z2
  clear z0 z1 z2
  clear L_s
  have L_s : Hid (Lens ⟨0, zeros 8, ((zeros 5).set 2 64).set 3 1, (zeros 256).set 64 16⟩) := Lib.hid ⟨by show (List.length (zeros 8) = 8); simp only [List.length_set, HL8.out], by show (List.length (((zeros 5).set 2 64).set 3 1) = 5); simp only [List.length_set, HL5.out], by show (List.length ((zeros 256).set 64 16) = 256); simp only [List.length_set, HL256.out]⟩
  clear c14 r15 r16
  have c18 : u17.cell? ⟨N_s, 3, none⟩ = some (.slice (some ⟨s3, 0, none⟩) 256 sm) := B_ss.out.cel 3 (by simp)
  have r19 := O_s.out.M.cel 65 (by rw [L_s.out.Ml]; omega)
  have r20 : u17.frozen? ⟨s3, 65, none⟩ = false := O_s.out.M.fro 65 (by rw [L_s.out.Ml]; omega)
  go_upto_region 10 with fail
  refine wp_gen (fun v9 => Cel v9 N_s [.int .i64 0, .slice (some ⟨s1, 0, none⟩) 8 sr, .slice (some ⟨s2, 0, none⟩) 5 sc, .slice (some ⟨s3, 0, none⟩) 256 sm] ∧ Own v9 s1 s2 s3 ⟨0, zeros 8, ((zeros 5).set 2 64).set 3 1, ((zeros 256).set 64 16).set 65 (48 + fr)⟩ ∧ Fr w v9) ⟨?_, ?_, ?_⟩ ?_
  · have q9 := B_ss.out
    (repeat (first | (with_reducible assumption) | (with_reducible exact Cel.new _ _ _ _ (by first | rfl | omega | (simp; done) | (simp; omega))) | (with_reducible refine Cel.alloc ?_ _) | (with_reducible refine Cel.drew ?_) | (with_reducible refine Cel.drewN ?_ _) | (with_reducible refine Cel.other ?_ _ _ _ (by omega))))
  · have q9 := (show Own (u17.setCell ⟨s3, 65, none⟩ (.int .i64 (48 + fr))) s1 s2 s3 ⟨0, zeros 8, ((zeros 5).set 2 64).set 3 1, ((zeros 256).set 64 16).set 65 (48 + fr)⟩ from O_s.out.setM 65 (48 + fr) (by rw [L_s.out.Ml]; omega) 0)
    (repeat (first | (with_reducible assumption) | (with_reducible refine Own.alloc ?_ _) | (with_reducible refine Own.drew ?_) | (with_reducible refine Own.drewN ?_ _) | (with_reducible refine Own.other ?_ _ _ _ (by omega) (by omega) (by omega))))
  · refine fr_but (L := [s3]) HF.out ?_ (fun k hk => by first | (cases hk; done) | (simp at hk; omega))
    (repeat (first | (with_reducible exact But.refl _ _) | (with_reducible assumption) | (with_reducible refine But.alloc ?_ _) | (with_reducible refine But.drew ?_) | (with_reducible refine But.drewN ?_ _) | (with_reducible refine But.set ?_ _ _ _ (by first | (left; simp; done) | (right; simp; done) | (right; omega) | (right; simp; omega)))))
  rintro u21 ⟨z0, z1, z2⟩
  replace B_ss := Lib.hid z0
  replace O_s := Lib.hid z1
  replace HF := Lib.hid z2
  clear z0 z1 z2
  clear L_s
  have L_s : Hid (Lens ⟨0, zeros 8, ((zeros 5).set 2 64).set 3 1, ((zeros 256).set 64 16).set 65 (48 + fr)⟩) := Lib.hid ⟨by show (List.length (zeros 8) = 8); simp only [List.length_set, HL8.out], by show (List.length (((zeros 5).set 2 64).set 3 1) = 5); simp only [List.length_set, HL5.out], by show (List.length (((zeros 256).set 64 16).set 65 (48 + fr)) = 256); simp only [List.length_set, HL256.out]⟩
  clear c18 r19 r20
  have c22 : u21.cell? ⟨N_s, 3, none⟩ = some (.slice (some ⟨s3, 0, none⟩) 256 sm) := B_ss.out.cel 3 (by simp)
  have r23 := O_s.out.M.cel 66 (by rw [L_s.out.Ml]; omega)
  have r24 : u21.frozen? ⟨s3, 66, none⟩ = false := O_s.out.M.fro 66 (by rw [L_s.out.Ml]; omega)
  go_upto_region 11 with fail
  refine wp_gen (fun v9 => Cel v9 N_s [.int .i64 0, .slice (some ⟨s1, 0, none⟩) 8 sr, .slice (some ⟨s2, 0, none⟩) 5 sc, .slice (some ⟨s3, 0, none⟩) 256 sm] ∧ Own v9 s1 s2 s3 ⟨0, zeros 8, ((zeros 5).set 2 64).set 3 1, (((zeros 256).set 64 16).set 65 (48 + fr)).set 66 (16 + fr)⟩ ∧ Fr w v9) ⟨?_, ?_, ?_⟩ ?_
  · have q9 := B_ss.out
    (repeat (first | (with_reducible assumption) | (with_reducible exact Cel.new _ _ _ _ (by first | rfl | omega | (simp; done) | (simp; omega))) | (with_reducible refine Cel.alloc ?_ _) | (with_reducible refine Cel.drew ?_) | (with_reducible refine Cel.drewN ?_ _) | (with_reducible refine Cel.other ?_ _ _ _ (by omega))))
  · have q9 := (show Own (u21.setCell ⟨s3, 66, none⟩ (.int .i64 (16 + fr))) s1 s2 s3 ⟨0, zeros 8, ((zeros 5).set 2 64).set 3 1, (((zeros 256).set 64 16).set 65 (48 + fr)).set 66 (16 + fr)⟩ from O_s.out.setM 66 (16 + fr) (by rw [L_s.out.Ml]; omega) 0)
    (repeat (first | (with_reducible assumption) | (with_reducible refine Own.alloc ?_ _) | (with_reducible refine Own.drew ?_) | (with_reducible refine Own.drewN ?_ _) | (with_reducible refine Own.other ?_ _ _ _ (by omega) (by omega) (by omega))))
  · refine fr_but (L := [s3]) HF.out ?_ (fun k hk => by first | (cases hk; done) | (simp at hk; omega))
    (repeat (first | (with_reducible exact But.refl _ _) | (with_reducible assumption) | (with_reducible refine But.alloc ?_ _) | (with_reducible refine But.drew ?_) | (with_reducible refine But.drewN ?_ _) | (with_reducible refine But.set ?_ _ _ _ (by first | (left; simp; done) | (right; simp; done) | (right; omega) | (right; simp; omega)))))
  rintro u25 ⟨z0, z1, z2⟩
  replace B_ss := Lib.hid z0
  replace O_s := Lib.hid z1
  replace HF := Lib.hid z2
  clear z0 z1 z2
  clear L_s
  have L_s : Hid (Lens ⟨0, zeros 8, ((zeros 5).set 2 64).set 3 1, (((zeros 256).set 64 16).set 65 (48 + fr)).set 66 (16 + fr)⟩) := Lib.hid ⟨by show (List.length (zeros 8) = 8); simp only [List.length_set, HL8.out], by show (List.length (((zeros 5).set 2 64).set 3 1) = 5); simp only [List.length_set, HL5.out], by show (List.length ((((zeros 256).set 64 16).set 65 (48 + fr)).set 66 (16 + fr)) = 256); simp only [List.length_set, HL256.out]⟩
  clear c22 r23 r24
  refine wp_region_lots 146 (fun i => if i = 5 then [s3] else []) (fun _ _ => True) (fun i v9 u => match i with | 0 => v9 = .pointer (some ⟨N_s, 3, none⟩) | 1 => v9 = .slice (some ⟨s3, 0, none⟩) 256 sm | 2 => v9 = .agg #[.int .i64 4, .int .i64 0, .int .i64 1, .int .i64 2, .int .i64 0, .int .i64 0] | 3 => v9 = .int .i64 wd1 | 4 => v9 = .pointer (some ⟨s3, 0, none⟩) | 5 => Own u s1 s2 s3 ⟨0, zeros 8, ((zeros 5).set 2 64).set 3 1, ((((zeros 256).set 64 16).set 65 (48 + fr)).set 66 (16 + fr)).set 0 wd1⟩ | _ => True) ?mono (by kernel_rfl) (by kernel_rfl) rfl (by kernel_rfl) trivial ?step ?fin
  case mono =>
    intro i j v9 u u' hij hsz h hB
    rcases j with _ | _ | _ | _ | _ | _ | j
    · exact h
    · exact h
    · exact h
    · exact h
    · exact h
    · exact h.but (L := []) (by have hx := hB; simp only [if_neg hij] at hx; exact hx) (by simp) (by simp) (by simp)
    · trivial
  case step =>
    intro i o ho
    rcases i with _ | _ | _ | _ | _ | _ | i
    · cases ho
      intro fu act u hW hB hsz hL hdep
      replace hB := hB [] (fun j hj hd k hk => by
        by_cases x5 : j = 5
        · subst x5; exact (dep_no hd (by kernel_rfl)).elim
        rw [if_neg x5] at hk
        cases hk)
      have x6 : act.tmps.getD 6 undef = (.pointer (some ⟨N_s, 0, none⟩) : Value) := (hL.2.2 6 (no_dst (by kernel_rfl))).trans rfl
      clear hdep hL
      refine wpOp_step rfl (fun K hK => ?_)
      go_simp
      exact hK _ _ ⟨_, rfl, (fun h => by cases h), (by first | rfl | (exact congrArg (Value.int .i64) (by first | rfl | (rw [IntWalk.i64_left, IntWalk.wrap64_in _ (by omega)]) | omega)) | (simp; done) | (simp; omega) | (simp; rw [Int.tmod_eq_emod_of_nonneg (by omega)]; omega)), But.refl _ _, trivial⟩
    · cases ho
      intro fu act u hW hB hsz hL hdep
      replace hB := hB [] (fun j hj hd k hk => by
        by_cases x5 : j = 5
        · subst x5; exact (dep_no hd (by kernel_rfl)).elim
        rw [if_neg x5] at hk
        cases hk)
      have e0 : act.tmps.getD 45 undef = (.pointer (some ⟨N_s, 3, none⟩) : Value) := hdep { on := 0, ground := .data } (by simp) rfl _ rfl
      clear hdep hL
      have c26 : u.cell? ⟨N_s, 3, none⟩ = some (.slice (some ⟨s3, 0, none⟩) 256 sm) := (B_ss.out.but hB (by first | (simp; done) | (simp; omega))).cel 3 (by simp)
      refine wpOp_step rfl (fun K hK => ?_)
      go_simp
      exact hK _ _ ⟨_, rfl, (fun h => by cases h), (by first | rfl | (exact congrArg (Value.int .i64) (by first | rfl | (rw [IntWalk.i64_left, IntWalk.wrap64_in _ (by omega)]) | omega)) | (simp; done) | (simp; omega) | (simp; rw [Int.tmod_eq_emod_of_nonneg (by omega)]; omega)), But.refl _ _, trivial⟩
    · cases ho
      intro fu act u hW hB hsz hL hdep
      replace hB := hB [] (fun j hj hd k hk => by
        by_cases x5 : j = 5
        · subst x5; exact (dep_no hd (by kernel_rfl)).elim
        rw [if_neg x5] at hk
        cases hk)
      clear hdep hL
      refine wpOp_step rfl (fun K hK => ?_)
      go_simp
      exact hK _ _ ⟨_, rfl, (fun h => by cases h), (by first | rfl | (exact congrArg (Value.int .i64) (by first | rfl | (rw [IntWalk.i64_left, IntWalk.wrap64_in _ (by omega)]) | omega)) | (simp; done) | (simp; omega) | (simp; rw [Int.tmod_eq_emod_of_nonneg (by omega)]; omega)), But.refl _ _, trivial⟩
    · cases ho
      intro fu act u hW hB hsz hL hdep
      replace hB := hB [] (fun j hj hd k hk => by
        by_cases x5 : j = 5
        · subst x5; exact (dep_no hd (by kernel_rfl)).elim
        rw [if_neg x5] at hk
        cases hk)
      have e2 : act.tmps.getD 47 undef = (.agg #[.int .i64 4, .int .i64 0, .int .i64 1, .int .i64 2, .int .i64 0, .int .i64 0] : Value) := hdep { on := 2, ground := .data } (by simp) rfl _ rfl
      clear hdep hL
      refine wpOp_step rfl (fun K hK => ?_)
      go_simp
      have EW := impl_CodWord 4 0 1 2 0 0 u ((HT.out.fr HF.out).fr (fr_but (L := []) (Below.refl u25.heap.size u25) hB (fun k hk => by cases hk)))
      rw [HWD1.out] at EW
      refine EW.mono ?_
      rintro e u' ⟨rfl, f'⟩
      go_simp
      exact hK _ _ ⟨_, rfl, (fun h => by cases h), rfl, But.of f', trivial⟩
    · cases ho
      intro fu act u hW hB hsz hL hdep
      replace hB := hB [] (fun j hj hd k hk => by
        by_cases x5 : j = 5
        · subst x5; exact (dep_no hd (by kernel_rfl)).elim
        rw [if_neg x5] at hk
        cases hk)
      have e1 : act.tmps.getD 46 undef = (.slice (some ⟨s3, 0, none⟩) 256 sm : Value) := hdep { on := 1, ground := .data } (by simp) rfl _ rfl
      clear hdep hL
      refine wpOp_step rfl (fun K hK => ?_)
      go_simp
      exact hK _ _ ⟨_, rfl, (fun h => by cases h), (by first | rfl | (exact congrArg (Value.int .i64) (by first | rfl | (rw [IntWalk.i64_left, IntWalk.wrap64_in _ (by omega)]) | omega)) | (simp; done) | (simp; omega) | (simp; rw [Int.tmod_eq_emod_of_nonneg (by omega)]; omega)), But.refl _ _, trivial⟩
    · cases ho
      intro fu act u hW hB hsz hL hdep
      replace hB := hB [] (fun j hj hd k hk => by
        by_cases x5 : j = 5
        · exact absurd x5 hj
        rw [if_neg x5] at hk
        cases hk)
      have e3 : act.tmps.getD 48 undef = (.int .i64 wd1 : Value) := hdep { on := 3, ground := .data } (by simp) rfl _ rfl
      have e4 : act.tmps.getD 49 undef = (.pointer (some ⟨s3, 0, none⟩) : Value) := hdep { on := 4, ground := .data } (by simp) rfl _ rfl
      clear hdep hL
      have hm := O_s.out.but hB (by simp) (by simp) (by simp)
      have c := hm.M.cel 0 (by rw [L_s.out.Ml]; omega)
      have c' := hm.M.fro 0 (by rw [L_s.out.Ml]; omega)
      refine wpOp_step rfl (fun K hK => ?_)
      go_simp
      exact hK _ _ ⟨undef, rfl, (fun _ => rfl), hm.setM 0 wd1 (by rw [L_s.out.Ml]; omega) 0, (But.refl [s3] u).set s3 _ _ (.inl (by simp)), trivial⟩
    · exact absurd ho (by simp)
  case fin =>
    intro act u hW hsz hB hL hsf
    replace hB := hB [s3] (fun j k hk => by
      by_cases y5 : j = 5
      · rw [if_pos y5] at hk; simp at hk; simp [hk]
      rw [if_neg y5] at hk
      cases hk)
    have d5 := hsf 5 _ rfl
    obtain ⟨ysl, ha, hy⟩ := hL.puts [45, 46, 47, 48, 49] (by kernel_rfl)
    clear hL hsf hy
    simp only [List.foldl, List.setIfInBounds_toArray, List.set_cons_succ, List.set_cons_zero] at ha
    subst ha
    replace B_ss := Lib.hid (B_ss.out.but hB (by first | (simp; done) | (simp; omega)))
    replace O_s := Lib.hid (show Own u s1 s2 s3 ⟨0, zeros 8, ((zeros 5).set 2 64).set 3 1, ((((zeros 256).set 64 16).set 65 (48 + fr)).set 66 (16 + fr)).set 0 wd1⟩ from d5)
    clear d5
    replace HF := Lib.hid (fr_but HF.out hB (fun k hk => by first | (cases hk; done) | (simp at hk; omega)))
    clear hB hW
    go_upto_region 12 with fail
    refine wp_gen (fun v9 => Cel v9 N_s [.int .i64 0, .slice (some ⟨s1, 0, none⟩) 8 sr, .slice (some ⟨s2, 0, none⟩) 5 sc, .slice (some ⟨s3, 0, none⟩) 256 sm] ∧ Own v9 s1 s2 s3 ⟨0, zeros 8, ((zeros 5).set 2 64).set 3 1, ((((zeros 256).set 64 16).set 65 (48 + fr)).set 66 (16 + fr)).set 0 wd1⟩ ∧ Fr w v9) ⟨?_, ?_, ?_⟩ ?_
    · have q9 := B_ss.out
      (repeat (first | (with_reducible assumption) | (with_reducible exact Cel.new _ _ _ _ (by first | rfl | omega | (simp; done) | (simp; omega))) | (with_reducible refine Cel.alloc ?_ _) | (with_reducible refine Cel.drew ?_) | (with_reducible refine Cel.drewN ?_ _) | (with_reducible refine Cel.other ?_ _ _ _ (by omega))))
    · have q9 := O_s.out
      (repeat (first | (with_reducible assumption) | (with_reducible refine Own.alloc ?_ _) | (with_reducible refine Own.drew ?_) | (with_reducible refine Own.drewN ?_ _) | (with_reducible refine Own.other ?_ _ _ _ (by omega) (by omega) (by omega))))
    · refine fr_but (L := []) HF.out ?_ (fun k hk => by first | (cases hk; done) | (simp at hk; omega))
      (repeat (first | (with_reducible exact But.refl _ _) | (with_reducible assumption) | (with_reducible refine But.alloc ?_ _) | (with_reducible refine But.drew ?_) | (with_reducible refine But.drewN ?_ _) | (with_reducible refine But.set ?_ _ _ _ (by first | (left; simp; done) | (right; simp; done) | (right; omega) | (right; simp; omega)))))
    rintro u27 ⟨z0, z1, z2⟩
    replace B_ss := Lib.hid z0
    replace O_s := Lib.hid z1
    replace HF := Lib.hid z2
    clear z0 z1 z2
    clear L_s
    have L_s : Hid (Lens ⟨0, zeros 8, ((zeros 5).set 2 64).set 3 1, ((((zeros 256).set 64 16).set 65 (48 + fr)).set 66 (16 + fr)).set 0 wd1⟩) := Lib.hid ⟨by show (List.length (zeros 8) = 8); simp only [List.length_set, HL8.out], by show (List.length (((zeros 5).set 2 64).set 3 1) = 5); simp only [List.length_set, HL5.out], by show (List.length (((((zeros 256).set 64 16).set 65 (48 + fr)).set 66 (16 + fr)).set 0 wd1) = 256); simp only [List.length_set, HL256.out]⟩
    refine wp_region_lots 146 (fun i => if i = 5 then [s3] else []) (fun _ _ => True) (fun i v9 u => match i with | 0 => v9 = .pointer (some ⟨N_s, 3, none⟩) | 1 => v9 = .slice (some ⟨s3, 0, none⟩) 256 sm | 2 => v9 = .agg #[.int .i64 3, .int .i64 3, .int .i64 1, .int .i64 0, .int .i64 0, .int .i64 16] | 3 => v9 = .int .i64 wd2 | 4 => v9 = .pointer (some ⟨s3, 1, none⟩) | 5 => Own u s1 s2 s3 ⟨0, zeros 8, ((zeros 5).set 2 64).set 3 1, (((((zeros 256).set 64 16).set 65 (48 + fr)).set 66 (16 + fr)).set 0 wd1).set 1 wd2⟩ | _ => True) ?mono (by kernel_rfl) (by kernel_rfl) rfl (by kernel_rfl) trivial ?step ?fin
    case mono =>
      intro i j v9 u u' hij hsz h hB
      rcases j with _ | _ | _ | _ | _ | _ | j
      · exact h
      · exact h
      · exact h
      · exact h
      · exact h
      · exact h.but (L := []) (by have hx := hB; simp only [if_neg hij] at hx; exact hx) (by simp) (by simp) (by simp)
      · trivial
    case step =>
      intro i o ho
      rcases i with _ | _ | _ | _ | _ | _ | i
      · cases ho
        intro fu act u hW hB hsz hL hdep
        replace hB := hB [] (fun j hj hd k hk => by
          by_cases x5 : j = 5
          · subst x5; exact (dep_no hd (by kernel_rfl)).elim
          rw [if_neg x5] at hk
          cases hk)
        have x6 : act.tmps.getD 6 undef = (.pointer (some ⟨N_s, 0, none⟩) : Value) := (hL.2.2 6 (no_dst (by kernel_rfl))).trans rfl
        clear hdep hL
        refine wpOp_step rfl (fun K hK => ?_)
        go_simp
        exact hK _ _ ⟨_, rfl, (fun h => by cases h), (by first | rfl | (exact congrArg (Value.int .i64) (by first | rfl | (rw [IntWalk.i64_left, IntWalk.wrap64_in _ (by omega)]) | omega)) | (simp; done) | (simp; omega) | (simp; rw [Int.tmod_eq_emod_of_nonneg (by omega)]; omega)), But.refl _ _, trivial⟩
      · cases ho
        intro fu act u hW hB hsz hL hdep
        replace hB := hB [] (fun j hj hd k hk => by
          by_cases x5 : j = 5
          · subst x5; exact (dep_no hd (by kernel_rfl)).elim
          rw [if_neg x5] at hk
          cases hk)
        have e0 : act.tmps.getD 50 undef = (.pointer (some ⟨N_s, 3, none⟩) : Value) := hdep { on := 0, ground := .data } (by simp) rfl _ rfl
        clear hdep hL
        have c28 : u.cell? ⟨N_s, 3, none⟩ = some (.slice (some ⟨s3, 0, none⟩) 256 sm) := (B_ss.out.but hB (by first | (simp; done) | (simp; omega))).cel 3 (by simp)
        refine wpOp_step rfl (fun K hK => ?_)
        go_simp
        exact hK _ _ ⟨_, rfl, (fun h => by cases h), (by first | rfl | (exact congrArg (Value.int .i64) (by first | rfl | (rw [IntWalk.i64_left, IntWalk.wrap64_in _ (by omega)]) | omega)) | (simp; done) | (simp; omega) | (simp; rw [Int.tmod_eq_emod_of_nonneg (by omega)]; omega)), But.refl _ _, trivial⟩
      · cases ho
        intro fu act u hW hB hsz hL hdep
        replace hB := hB [] (fun j hj hd k hk => by
          by_cases x5 : j = 5
          · subst x5; exact (dep_no hd (by kernel_rfl)).elim
          rw [if_neg x5] at hk
          cases hk)
        clear hdep hL
        refine wpOp_step rfl (fun K hK => ?_)
        go_simp
        exact hK _ _ ⟨_, rfl, (fun h => by cases h), (by first | rfl | (exact congrArg (Value.int .i64) (by first | rfl | (rw [IntWalk.i64_left, IntWalk.wrap64_in _ (by omega)]) | omega)) | (simp; done) | (simp; omega) | (simp; rw [Int.tmod_eq_emod_of_nonneg (by omega)]; omega)), But.refl _ _, trivial⟩
      · cases ho
        intro fu act u hW hB hsz hL hdep
        replace hB := hB [] (fun j hj hd k hk => by
          by_cases x5 : j = 5
          · subst x5; exact (dep_no hd (by kernel_rfl)).elim
          rw [if_neg x5] at hk
          cases hk)
        have e2 : act.tmps.getD 52 undef = (.agg #[.int .i64 3, .int .i64 3, .int .i64 1, .int .i64 0, .int .i64 0, .int .i64 16] : Value) := hdep { on := 2, ground := .data } (by simp) rfl _ rfl
        clear hdep hL
        refine wpOp_step rfl (fun K hK => ?_)
        go_simp
        have EW := impl_CodWord 3 3 1 0 0 16 u ((HT.out.fr HF.out).fr (fr_but (L := []) (Below.refl u27.heap.size u27) hB (fun k hk => by cases hk)))
        rw [HWD2.out] at EW
        refine EW.mono ?_
        rintro e u' ⟨rfl, f'⟩
        go_simp
        exact hK _ _ ⟨_, rfl, (fun h => by cases h), rfl, But.of f', trivial⟩
      · cases ho
        intro fu act u hW hB hsz hL hdep
        replace hB := hB [] (fun j hj hd k hk => by
          by_cases x5 : j = 5
          · subst x5; exact (dep_no hd (by kernel_rfl)).elim
          rw [if_neg x5] at hk
          cases hk)
        have e1 : act.tmps.getD 51 undef = (.slice (some ⟨s3, 0, none⟩) 256 sm : Value) := hdep { on := 1, ground := .data } (by simp) rfl _ rfl
        clear hdep hL
        refine wpOp_step rfl (fun K hK => ?_)
        go_simp
        exact hK _ _ ⟨_, rfl, (fun h => by cases h), (by first | rfl | (exact congrArg (Value.int .i64) (by first | rfl | (rw [IntWalk.i64_left, IntWalk.wrap64_in _ (by omega)]) | omega)) | (simp; done) | (simp; omega) | (simp; rw [Int.tmod_eq_emod_of_nonneg (by omega)]; omega)), But.refl _ _, trivial⟩
      · cases ho
        intro fu act u hW hB hsz hL hdep
        replace hB := hB [] (fun j hj hd k hk => by
          by_cases x5 : j = 5
          · exact absurd x5 hj
          rw [if_neg x5] at hk
          cases hk)
        have e3 : act.tmps.getD 53 undef = (.int .i64 wd2 : Value) := hdep { on := 3, ground := .data } (by simp) rfl _ rfl
        have e4 : act.tmps.getD 54 undef = (.pointer (some ⟨s3, 1, none⟩) : Value) := hdep { on := 4, ground := .data } (by simp) rfl _ rfl
        clear hdep hL
        have hm := O_s.out.but hB (by simp) (by simp) (by simp)
        have c := hm.M.cel 1 (by rw [L_s.out.Ml]; omega)
        have c' := hm.M.fro 1 (by rw [L_s.out.Ml]; omega)
        refine wpOp_step rfl (fun K hK => ?_)
        go_simp
        exact hK _ _ ⟨undef, rfl, (fun _ => rfl), hm.setM 1 wd2 (by rw [L_s.out.Ml]; omega) 0, (But.refl [s3] u).set s3 _ _ (.inl (by simp)), trivial⟩
      · exact absurd ho (by simp)
    case fin =>
      intro act u hW hsz hB hL hsf
      replace hB := hB [s3] (fun j k hk => by
        by_cases y5 : j = 5
        · rw [if_pos y5] at hk; simp at hk; simp [hk]
        rw [if_neg y5] at hk
        cases hk)
      have d5 := hsf 5 _ rfl
      obtain ⟨ysl, ha, hy⟩ := hL.puts [50, 51, 52, 53, 54] (by kernel_rfl)
      clear hL hsf hy
      simp only [List.foldl, List.setIfInBounds_toArray, List.set_cons_succ, List.set_cons_zero] at ha
      subst ha
      replace B_ss := Lib.hid (B_ss.out.but hB (by first | (simp; done) | (simp; omega)))
      replace O_s := Lib.hid (show Own u s1 s2 s3 ⟨0, zeros 8, ((zeros 5).set 2 64).set 3 1, (((((zeros 256).set 64 16).set 65 (48 + fr)).set 66 (16 + fr)).set 0 wd1).set 1 wd2⟩ from d5)
      clear d5
      replace HF := Lib.hid (fr_but HF.out hB (fun k hk => by first | (cases hk; done) | (simp at hk; omega)))
      clear hB hW
      go_upto_region 13 with fail
      refine wp_gen (fun v9 => Cel v9 N_s [.int .i64 0, .slice (some ⟨s1, 0, none⟩) 8 sr, .slice (some ⟨s2, 0, none⟩) 5 sc, .slice (some ⟨s3, 0, none⟩) 256 sm] ∧ Own v9 s1 s2 s3 ⟨0, zeros 8, ((zeros 5).set 2 64).set 3 1, (((((zeros 256).set 64 16).set 65 (48 + fr)).set 66 (16 + fr)).set 0 wd1).set 1 wd2⟩ ∧ Fr w v9) ⟨?_, ?_, ?_⟩ ?_
      · have q9 := B_ss.out
        (repeat (first | (with_reducible assumption) | (with_reducible exact Cel.new _ _ _ _ (by first | rfl | omega | (simp; done) | (simp; omega))) | (with_reducible refine Cel.alloc ?_ _) | (with_reducible refine Cel.drew ?_) | (with_reducible refine Cel.drewN ?_ _) | (with_reducible refine Cel.other ?_ _ _ _ (by omega))))
      · have q9 := O_s.out
        (repeat (first | (with_reducible assumption) | (with_reducible refine Own.alloc ?_ _) | (with_reducible refine Own.drew ?_) | (with_reducible refine Own.drewN ?_ _) | (with_reducible refine Own.other ?_ _ _ _ (by omega) (by omega) (by omega))))
      · refine fr_but (L := []) HF.out ?_ (fun k hk => by first | (cases hk; done) | (simp at hk; omega))
        (repeat (first | (with_reducible exact But.refl _ _) | (with_reducible assumption) | (with_reducible refine But.alloc ?_ _) | (with_reducible refine But.drew ?_) | (with_reducible refine But.drewN ?_ _) | (with_reducible refine But.set ?_ _ _ _ (by first | (left; simp; done) | (right; simp; done) | (right; omega) | (right; simp; omega)))))
      rintro u29 ⟨z0, z1, z2⟩
      replace B_ss := Lib.hid z0
      replace O_s := Lib.hid z1
      replace HF := Lib.hid z2
      clear z0 z1 z2
      clear L_s
      have L_s : Hid (Lens ⟨0, zeros 8, ((zeros 5).set 2 64).set 3 1, (((((zeros 256).set 64 16).set 65 (48 + fr)).set 66 (16 + fr)).set 0 wd1).set 1 wd2⟩) := Lib.hid ⟨by show (List.length (zeros 8) = 8); simp only [List.length_set, HL8.out], by show (List.length (((zeros 5).set 2 64).set 3 1) = 5); simp only [List.length_set, HL5.out], by show (List.length ((((((zeros 256).set 64 16).set 65 (48 + fr)).set 66 (16 + fr)).set 0 wd1).set 1 wd2) = 256); simp only [List.length_set, HL256.out]⟩
      refine wp_region_lots 146 (fun i => if i = 5 then [s3] else []) (fun _ _ => True) (fun i v9 u => match i with | 0 => v9 = .pointer (some ⟨N_s, 3, none⟩) | 1 => v9 = .slice (some ⟨s3, 0, none⟩) 256 sm | 2 => v9 = .agg #[.int .i64 4, .int .i64 0, .int .i64 1, .int .i64 2, .int .i64 0, .int .i64 16] | 3 => v9 = .int .i64 wd3 | 4 => v9 = .pointer (some ⟨s3, 2, none⟩) | 5 => Own u s1 s2 s3 ⟨0, zeros 8, ((zeros 5).set 2 64).set 3 1, ((((((zeros 256).set 64 16).set 65 (48 + fr)).set 66 (16 + fr)).set 0 wd1).set 1 wd2).set 2 wd3⟩ | _ => True) ?mono (by kernel_rfl) (by kernel_rfl) rfl (by kernel_rfl) trivial ?step ?fin
      case mono =>
        intro i j v9 u u' hij hsz h hB
        rcases j with _ | _ | _ | _ | _ | _ | j
        · exact h
        · exact h
        · exact h
        · exact h
        · exact h
        · exact h.but (L := []) (by have hx := hB; simp only [if_neg hij] at hx; exact hx) (by simp) (by simp) (by simp)
        · trivial
      case step =>
        intro i o ho
        rcases i with _ | _ | _ | _ | _ | _ | i
        · cases ho
          intro fu act u hW hB hsz hL hdep
          replace hB := hB [] (fun j hj hd k hk => by
            by_cases x5 : j = 5
            · subst x5; exact (dep_no hd (by kernel_rfl)).elim
            rw [if_neg x5] at hk
            cases hk)
          have x6 : act.tmps.getD 6 undef = (.pointer (some ⟨N_s, 0, none⟩) : Value) := (hL.2.2 6 (no_dst (by kernel_rfl))).trans rfl
          clear hdep hL
          refine wpOp_step rfl (fun K hK => ?_)
          go_simp
          exact hK _ _ ⟨_, rfl, (fun h => by cases h), (by first | rfl | (exact congrArg (Value.int .i64) (by first | rfl | (rw [IntWalk.i64_left, IntWalk.wrap64_in _ (by omega)]) | omega)) | (simp; done) | (simp; omega) | (simp; rw [Int.tmod_eq_emod_of_nonneg (by omega)]; omega)), But.refl _ _, trivial⟩
        · cases ho
          intro fu act u hW hB hsz hL hdep
          replace hB := hB [] (fun j hj hd k hk => by
            by_cases x5 : j = 5
            · subst x5; exact (dep_no hd (by kernel_rfl)).elim
            rw [if_neg x5] at hk
            cases hk)
          have e0 : act.tmps.getD 55 undef = (.pointer (some ⟨N_s, 3, none⟩) : Value) := hdep { on := 0, ground := .data } (by simp) rfl _ rfl
          clear hdep hL
          have c30 : u.cell? ⟨N_s, 3, none⟩ = some (.slice (some ⟨s3, 0, none⟩) 256 sm) := (B_ss.out.but hB (by first | (simp; done) | (simp; omega))).cel 3 (by simp)
          refine wpOp_step rfl (fun K hK => ?_)
          go_simp
          exact hK _ _ ⟨_, rfl, (fun h => by cases h), (by first | rfl | (exact congrArg (Value.int .i64) (by first | rfl | (rw [IntWalk.i64_left, IntWalk.wrap64_in _ (by omega)]) | omega)) | (simp; done) | (simp; omega) | (simp; rw [Int.tmod_eq_emod_of_nonneg (by omega)]; omega)), But.refl _ _, trivial⟩
        · cases ho
          intro fu act u hW hB hsz hL hdep
          replace hB := hB [] (fun j hj hd k hk => by
            by_cases x5 : j = 5
            · subst x5; exact (dep_no hd (by kernel_rfl)).elim
            rw [if_neg x5] at hk
            cases hk)
          clear hdep hL
          refine wpOp_step rfl (fun K hK => ?_)
          go_simp
          exact hK _ _ ⟨_, rfl, (fun h => by cases h), (by first | rfl | (exact congrArg (Value.int .i64) (by first | rfl | (rw [IntWalk.i64_left, IntWalk.wrap64_in _ (by omega)]) | omega)) | (simp; done) | (simp; omega) | (simp; rw [Int.tmod_eq_emod_of_nonneg (by omega)]; omega)), But.refl _ _, trivial⟩
        · cases ho
          intro fu act u hW hB hsz hL hdep
          replace hB := hB [] (fun j hj hd k hk => by
            by_cases x5 : j = 5
            · subst x5; exact (dep_no hd (by kernel_rfl)).elim
            rw [if_neg x5] at hk
            cases hk)
          have e2 : act.tmps.getD 57 undef = (.agg #[.int .i64 4, .int .i64 0, .int .i64 1, .int .i64 2, .int .i64 0, .int .i64 16] : Value) := hdep { on := 2, ground := .data } (by simp) rfl _ rfl
          clear hdep hL
          refine wpOp_step rfl (fun K hK => ?_)
          go_simp
          have EW := impl_CodWord 4 0 1 2 0 16 u ((HT.out.fr HF.out).fr (fr_but (L := []) (Below.refl u29.heap.size u29) hB (fun k hk => by cases hk)))
          rw [HWD3.out] at EW
          refine EW.mono ?_
          rintro e u' ⟨rfl, f'⟩
          go_simp
          exact hK _ _ ⟨_, rfl, (fun h => by cases h), rfl, But.of f', trivial⟩
        · cases ho
          intro fu act u hW hB hsz hL hdep
          replace hB := hB [] (fun j hj hd k hk => by
            by_cases x5 : j = 5
            · subst x5; exact (dep_no hd (by kernel_rfl)).elim
            rw [if_neg x5] at hk
            cases hk)
          have e1 : act.tmps.getD 56 undef = (.slice (some ⟨s3, 0, none⟩) 256 sm : Value) := hdep { on := 1, ground := .data } (by simp) rfl _ rfl
          clear hdep hL
          refine wpOp_step rfl (fun K hK => ?_)
          go_simp
          exact hK _ _ ⟨_, rfl, (fun h => by cases h), (by first | rfl | (exact congrArg (Value.int .i64) (by first | rfl | (rw [IntWalk.i64_left, IntWalk.wrap64_in _ (by omega)]) | omega)) | (simp; done) | (simp; omega) | (simp; rw [Int.tmod_eq_emod_of_nonneg (by omega)]; omega)), But.refl _ _, trivial⟩
        · cases ho
          intro fu act u hW hB hsz hL hdep
          replace hB := hB [] (fun j hj hd k hk => by
            by_cases x5 : j = 5
            · exact absurd x5 hj
            rw [if_neg x5] at hk
            cases hk)
          have e3 : act.tmps.getD 58 undef = (.int .i64 wd3 : Value) := hdep { on := 3, ground := .data } (by simp) rfl _ rfl
          have e4 : act.tmps.getD 59 undef = (.pointer (some ⟨s3, 2, none⟩) : Value) := hdep { on := 4, ground := .data } (by simp) rfl _ rfl
          clear hdep hL
          have hm := O_s.out.but hB (by simp) (by simp) (by simp)
          have c := hm.M.cel 2 (by rw [L_s.out.Ml]; omega)
          have c' := hm.M.fro 2 (by rw [L_s.out.Ml]; omega)
          refine wpOp_step rfl (fun K hK => ?_)
          go_simp
          exact hK _ _ ⟨undef, rfl, (fun _ => rfl), hm.setM 2 wd3 (by rw [L_s.out.Ml]; omega) 0, (But.refl [s3] u).set s3 _ _ (.inl (by simp)), trivial⟩
        · exact absurd ho (by simp)
      case fin =>
        intro act u hW hsz hB hL hsf
        replace hB := hB [s3] (fun j k hk => by
          by_cases y5 : j = 5
          · rw [if_pos y5] at hk; simp at hk; simp [hk]
          rw [if_neg y5] at hk
          cases hk)
        have d5 := hsf 5 _ rfl
        obtain ⟨ysl, ha, hy⟩ := hL.puts [55, 56, 57, 58, 59] (by kernel_rfl)
        clear hL hsf hy
        simp only [List.foldl, List.setIfInBounds_toArray, List.set_cons_succ, List.set_cons_zero] at ha
        subst ha
        replace B_ss := Lib.hid (B_ss.out.but hB (by first | (simp; done) | (simp; omega)))
        replace O_s := Lib.hid (show Own u s1 s2 s3 ⟨0, zeros 8, ((zeros 5).set 2 64).set 3 1, ((((((zeros 256).set 64 16).set 65 (48 + fr)).set 66 (16 + fr)).set 0 wd1).set 1 wd2).set 2 wd3⟩ from d5)
        clear d5
        replace HF := Lib.hid (fr_but HF.out hB (fun k hk => by first | (cases hk; done) | (simp at hk; omega)))
        clear hB hW
        go_upto_region 14 with fail
        refine wp_gen (fun v9 => Cel v9 N_s [.int .i64 0, .slice (some ⟨s1, 0, none⟩) 8 sr, .slice (some ⟨s2, 0, none⟩) 5 sc, .slice (some ⟨s3, 0, none⟩) 256 sm] ∧ Own v9 s1 s2 s3 ⟨0, zeros 8, ((zeros 5).set 2 64).set 3 1, ((((((zeros 256).set 64 16).set 65 (48 + fr)).set 66 (16 + fr)).set 0 wd1).set 1 wd2).set 2 wd3⟩ ∧ Fr w v9) ⟨?_, ?_, ?_⟩ ?_
        · have q9 := B_ss.out
          (repeat (first | (with_reducible assumption) | (with_reducible exact Cel.new _ _ _ _ (by first | rfl | omega | (simp; done) | (simp; omega))) | (with_reducible refine Cel.alloc ?_ _) | (with_reducible refine Cel.drew ?_) | (with_reducible refine Cel.drewN ?_ _) | (with_reducible refine Cel.other ?_ _ _ _ (by omega))))
        · have q9 := O_s.out
          (repeat (first | (with_reducible assumption) | (with_reducible refine Own.alloc ?_ _) | (with_reducible refine Own.drew ?_) | (with_reducible refine Own.drewN ?_ _) | (with_reducible refine Own.other ?_ _ _ _ (by omega) (by omega) (by omega))))
        · refine fr_but (L := []) HF.out ?_ (fun k hk => by first | (cases hk; done) | (simp at hk; omega))
          (repeat (first | (with_reducible exact But.refl _ _) | (with_reducible assumption) | (with_reducible refine But.alloc ?_ _) | (with_reducible refine But.drew ?_) | (with_reducible refine But.drewN ?_ _) | (with_reducible refine But.set ?_ _ _ _ (by first | (left; simp; done) | (right; simp; done) | (right; omega) | (right; simp; omega)))))
        rintro u31 ⟨z0, z1, z2⟩
        replace B_ss := Lib.hid z0
        replace O_s := Lib.hid z1
        replace HF := Lib.hid z2
        clear z0 z1 z2
        clear L_s
        have L_s : Hid (Lens ⟨0, zeros 8, ((zeros 5).set 2 64).set 3 1, ((((((zeros 256).set 64 16).set 65 (48 + fr)).set 66 (16 + fr)).set 0 wd1).set 1 wd2).set 2 wd3⟩) := Lib.hid ⟨by show (List.length (zeros 8) = 8); simp only [List.length_set, HL8.out], by show (List.length (((zeros 5).set 2 64).set 3 1) = 5); simp only [List.length_set, HL5.out], by show (List.length (((((((zeros 256).set 64 16).set 65 (48 + fr)).set 66 (16 + fr)).set 0 wd1).set 1 wd2).set 2 wd3) = 256); simp only [List.length_set, HL256.out]⟩
        have c32 : u31.cell? ⟨N_s, 1, none⟩ = some (.slice (some ⟨s1, 0, none⟩) 8 sr) := B_ss.out.cel 1 (by simp)
        have r33 := O_s.out.R.cel 1 (by rw [L_s.out.Rl]; omega)
        have r34 : u31.frozen? ⟨s1, 1, none⟩ = false := O_s.out.R.fro 1 (by rw [L_s.out.Rl]; omega)
        go_upto_region 15 with fail
        refine wp_gen (fun v9 => Cel v9 N_s [.int .i64 0, .slice (some ⟨s1, 0, none⟩) 8 sr, .slice (some ⟨s2, 0, none⟩) 5 sc, .slice (some ⟨s3, 0, none⟩) 256 sm] ∧ Own v9 s1 s2 s3 ⟨0, (zeros 8).set 1 ad, ((zeros 5).set 2 64).set 3 1, ((((((zeros 256).set 64 16).set 65 (48 + fr)).set 66 (16 + fr)).set 0 wd1).set 1 wd2).set 2 wd3⟩ ∧ Fr w v9) ⟨?_, ?_, ?_⟩ ?_
        · have q9 := B_ss.out
          (repeat (first | (with_reducible assumption) | (with_reducible exact Cel.new _ _ _ _ (by first | rfl | omega | (simp; done) | (simp; omega))) | (with_reducible refine Cel.alloc ?_ _) | (with_reducible refine Cel.drew ?_) | (with_reducible refine Cel.drewN ?_ _) | (with_reducible refine Cel.other ?_ _ _ _ (by omega))))
        · have q9 := (show Own (u31.setCell ⟨s1, 1, none⟩ (.int .i64 ad)) s1 s2 s3 ⟨0, (zeros 8).set 1 ad, ((zeros 5).set 2 64).set 3 1, ((((((zeros 256).set 64 16).set 65 (48 + fr)).set 66 (16 + fr)).set 0 wd1).set 1 wd2).set 2 wd3⟩ from O_s.out.setR 1 ad (by rw [L_s.out.Rl]; omega) 0)
          (repeat (first | (with_reducible assumption) | (with_reducible refine Own.alloc ?_ _) | (with_reducible refine Own.drew ?_) | (with_reducible refine Own.drewN ?_ _) | (with_reducible refine Own.other ?_ _ _ _ (by omega) (by omega) (by omega))))
        · refine fr_but (L := [s1]) HF.out ?_ (fun k hk => by first | (cases hk; done) | (simp at hk; omega))
          (repeat (first | (with_reducible exact But.refl _ _) | (with_reducible assumption) | (with_reducible refine But.alloc ?_ _) | (with_reducible refine But.drew ?_) | (with_reducible refine But.drewN ?_ _) | (with_reducible refine But.set ?_ _ _ _ (by first | (left; simp; done) | (right; simp; done) | (right; omega) | (right; simp; omega)))))
        rintro u35 ⟨z0, z1, z2⟩
        replace B_ss := Lib.hid z0
        replace O_s := Lib.hid z1
        replace HF := Lib.hid z2
        clear z0 z1 z2
        clear L_s
        have L_s : Hid (Lens ⟨0, (zeros 8).set 1 ad, ((zeros 5).set 2 64).set 3 1, ((((((zeros 256).set 64 16).set 65 (48 + fr)).set 66 (16 + fr)).set 0 wd1).set 1 wd2).set 2 wd3⟩) := Lib.hid ⟨by show (List.length ((zeros 8).set 1 ad) = 8); simp only [List.length_set, HL8.out], by show (List.length (((zeros 5).set 2 64).set 3 1) = 5); simp only [List.length_set, HL5.out], by show (List.length (((((((zeros 256).set 64 16).set 65 (48 + fr)).set 66 (16 + fr)).set 0 wd1).set 1 wd2).set 2 wd3) = 256); simp only [List.length_set, HL256.out]⟩
        clear c32 r33 r34
        have c36 : u35.cell? ⟨N_s, 1, none⟩ = some (.slice (some ⟨s1, 0, none⟩) 8 sr) := B_ss.out.cel 1 (by simp)
        have r37 := O_s.out.R.cel 2 (by rw [L_s.out.Rl]; omega)
        have r38 : u35.frozen? ⟨s1, 2, none⟩ = false := O_s.out.R.fro 2 (by rw [L_s.out.Rl]; omega)
        go_upto_region 16 with fail
        refine wp_gen (fun v9 => Cel v9 N_s [.int .i64 0, .slice (some ⟨s1, 0, none⟩) 8 sr, .slice (some ⟨s2, 0, none⟩) 5 sc, .slice (some ⟨s3, 0, none⟩) 256 sm] ∧ Own v9 s1 s2 s3 ⟨0, ((zeros 8).set 1 ad).set 2 b, ((zeros 5).set 2 64).set 3 1, ((((((zeros 256).set 64 16).set 65 (48 + fr)).set 66 (16 + fr)).set 0 wd1).set 1 wd2).set 2 wd3⟩ ∧ Fr w v9) ⟨?_, ?_, ?_⟩ ?_
        · have q9 := B_ss.out
          (repeat (first | (with_reducible assumption) | (with_reducible exact Cel.new _ _ _ _ (by first | rfl | omega | (simp; done) | (simp; omega))) | (with_reducible refine Cel.alloc ?_ _) | (with_reducible refine Cel.drew ?_) | (with_reducible refine Cel.drewN ?_ _) | (with_reducible refine Cel.other ?_ _ _ _ (by omega))))
        · have q9 := (show Own (u35.setCell ⟨s1, 2, none⟩ (.int .i64 b)) s1 s2 s3 ⟨0, ((zeros 8).set 1 ad).set 2 b, ((zeros 5).set 2 64).set 3 1, ((((((zeros 256).set 64 16).set 65 (48 + fr)).set 66 (16 + fr)).set 0 wd1).set 1 wd2).set 2 wd3⟩ from O_s.out.setR 2 b (by rw [L_s.out.Rl]; omega) 0)
          (repeat (first | (with_reducible assumption) | (with_reducible refine Own.alloc ?_ _) | (with_reducible refine Own.drew ?_) | (with_reducible refine Own.drewN ?_ _) | (with_reducible refine Own.other ?_ _ _ _ (by omega) (by omega) (by omega))))
        · refine fr_but (L := [s1]) HF.out ?_ (fun k hk => by first | (cases hk; done) | (simp at hk; omega))
          (repeat (first | (with_reducible exact But.refl _ _) | (with_reducible assumption) | (with_reducible refine But.alloc ?_ _) | (with_reducible refine But.drew ?_) | (with_reducible refine But.drewN ?_ _) | (with_reducible refine But.set ?_ _ _ _ (by first | (left; simp; done) | (right; simp; done) | (right; omega) | (right; simp; omega)))))
        rintro u39 ⟨z0, z1, z2⟩
        replace B_ss := Lib.hid z0
        replace O_s := Lib.hid z1
        replace HF := Lib.hid z2
        clear z0 z1 z2
        clear L_s
        have L_s : Hid (Lens ⟨0, ((zeros 8).set 1 ad).set 2 b, ((zeros 5).set 2 64).set 3 1, ((((((zeros 256).set 64 16).set 65 (48 + fr)).set 66 (16 + fr)).set 0 wd1).set 1 wd2).set 2 wd3⟩) := Lib.hid ⟨by show (List.length (((zeros 8).set 1 ad).set 2 b) = 8); simp only [List.length_set, HL8.out], by show (List.length (((zeros 5).set 2 64).set 3 1) = 5); simp only [List.length_set, HL5.out], by show (List.length (((((((zeros 256).set 64 16).set 65 (48 + fr)).set 66 (16 + fr)).set 0 wd1).set 1 wd2).set 2 wd3) = 256); simp only [List.length_set, HL256.out]⟩
        clear c36 r37 r38
        replace O_s := Lib.hid (show Own u39 s1 s2 s3 ⟨0, pgR ad b, pgC, pgM fr wd1 wd2 wd3⟩ from O_s.out)
        have c40 : u39.cell? ⟨N_s, 0, none⟩ = some (.int .i64 0) := B_ss.out.cel 0 (by simp)
        have c41 : u39.cell? ⟨N_s, 1, none⟩ = some (.slice (some ⟨s1, 0, none⟩) 8 sr) := B_ss.out.cel 1 (by simp)
        have c42 : u39.cell? ⟨N_s, 2, none⟩ = some (.slice (some ⟨s2, 0, none⟩) 5 sc) := B_ss.out.cel 2 (by simp)
        have c43 : u39.cell? ⟨N_s, 3, none⟩ = some (.slice (some ⟨s3, 0, none⟩) 256 sm) := B_ss.out.cel 3 (by simp)
        go_wp2_with fail
        clear c40 c41 c42 c43
        have m45 := B_ss.out.lt
        have m46 := HF.out.size
        refine (step_to (s := ⟨0, pgR ad b, pgC, pgM fr wd1 wd2 wd3⟩) (s2 := ⟨1, pgR ad b, pgC, (pgM fr wd1 wd2 wd3).set q.toNat b⟩) (e2 := ⟨0, wd1, 0, 0, 0, q, b⟩) O_s.out HK0.out rfl (HT.out.fr HF.out) HST1.out).mono ?_
        rintro e u44 ⟨x1, x2, x3, xr, xc, xm, he, ho, hl1, hl2, hl3, f⟩
        replace B_ss := Lib.hid (B_ss.out.fr f)
        replace O_s := Lib.hid (O_s.out.fr f)
        replace HF := Lib.hid (Fr.trans HF.out f)
        have O_x := Lib.hid (show Own u44 x1 x2 x3 ⟨1, pgR ad b, pgC, (pgM fr wd1 wd2 wd3).set q.toNat b⟩ from ho)
        have he2 : e = .returned (.tuple #[.agg #[.int .i64 1, .slice (some ⟨x1, 0, none⟩) 8 xr, .slice (some ⟨x2, 0, none⟩) 5 xc, .slice (some ⟨x3, 0, none⟩) 256 xm], .agg #[.int .i64 0, .int .i64 wd1, .int .i64 0, .int .i64 0, .int .i64 0, .int .i64 q, .int .i64 b]]) := he
        subst he2
        clear he ho f
        have m47a := O_x.out.R.lt
        have m47b := O_x.out.C.lt
        have m47c := O_x.out.M.lt
        go_upto_region 17 with fail
        refine wp_gen (fun v9 => Cel v9 N_s [.int .i64 0, .slice (some ⟨s1, 0, none⟩) 8 sr, .slice (some ⟨s2, 0, none⟩) 5 sc, .slice (some ⟨s3, 0, none⟩) 256 sm] ∧ Cel v9 u44.heap.size [.int .i64 1, .slice (some ⟨x1, 0, none⟩) 8 xr, .slice (some ⟨x2, 0, none⟩) 5 xc, .slice (some ⟨x3, 0, none⟩) 256 xm] ∧ Cel v9 (u44.heap.size + 1) [.int .i64 0, .int .i64 wd1, .int .i64 0, .int .i64 0, .int .i64 0, .int .i64 q, .int .i64 b] ∧ Own v9 s1 s2 s3 ⟨0, pgR ad b, pgC, pgM fr wd1 wd2 wd3⟩ ∧ Own v9 x1 x2 x3 ⟨1, pgR ad b, pgC, (pgM fr wd1 wd2 wd3).set q.toNat b⟩ ∧ Fr w v9) ⟨?_, ?_, ?_, ?_, ?_, ?_⟩ ?_
        · have q9 := B_ss.out
          (repeat (first | (with_reducible assumption) | (with_reducible exact Cel.new _ _ _ _ (by first | rfl | omega | (simp; done) | (simp; omega))) | (with_reducible refine Cel.alloc ?_ _) | (with_reducible refine Cel.drew ?_) | (with_reducible refine Cel.drewN ?_ _) | (with_reducible refine Cel.other ?_ _ _ _ (by omega))))
        · (repeat (first | (with_reducible assumption) | (with_reducible exact Cel.new _ _ _ _ (by first | rfl | omega | (simp; done) | (simp; omega))) | (with_reducible refine Cel.alloc ?_ _) | (with_reducible refine Cel.drew ?_) | (with_reducible refine Cel.drewN ?_ _) | (with_reducible refine Cel.other ?_ _ _ _ (by omega))))
        · (repeat (first | (with_reducible assumption) | (with_reducible exact Cel.new _ _ _ _ (by first | rfl | omega | (simp; done) | (simp; omega))) | (with_reducible refine Cel.alloc ?_ _) | (with_reducible refine Cel.drew ?_) | (with_reducible refine Cel.drewN ?_ _) | (with_reducible refine Cel.other ?_ _ _ _ (by omega))))
        · have q9 := O_s.out
          (repeat (first | (with_reducible assumption) | (with_reducible refine Own.alloc ?_ _) | (with_reducible refine Own.drew ?_) | (with_reducible refine Own.drewN ?_ _) | (with_reducible refine Own.other ?_ _ _ _ (by omega) (by omega) (by omega))))
        · have q9 := O_x.out
          (repeat (first | (with_reducible assumption) | (with_reducible refine Own.alloc ?_ _) | (with_reducible refine Own.drew ?_) | (with_reducible refine Own.drewN ?_ _) | (with_reducible refine Own.other ?_ _ _ _ (by omega) (by omega) (by omega))))
        · refine fr_but (L := []) HF.out ?_ (fun k hk => by first | (cases hk; done) | (simp at hk; omega))
          (repeat (first | (with_reducible exact But.refl _ _) | (with_reducible assumption) | (with_reducible refine But.alloc ?_ _) | (with_reducible refine But.drew ?_) | (with_reducible refine But.drewN ?_ _) | (with_reducible refine But.set ?_ _ _ _ (by first | (left; simp; done) | (right; simp; done) | (right; omega) | (right; simp; omega)))))
        rintro u48 ⟨z0, z1, z2, z3, z4, z5⟩
        replace B_ss := Lib.hid z0
        have B_sx := Lib.hid z1
        have B_ex := Lib.hid z2
        replace O_s := Lib.hid z3
        replace O_x := Lib.hid z4
        replace HF := Lib.hid z5
        clear z0 z1 z2 z3 z4 z5
        generalize u44.heap.size = N_x at *
        have c49 : u48.cell? ⟨N_x, 0, none⟩ = some (.int .i64 1) := B_sx.out.cel 0 (by simp)
        have c50 : u48.cell? ⟨N_x, 1, none⟩ = some (.slice (some ⟨x1, 0, none⟩) 8 xr) := B_sx.out.cel 1 (by simp)
        have c51 : u48.cell? ⟨N_x, 2, none⟩ = some (.slice (some ⟨x2, 0, none⟩) 5 xc) := B_sx.out.cel 2 (by simp)
        have c52 : u48.cell? ⟨N_x, 3, none⟩ = some (.slice (some ⟨x3, 0, none⟩) 256 xm) := B_sx.out.cel 3 (by simp)
        go_wp2_with fail
        clear c49 c50 c51 c52
        have m54 := B_ss.out.lt
        have m55 := B_sx.out.lt
        have m56 := B_ex.out.lt
        have m57 := HF.out.size
        refine (step_to (s := ⟨1, pgR ad b, pgC, (pgM fr wd1 wd2 wd3).set q.toNat b⟩) (s2 := ⟨2, (pgR ad b).set 3 b, pgC, (pgM fr wd1 wd2 wd3).set q.toNat b⟩) (e2 := ⟨1, wd2, 0, 3, b, -1, 0⟩) O_x.out HK1.out rfl (HT.out.fr HF.out) HST2.out).mono ?_
        rintro e u53 ⟨y1, y2, y3, yr, yc, ym, he, ho, hl1, hl2, hl3, f⟩
        replace B_ss := Lib.hid (B_ss.out.fr f)
        replace B_sx := Lib.hid (B_sx.out.fr f)
        replace B_ex := Lib.hid (B_ex.out.fr f)
        replace O_s := Lib.hid (O_s.out.fr f)
        replace O_x := Lib.hid (O_x.out.fr f)
        replace HF := Lib.hid (Fr.trans HF.out f)
        have O_y := Lib.hid (show Own u53 y1 y2 y3 ⟨2, (pgR ad b).set 3 b, pgC, (pgM fr wd1 wd2 wd3).set q.toNat b⟩ from ho)
        have he2 : e = .returned (.tuple #[.agg #[.int .i64 2, .slice (some ⟨y1, 0, none⟩) 8 yr, .slice (some ⟨y2, 0, none⟩) 5 yc, .slice (some ⟨y3, 0, none⟩) 256 ym], .agg #[.int .i64 1, .int .i64 wd2, .int .i64 0, .int .i64 3, .int .i64 b, .int .i64 (-1), .int .i64 0]]) := he
        subst he2
        clear he ho f
        have m58a := O_y.out.R.lt
        have m58b := O_y.out.C.lt
        have m58c := O_y.out.M.lt
        go_upto_region 18 with fail
        refine wp_gen (fun v9 => Cel v9 N_s [.int .i64 0, .slice (some ⟨s1, 0, none⟩) 8 sr, .slice (some ⟨s2, 0, none⟩) 5 sc, .slice (some ⟨s3, 0, none⟩) 256 sm] ∧ Cel v9 N_x [.int .i64 1, .slice (some ⟨x1, 0, none⟩) 8 xr, .slice (some ⟨x2, 0, none⟩) 5 xc, .slice (some ⟨x3, 0, none⟩) 256 xm] ∧ Cel v9 (N_x + 1) [.int .i64 0, .int .i64 wd1, .int .i64 0, .int .i64 0, .int .i64 0, .int .i64 q, .int .i64 b] ∧ Cel v9 u53.heap.size [.int .i64 2, .slice (some ⟨y1, 0, none⟩) 8 yr, .slice (some ⟨y2, 0, none⟩) 5 yc, .slice (some ⟨y3, 0, none⟩) 256 ym] ∧ Cel v9 (u53.heap.size + 1) [.int .i64 1, .int .i64 wd2, .int .i64 0, .int .i64 3, .int .i64 b, .int .i64 (-1), .int .i64 0] ∧ Own v9 s1 s2 s3 ⟨0, pgR ad b, pgC, pgM fr wd1 wd2 wd3⟩ ∧ Own v9 x1 x2 x3 ⟨1, pgR ad b, pgC, (pgM fr wd1 wd2 wd3).set q.toNat b⟩ ∧ Own v9 y1 y2 y3 ⟨2, (pgR ad b).set 3 b, pgC, (pgM fr wd1 wd2 wd3).set q.toNat b⟩ ∧ Fr w v9) ⟨?_, ?_, ?_, ?_, ?_, ?_, ?_, ?_, ?_⟩ ?_
        · have q9 := B_ss.out
          (repeat (first | (with_reducible assumption) | (with_reducible exact Cel.new _ _ _ _ (by first | rfl | omega | (simp; done) | (simp; omega))) | (with_reducible refine Cel.alloc ?_ _) | (with_reducible refine Cel.drew ?_) | (with_reducible refine Cel.drewN ?_ _) | (with_reducible refine Cel.other ?_ _ _ _ (by omega))))
        · have q9 := B_sx.out
          (repeat (first | (with_reducible assumption) | (with_reducible exact Cel.new _ _ _ _ (by first | rfl | omega | (simp; done) | (simp; omega))) | (with_reducible refine Cel.alloc ?_ _) | (with_reducible refine Cel.drew ?_) | (with_reducible refine Cel.drewN ?_ _) | (with_reducible refine Cel.other ?_ _ _ _ (by omega))))
        · have q9 := B_ex.out
          (repeat (first | (with_reducible assumption) | (with_reducible exact Cel.new _ _ _ _ (by first | rfl | omega | (simp; done) | (simp; omega))) | (with_reducible refine Cel.alloc ?_ _) | (with_reducible refine Cel.drew ?_) | (with_reducible refine Cel.drewN ?_ _) | (with_reducible refine Cel.other ?_ _ _ _ (by omega))))
        · (repeat (first | (with_reducible assumption) | (with_reducible exact Cel.new _ _ _ _ (by first | rfl | omega | (simp; done) | (simp; omega))) | (with_reducible refine Cel.alloc ?_ _) | (with_reducible refine Cel.drew ?_) | (with_reducible refine Cel.drewN ?_ _) | (with_reducible refine Cel.other ?_ _ _ _ (by omega))))
        · (repeat (first | (with_reducible assumption) | (with_reducible exact Cel.new _ _ _ _ (by first | rfl | omega | (simp; done) | (simp; omega))) | (with_reducible refine Cel.alloc ?_ _) | (with_reducible refine Cel.drew ?_) | (with_reducible refine Cel.drewN ?_ _) | (with_reducible refine Cel.other ?_ _ _ _ (by omega))))
        · have q9 := O_s.out
          (repeat (first | (with_reducible assumption) | (with_reducible refine Own.alloc ?_ _) | (with_reducible refine Own.drew ?_) | (with_reducible refine Own.drewN ?_ _) | (with_reducible refine Own.other ?_ _ _ _ (by omega) (by omega) (by omega))))
        · have q9 := O_x.out
          (repeat (first | (with_reducible assumption) | (with_reducible refine Own.alloc ?_ _) | (with_reducible refine Own.drew ?_) | (with_reducible refine Own.drewN ?_ _) | (with_reducible refine Own.other ?_ _ _ _ (by omega) (by omega) (by omega))))
        · have q9 := O_y.out
          (repeat (first | (with_reducible assumption) | (with_reducible refine Own.alloc ?_ _) | (with_reducible refine Own.drew ?_) | (with_reducible refine Own.drewN ?_ _) | (with_reducible refine Own.other ?_ _ _ _ (by omega) (by omega) (by omega))))
        · refine fr_but (L := []) HF.out ?_ (fun k hk => by first | (cases hk; done) | (simp at hk; omega))
          (repeat (first | (with_reducible exact But.refl _ _) | (with_reducible assumption) | (with_reducible refine But.alloc ?_ _) | (with_reducible refine But.drew ?_) | (with_reducible refine But.drewN ?_ _) | (with_reducible refine But.set ?_ _ _ _ (by first | (left; simp; done) | (right; simp; done) | (right; omega) | (right; simp; omega)))))
        rintro u59 ⟨z0, z1, z2, z3, z4, z5, z6, z7, z8⟩
        replace B_ss := Lib.hid z0
        replace B_sx := Lib.hid z1
        replace B_ex := Lib.hid z2
        have B_sy := Lib.hid z3
        have B_ey := Lib.hid z4
        replace O_s := Lib.hid z5
        replace O_x := Lib.hid z6
        replace O_y := Lib.hid z7
        replace HF := Lib.hid z8
        clear z0 z1 z2 z3 z4 z5 z6 z7 z8
        generalize u53.heap.size = N_y at *
        have L_y : Hid (Lens ⟨2, (pgR ad b).set 3 b, pgC, (pgM fr wd1 wd2 wd3).set q.toNat b⟩) := Lib.hid ⟨HK2.out.Rl, HK2.out.Cl, HK2.out.Ml⟩
        have c60 : u59.cell? ⟨N_y, 0, none⟩ = some (.int .i64 2) := B_sy.out.cel 0 (by simp)
        have c61 : u59.cell? ⟨N_y, 1, none⟩ = some (.slice (some ⟨y1, 0, none⟩) 8 yr) := B_sy.out.cel 1 (by simp)
        have c62 : u59.cell? ⟨N_y, 2, none⟩ = some (.slice (some ⟨y2, 0, none⟩) 5 yc) := B_sy.out.cel 2 (by simp)
        have c63 : u59.cell? ⟨N_y, 3, none⟩ = some (.slice (some ⟨y3, 0, none⟩) 256 ym) := B_sy.out.cel 3 (by simp)
        go_wp2_with fail
        clear c60 c61 c62 c63
        have m65 := B_ss.out.lt
        have m66 := B_sx.out.lt
        have m67 := B_ex.out.lt
        have m68 := B_sy.out.lt
        have m69 := B_ey.out.lt
        have m70 := HF.out.size
        refine (step_to (s := ⟨2, (pgR ad b).set 3 b, pgC, (pgM fr wd1 wd2 wd3).set q.toNat b⟩) (s2 := ⟨8, (pgR ad b).set 3 b, stopC ⟨2, (pgR ad b).set 3 b, pgC, (pgM fr wd1 wd2 wd3).set q.toNat b⟩ 4, (pgM fr wd1 wd2 wd3).set q.toNat b⟩) (e2 := ⟨2, wd3, 4, 0, 0, -1, 0⟩) O_y.out HK2.out rfl (HT.out.fr HF.out) HST3.out).mono ?_
        rintro e u64 ⟨z1, z2, z3, zr, zc, zm, he, ho, hl1, hl2, hl3, f⟩
        replace B_ss := Lib.hid (B_ss.out.fr f)
        replace B_sx := Lib.hid (B_sx.out.fr f)
        replace B_ex := Lib.hid (B_ex.out.fr f)
        replace B_sy := Lib.hid (B_sy.out.fr f)
        replace B_ey := Lib.hid (B_ey.out.fr f)
        replace O_s := Lib.hid (O_s.out.fr f)
        replace O_x := Lib.hid (O_x.out.fr f)
        replace O_y := Lib.hid (O_y.out.fr f)
        replace HF := Lib.hid (Fr.trans HF.out f)
        have O_z := Lib.hid (show Own u64 z1 z2 z3 ⟨8, (pgR ad b).set 3 b, stopC ⟨2, (pgR ad b).set 3 b, pgC, (pgM fr wd1 wd2 wd3).set q.toNat b⟩ 4, (pgM fr wd1 wd2 wd3).set q.toNat b⟩ from ho)
        have he2 : e = .returned (.tuple #[.agg #[.int .i64 8, .slice (some ⟨z1, 0, none⟩) 8 zr, .slice (some ⟨z2, 0, none⟩) 5 zc, .slice (some ⟨z3, 0, none⟩) 256 zm], .agg #[.int .i64 2, .int .i64 wd3, .int .i64 4, .int .i64 0, .int .i64 0, .int .i64 (-1), .int .i64 0]]) := he
        subst he2
        clear he ho f
        have m71a := O_z.out.R.lt
        have m71b := O_z.out.C.lt
        have m71c := O_z.out.M.lt
        go_upto_region 19 with fail
        refine wp_gen (fun v9 => Cel v9 N_s [.int .i64 0, .slice (some ⟨s1, 0, none⟩) 8 sr, .slice (some ⟨s2, 0, none⟩) 5 sc, .slice (some ⟨s3, 0, none⟩) 256 sm] ∧ Cel v9 N_x [.int .i64 1, .slice (some ⟨x1, 0, none⟩) 8 xr, .slice (some ⟨x2, 0, none⟩) 5 xc, .slice (some ⟨x3, 0, none⟩) 256 xm] ∧ Cel v9 (N_x + 1) [.int .i64 0, .int .i64 wd1, .int .i64 0, .int .i64 0, .int .i64 0, .int .i64 q, .int .i64 b] ∧ Cel v9 N_y [.int .i64 2, .slice (some ⟨y1, 0, none⟩) 8 yr, .slice (some ⟨y2, 0, none⟩) 5 yc, .slice (some ⟨y3, 0, none⟩) 256 ym] ∧ Cel v9 (N_y + 1) [.int .i64 1, .int .i64 wd2, .int .i64 0, .int .i64 3, .int .i64 b, .int .i64 (-1), .int .i64 0] ∧ Cel v9 u64.heap.size [.int .i64 8, .slice (some ⟨z1, 0, none⟩) 8 zr, .slice (some ⟨z2, 0, none⟩) 5 zc, .slice (some ⟨z3, 0, none⟩) 256 zm] ∧ Cel v9 (u64.heap.size + 1) [.int .i64 2, .int .i64 wd3, .int .i64 4, .int .i64 0, .int .i64 0, .int .i64 (-1), .int .i64 0] ∧ Own v9 s1 s2 s3 ⟨0, pgR ad b, pgC, pgM fr wd1 wd2 wd3⟩ ∧ Own v9 x1 x2 x3 ⟨1, pgR ad b, pgC, (pgM fr wd1 wd2 wd3).set q.toNat b⟩ ∧ Own v9 y1 y2 y3 ⟨2, (pgR ad b).set 3 b, pgC, (pgM fr wd1 wd2 wd3).set q.toNat b⟩ ∧ Own v9 z1 z2 z3 ⟨8, (pgR ad b).set 3 b, stopC ⟨2, (pgR ad b).set 3 b, pgC, (pgM fr wd1 wd2 wd3).set q.toNat b⟩ 4, (pgM fr wd1 wd2 wd3).set q.toNat b⟩ ∧ Fr w v9) ⟨?_, ?_, ?_, ?_, ?_, ?_, ?_, ?_, ?_, ?_, ?_, ?_⟩ ?_
        · have q9 := B_ss.out
          (repeat (first | (with_reducible assumption) | (with_reducible exact Cel.new _ _ _ _ (by first | rfl | omega | (simp; done) | (simp; omega))) | (with_reducible refine Cel.alloc ?_ _) | (with_reducible refine Cel.drew ?_) | (with_reducible refine Cel.drewN ?_ _) | (with_reducible refine Cel.other ?_ _ _ _ (by omega))))
        · have q9 := B_sx.out
          (repeat (first | (with_reducible assumption) | (with_reducible exact Cel.new _ _ _ _ (by first | rfl | omega | (simp; done) | (simp; omega))) | (with_reducible refine Cel.alloc ?_ _) | (with_reducible refine Cel.drew ?_) | (with_reducible refine Cel.drewN ?_ _) | (with_reducible refine Cel.other ?_ _ _ _ (by omega))))
        · have q9 := B_ex.out
          (repeat (first | (with_reducible assumption) | (with_reducible exact Cel.new _ _ _ _ (by first | rfl | omega | (simp; done) | (simp; omega))) | (with_reducible refine Cel.alloc ?_ _) | (with_reducible refine Cel.drew ?_) | (with_reducible refine Cel.drewN ?_ _) | (with_reducible refine Cel.other ?_ _ _ _ (by omega))))
        · have q9 := B_sy.out
          (repeat (first | (with_reducible assumption) | (with_reducible exact Cel.new _ _ _ _ (by first | rfl | omega | (simp; done) | (simp; omega))) | (with_reducible refine Cel.alloc ?_ _) | (with_reducible refine Cel.drew ?_) | (with_reducible refine Cel.drewN ?_ _) | (with_reducible refine Cel.other ?_ _ _ _ (by omega))))
        · have q9 := B_ey.out
          (repeat (first | (with_reducible assumption) | (with_reducible exact Cel.new _ _ _ _ (by first | rfl | omega | (simp; done) | (simp; omega))) | (with_reducible refine Cel.alloc ?_ _) | (with_reducible refine Cel.drew ?_) | (with_reducible refine Cel.drewN ?_ _) | (with_reducible refine Cel.other ?_ _ _ _ (by omega))))
        · (repeat (first | (with_reducible assumption) | (with_reducible exact Cel.new _ _ _ _ (by first | rfl | omega | (simp; done) | (simp; omega))) | (with_reducible refine Cel.alloc ?_ _) | (with_reducible refine Cel.drew ?_) | (with_reducible refine Cel.drewN ?_ _) | (with_reducible refine Cel.other ?_ _ _ _ (by omega))))
        · (repeat (first | (with_reducible assumption) | (with_reducible exact Cel.new _ _ _ _ (by first | rfl | omega | (simp; done) | (simp; omega))) | (with_reducible refine Cel.alloc ?_ _) | (with_reducible refine Cel.drew ?_) | (with_reducible refine Cel.drewN ?_ _) | (with_reducible refine Cel.other ?_ _ _ _ (by omega))))
        · have q9 := O_s.out
          (repeat (first | (with_reducible assumption) | (with_reducible refine Own.alloc ?_ _) | (with_reducible refine Own.drew ?_) | (with_reducible refine Own.drewN ?_ _) | (with_reducible refine Own.other ?_ _ _ _ (by omega) (by omega) (by omega))))
        · have q9 := O_x.out
          (repeat (first | (with_reducible assumption) | (with_reducible refine Own.alloc ?_ _) | (with_reducible refine Own.drew ?_) | (with_reducible refine Own.drewN ?_ _) | (with_reducible refine Own.other ?_ _ _ _ (by omega) (by omega) (by omega))))
        · have q9 := O_y.out
          (repeat (first | (with_reducible assumption) | (with_reducible refine Own.alloc ?_ _) | (with_reducible refine Own.drew ?_) | (with_reducible refine Own.drewN ?_ _) | (with_reducible refine Own.other ?_ _ _ _ (by omega) (by omega) (by omega))))
        · have q9 := O_z.out
          (repeat (first | (with_reducible assumption) | (with_reducible refine Own.alloc ?_ _) | (with_reducible refine Own.drew ?_) | (with_reducible refine Own.drewN ?_ _) | (with_reducible refine Own.other ?_ _ _ _ (by omega) (by omega) (by omega))))
        · refine fr_but (L := []) HF.out ?_ (fun k hk => by first | (cases hk; done) | (simp at hk; omega))
          (repeat (first | (with_reducible exact But.refl _ _) | (with_reducible assumption) | (with_reducible refine But.alloc ?_ _) | (with_reducible refine But.drew ?_) | (with_reducible refine But.drewN ?_ _) | (with_reducible refine But.set ?_ _ _ _ (by first | (left; simp; done) | (right; simp; done) | (right; omega) | (right; simp; omega)))))
        rintro u72 ⟨z0, z1, z2, z3, z4, z5, z6, z7, z8, z9, z10, z11⟩
        replace B_ss := Lib.hid z0
        replace B_sx := Lib.hid z1
        replace B_ex := Lib.hid z2
        replace B_sy := Lib.hid z3
        replace B_ey := Lib.hid z4
        have B_sz := Lib.hid z5
        have B_ez := Lib.hid z6
        replace O_s := Lib.hid z7
        replace O_x := Lib.hid z8
        replace O_y := Lib.hid z9
        replace O_z := Lib.hid z10
        replace HF := Lib.hid z11
        clear z0 z1 z2 z3 z4 z5 z6 z7 z8 z9 z10 z11
        generalize u64.heap.size = N_z at *
        refine wp_region_lots 146 (fun i => []) (fun _ _ => True) (fun i v9 u => match i with | 0 => v9 = .pointer (some ⟨N_x + 1, 5, none⟩) | 1 => v9 = .int .i64 q | 2 => v9 = .int .i64 fr | 3 => v9 = .int .i64 (fr * 16) | 4 => v9 = .int .i64 b | 5 => v9 = .int .i64 c | 6 => v9 = .int .i64 q | 7 => v9 = .bool true | 8 => v9 = .bool true | 9 => v9 = .pointer (some ⟨N_x + 1, 6, none⟩) | 10 => v9 = .int .i64 b | 11 => v9 = .int .i64 b | 12 => v9 = .bool true | 13 => v9 = .bool true | 14 => v9 = .bool true | 15 => v9 = .pointer (some ⟨N_y + 1, 4, none⟩) | 16 => v9 = .int .i64 b | 17 => v9 = .int .i64 b | 18 => v9 = .bool true | 19 => v9 = .bool true | 20 => v9 = .bool true | 21 => v9 = .pointer (some ⟨N_y, 1, none⟩) | 22 => v9 = .slice (some ⟨y1, 0, none⟩) 8 yr | 23 => v9 = .pointer (some ⟨y1, 3, none⟩) | 24 => v9 = .int .i64 b | 25 => v9 = .int .i64 b | 26 => v9 = .bool true | 27 => v9 = .bool true | 28 => v9 = .bool true | 29 => v9 = .pointer (some ⟨N_z + 1, 2, none⟩) | 30 => v9 = .int .i64 4 | 31 => v9 = .bool true | 32 => v9 = .bool true | 33 => v9 = .bool true | 34 => v9 = .pointer (some ⟨N_z, 0, none⟩) | 35 => v9 = .int .i64 8 | 36 => v9 = .bool true | 37 => v9 = .bool true | 38 => v9 = .bool true | 39 => v9 = .agg #[.int .i64 0, .slice (some ⟨s1, 0, none⟩) 8 sr, .slice (some ⟨s2, 0, none⟩) 5 sc, .slice (some ⟨s3, 0, none⟩) 256 sm] | 40 => v9 = .int .i64 b | 41 => v9 = .int .i64 c | 42 => v9 = .int .i64 ad | 43 => v9 = .int .i64 q | 44 => v9 = .pointer (some ⟨N_x + 1, 5, none⟩) | 45 => v9 = .int .i64 q | 46 => v9 = .bool true | 47 => v9 = .bool true | 48 => v9 = .bool true | 49 => v9 = .agg #[.int .i64 0, .slice (some ⟨s1, 0, none⟩) 8 sr, .slice (some ⟨s2, 0, none⟩) 5 sc, .slice (some ⟨s3, 0, none⟩) 256 sm] | 50 => v9 = .int .i64 b | 51 => v9 = .int .i64 c | 52 => v9 = .int .i64 (32 + c) | 53 => v9 = .int .i64 (-1) | 54 => v9 = .bool true | 55 => v9 = .bool true | 56 => v9 = .bool true | 57 => v9 = .agg #[.int .i64 0, .slice (some ⟨s1, 0, none⟩) 8 sr, .slice (some ⟨s2, 0, none⟩) 5 sc, .slice (some ⟨s3, 0, none⟩) 256 sm] | 58 => v9 = .int .i64 (-1) | 59 => v9 = .bool true | 60 => v9 = .bool true | 61 => v9 = .bool true | _ => True) ?mono (by kernel_rfl) (by kernel_rfl) rfl (by kernel_rfl) trivial ?step ?fin
        case mono =>
          intro i j v9 u u' hij hsz h hB
          rcases j with _ | _ | _ | _ | _ | _ | _ | _ | _ | _ | _ | _ | _ | _ | _ | _ | _ | _ | _ | _ | _ | _ | _ | _ | _ | _ | _ | _ | _ | _ | _ | _ | _ | _ | _ | _ | _ | _ | _ | _ | _ | _ | _ | _ | _ | _ | _ | _ | _ | _ | _ | _ | _ | _ | _ | _ | _ | _ | _ | _ | _ | _ | j
          · exact h
          · exact h
          · exact h
          · exact h
          · exact h
          · exact h
          · exact h
          · exact h
          · exact h
          · exact h
          · exact h
          · exact h
          · exact h
          · exact h
          · exact h
          · exact h
          · exact h
          · exact h
          · exact h
          · exact h
          · exact h
          · exact h
          · exact h
          · exact h
          · exact h
          · exact h
          · exact h
          · exact h
          · exact h
          · exact h
          · exact h
          · exact h
          · exact h
          · exact h
          · exact h
          · exact h
          · exact h
          · exact h
          · exact h
          · exact h
          · exact h
          · exact h
          · exact h
          · exact h
          · exact h
          · exact h
          · exact h
          · exact h
          · exact h
          · exact h
          · exact h
          · exact h
          · exact h
          · exact h
          · exact h
          · exact h
          · exact h
          · exact h
          · exact h
          · exact h
          · exact h
          · exact h
          · trivial
        case step =>
          intro i o ho
          rcases i with _ | _ | _ | _ | _ | _ | _ | _ | _ | _ | _ | _ | _ | _ | _ | _ | _ | _ | _ | _ | _ | _ | _ | _ | _ | _ | _ | _ | _ | _ | _ | _ | _ | _ | _ | _ | _ | _ | _ | _ | _ | _ | _ | _ | _ | _ | _ | _ | _ | _ | _ | _ | _ | _ | _ | _ | _ | _ | _ | _ | _ | _ | i
          · cases ho
            intro fu act u hW hB hsz hL hdep
            replace hB := hB [] (fun j hj hd k hk => by
              cases hk)
            have x8 : act.tmps.getD 8 undef = (.pointer (some ⟨N_x + 1, 0, none⟩) : Value) := (hL.2.2 8 (no_dst (by kernel_rfl))).trans rfl
            clear hdep hL
            refine wpOp_step rfl (fun K hK => ?_)
            go_simp
            exact hK _ _ ⟨_, rfl, (fun h => by cases h), (by first | rfl | (exact congrArg (Value.int .i64) (by first | rfl | (rw [IntWalk.i64_left, IntWalk.wrap64_in _ (by omega)]) | omega)) | (simp; done) | (simp; omega) | (simp; rw [Int.tmod_eq_emod_of_nonneg (by omega)]; omega)), But.refl _ _, trivial⟩
          · cases ho
            intro fu act u hW hB hsz hL hdep
            replace hB := hB [] (fun j hj hd k hk => by
              cases hk)
            have e0 : act.tmps.getD 85 undef = (.pointer (some ⟨N_x + 1, 5, none⟩) : Value) := hdep { on := 0, ground := .data } (by simp) rfl _ rfl
            clear hdep hL
            have c73 : u.cell? ⟨N_x + 1, 5, none⟩ = some (.int .i64 q) := (B_ex.out.but hB (by first | (simp; done) | (simp; omega))).cel 5 (by simp)
            refine wpOp_step rfl (fun K hK => ?_)
            go_simp
            exact hK _ _ ⟨_, rfl, (fun h => by cases h), (by first | rfl | (exact congrArg (Value.int .i64) (by first | rfl | (rw [IntWalk.i64_left, IntWalk.wrap64_in _ (by omega)]) | omega)) | (simp; done) | (simp; omega) | (simp; rw [Int.tmod_eq_emod_of_nonneg (by omega)]; omega)), But.refl _ _, trivial⟩
          · cases ho
            intro fu act u hW hB hsz hL hdep
            replace hB := hB [] (fun j hj hd k hk => by
              cases hk)
            have x5 : act.tmps.getD 5 undef = (.int .i64 fr : Value) := (hL.2.2 5 (no_dst (by kernel_rfl))).trans rfl
            clear hdep hL
            refine wpOp_step rfl (fun K hK => ?_)
            go_simp
            exact hK _ _ ⟨_, rfl, (fun h => by cases h), (by first | rfl | (exact congrArg (Value.int .i64) (by first | rfl | (rw [IntWalk.i64_left, IntWalk.wrap64_in _ (by omega)]) | omega)) | (simp; done) | (simp; omega) | (simp; rw [Int.tmod_eq_emod_of_nonneg (by omega)]; omega)), But.refl _ _, trivial⟩
          · cases ho
            intro fu act u hW hB hsz hL hdep
            replace hB := hB [] (fun j hj hd k hk => by
              cases hk)
            have e2 : act.tmps.getD 87 undef = (.int .i64 fr : Value) := hdep { on := 2, ground := .data } (by simp) rfl _ rfl
            clear hdep hL
            refine wpOp_step rfl (fun K hK => ?_)
            go_simp
            exact hK _ _ ⟨_, rfl, (fun h => by cases h), (by first | rfl | (exact congrArg (Value.int .i64) (by first | rfl | (rw [IntWalk.i64_left, IntWalk.wrap64_in _ (by omega)]) | omega)) | (simp; done) | (simp; omega) | (simp; rw [Int.tmod_eq_emod_of_nonneg (by omega)]; omega)), But.refl _ _, trivial⟩
          · cases ho
            intro fu act u hW hB hsz hL hdep
            replace hB := hB [] (fun j hj hd k hk => by
              cases hk)
            have x4 : act.tmps.getD 4 undef = (.int .i64 b : Value) := (hL.2.2 4 (no_dst (by kernel_rfl))).trans rfl
            clear hdep hL
            refine wpOp_step rfl (fun K hK => ?_)
            go_simp
            exact hK _ _ ⟨_, rfl, (fun h => by cases h), (by first | rfl | (exact congrArg (Value.int .i64) (by first | rfl | (rw [IntWalk.i64_left, IntWalk.wrap64_in _ (by omega)]) | omega)) | (simp; done) | (simp; omega) | (simp; rw [Int.tmod_eq_emod_of_nonneg (by omega)]; omega)), But.refl _ _, trivial⟩
          · cases ho
            intro fu act u hW hB hsz hL hdep
            replace hB := hB [] (fun j hj hd k hk => by
              cases hk)
            have e4 : act.tmps.getD 89 undef = (.int .i64 b : Value) := hdep { on := 4, ground := .data } (by simp) rfl _ rfl
            clear hdep hL
            refine wpOp_step rfl (fun K hK => ?_)
            go_simp
            exact hK _ _ ⟨_, rfl, (fun h => by cases h), (by first | rfl | (exact congrArg (Value.int .i64) (by first | rfl | (rw [IntWalk.i64_left, IntWalk.wrap64_in _ (by omega)]) | omega)) | (simp; done) | (simp; omega) | (simp; rw [Int.tmod_eq_emod_of_nonneg (by omega)]; omega)), But.refl _ _, trivial⟩
          · cases ho
            intro fu act u hW hB hsz hL hdep
            replace hB := hB [] (fun j hj hd k hk => by
              cases hk)
            have e3 : act.tmps.getD 88 undef = (.int .i64 (fr * 16) : Value) := hdep { on := 3, ground := .data } (by simp) rfl _ rfl
            have e5 : act.tmps.getD 90 undef = (.int .i64 c : Value) := hdep { on := 5, ground := .data } (by simp) rfl _ rfl
            clear hdep hL
            refine wpOp_step rfl (fun K hK => ?_)
            go_simp
            exact hK _ _ ⟨_, rfl, (fun h => by cases h), (by first | rfl | (exact congrArg (Value.int .i64) (by first | rfl | (rw [IntWalk.i64_left, IntWalk.wrap64_in _ (by omega)]) | omega)) | (simp; done) | (simp; omega) | (simp; rw [Int.tmod_eq_emod_of_nonneg (by omega)]; omega)), But.refl _ _, trivial⟩
          · cases ho
            intro fu act u hW hB hsz hL hdep
            replace hB := hB [] (fun j hj hd k hk => by
              cases hk)
            have e1 : act.tmps.getD 86 undef = (.int .i64 q : Value) := hdep { on := 1, ground := .data } (by simp) rfl _ rfl
            have e6 : act.tmps.getD 91 undef = (.int .i64 q : Value) := hdep { on := 6, ground := .data } (by simp) rfl _ rfl
            clear hdep hL
            refine wpOp_step rfl (fun K hK => ?_)
            go_simp
            exact hK _ _ ⟨_, rfl, (fun h => by cases h), (by first | rfl | (exact congrArg (Value.int .i64) (by first | rfl | (rw [IntWalk.i64_left, IntWalk.wrap64_in _ (by omega)]) | omega)) | (simp; done) | (simp; omega) | (simp; rw [Int.tmod_eq_emod_of_nonneg (by omega)]; omega)), But.refl _ _, trivial⟩
          · cases ho
            intro fu act u hW hB hsz hL hdep
            replace hB := hB [] (fun j hj hd k hk => by
              cases hk)
            have e7 : act.tmps.getD 92 undef = (.bool true : Value) := hdep { on := 7, ground := .data } (by simp) rfl _ rfl
            clear hdep hL
            refine wpOp_step rfl (fun K hK => ?_)
            go_simp
            exact hK _ _ ⟨_, rfl, (fun h => by cases h), (by first | rfl | (exact congrArg (Value.int .i64) (by first | rfl | (rw [IntWalk.i64_left, IntWalk.wrap64_in _ (by omega)]) | omega)) | (simp; done) | (simp; omega) | (simp; rw [Int.tmod_eq_emod_of_nonneg (by omega)]; omega)), But.refl _ _, trivial⟩
          · cases ho
            intro fu act u hW hB hsz hL hdep
            replace hB := hB [] (fun j hj hd k hk => by
              cases hk)
            have e8 : act.tmps.getD 93 undef = (.bool true : Value) := hdep { on := 8, ground := .guard } (by simp) rfl _ rfl
            have e8' := get_some e8 (by simp [undef])
            have x8 : act.tmps.getD 8 undef = (.pointer (some ⟨N_x + 1, 0, none⟩) : Value) := (hL.2.2 8 (no_dst (by kernel_rfl))).trans rfl
            clear hdep hL
            refine wpOp_step rfl (fun K hK => ?_)
            go_simp
            exact hK _ _ ⟨_, rfl, (fun h => by cases h), (by first | rfl | (exact congrArg (Value.int .i64) (by first | rfl | (rw [IntWalk.i64_left, IntWalk.wrap64_in _ (by omega)]) | omega)) | (simp; done) | (simp; omega) | (simp; rw [Int.tmod_eq_emod_of_nonneg (by omega)]; omega)), But.refl _ _, trivial⟩
          · cases ho
            intro fu act u hW hB hsz hL hdep
            replace hB := hB [] (fun j hj hd k hk => by
              cases hk)
            have e8 : act.tmps.getD 93 undef = (.bool true : Value) := hdep { on := 8, ground := .guard } (by simp) rfl _ rfl
            have e8' := get_some e8 (by simp [undef])
            have e9 : act.tmps.getD 94 undef = (.pointer (some ⟨N_x + 1, 6, none⟩) : Value) := hdep { on := 9, ground := .data } (by simp) rfl _ rfl
            clear hdep hL
            have c74 : u.cell? ⟨N_x + 1, 6, none⟩ = some (.int .i64 b) := (B_ex.out.but hB (by first | (simp; done) | (simp; omega))).cel 6 (by simp)
            refine wpOp_step rfl (fun K hK => ?_)
            go_simp
            exact hK _ _ ⟨_, rfl, (fun h => by cases h), (by first | rfl | (exact congrArg (Value.int .i64) (by first | rfl | (rw [IntWalk.i64_left, IntWalk.wrap64_in _ (by omega)]) | omega)) | (simp; done) | (simp; omega) | (simp; rw [Int.tmod_eq_emod_of_nonneg (by omega)]; omega)), But.refl _ _, trivial⟩
          · cases ho
            intro fu act u hW hB hsz hL hdep
            replace hB := hB [] (fun j hj hd k hk => by
              cases hk)
            have e8 : act.tmps.getD 93 undef = (.bool true : Value) := hdep { on := 8, ground := .guard } (by simp) rfl _ rfl
            have e8' := get_some e8 (by simp [undef])
            have x4 : act.tmps.getD 4 undef = (.int .i64 b : Value) := (hL.2.2 4 (no_dst (by kernel_rfl))).trans rfl
            clear hdep hL
            refine wpOp_step rfl (fun K hK => ?_)
            go_simp
            exact hK _ _ ⟨_, rfl, (fun h => by cases h), (by first | rfl | (exact congrArg (Value.int .i64) (by first | rfl | (rw [IntWalk.i64_left, IntWalk.wrap64_in _ (by omega)]) | omega)) | (simp; done) | (simp; omega) | (simp; rw [Int.tmod_eq_emod_of_nonneg (by omega)]; omega)), But.refl _ _, trivial⟩
          · cases ho
            intro fu act u hW hB hsz hL hdep
            replace hB := hB [] (fun j hj hd k hk => by
              cases hk)
            have e8 : act.tmps.getD 93 undef = (.bool true : Value) := hdep { on := 8, ground := .guard } (by simp) rfl _ rfl
            have e8' := get_some e8 (by simp [undef])
            have e10 : act.tmps.getD 95 undef = (.int .i64 b : Value) := hdep { on := 10, ground := .data } (by simp) rfl _ rfl
            have e11 : act.tmps.getD 96 undef = (.int .i64 b : Value) := hdep { on := 11, ground := .data } (by simp) rfl _ rfl
            clear hdep hL
            refine wpOp_step rfl (fun K hK => ?_)
            go_simp
            exact hK _ _ ⟨_, rfl, (fun h => by cases h), (by first | rfl | (exact congrArg (Value.int .i64) (by first | rfl | (rw [IntWalk.i64_left, IntWalk.wrap64_in _ (by omega)]) | omega)) | (simp; done) | (simp; omega) | (simp; rw [Int.tmod_eq_emod_of_nonneg (by omega)]; omega)), But.refl _ _, trivial⟩
          · cases ho
            intro fu act u hW hB hsz hL hdep
            replace hB := hB [] (fun j hj hd k hk => by
              cases hk)
            have e8 : act.tmps.getD 93 undef = (.bool true : Value) := hdep { on := 8, ground := .data } (by simp) rfl _ rfl
            have e12 : act.tmps.getD 97 undef = (.bool true : Value) := hdep { on := 12, ground := .data } (by simp) rfl _ rfl
            clear hdep hL
            refine wpOp_step rfl (fun K hK => ?_)
            go_simp
            exact hK _ _ ⟨_, rfl, (fun h => by cases h), (by first | rfl | (exact congrArg (Value.int .i64) (by first | rfl | (rw [IntWalk.i64_left, IntWalk.wrap64_in _ (by omega)]) | omega)) | (simp; done) | (simp; omega) | (simp; rw [Int.tmod_eq_emod_of_nonneg (by omega)]; omega)), But.refl _ _, trivial⟩
          · cases ho
            intro fu act u hW hB hsz hL hdep
            replace hB := hB [] (fun j hj hd k hk => by
              cases hk)
            have e13 : act.tmps.getD 98 undef = (.bool true : Value) := hdep { on := 13, ground := .data } (by simp) rfl _ rfl
            clear hdep hL
            refine wpOp_step rfl (fun K hK => ?_)
            go_simp
            exact hK _ _ ⟨_, rfl, (fun h => by cases h), (by first | rfl | (exact congrArg (Value.int .i64) (by first | rfl | (rw [IntWalk.i64_left, IntWalk.wrap64_in _ (by omega)]) | omega)) | (simp; done) | (simp; omega) | (simp; rw [Int.tmod_eq_emod_of_nonneg (by omega)]; omega)), But.refl _ _, trivial⟩
          · cases ho
            intro fu act u hW hB hsz hL hdep
            replace hB := hB [] (fun j hj hd k hk => by
              cases hk)
            have e14 : act.tmps.getD 99 undef = (.bool true : Value) := hdep { on := 14, ground := .guard } (by simp) rfl _ rfl
            have e14' := get_some e14 (by simp [undef])
            have x10 : act.tmps.getD 10 undef = (.pointer (some ⟨N_y + 1, 0, none⟩) : Value) := (hL.2.2 10 (no_dst (by kernel_rfl))).trans rfl
            clear hdep hL
            refine wpOp_step rfl (fun K hK => ?_)
            go_simp
            exact hK _ _ ⟨_, rfl, (fun h => by cases h), (by first | rfl | (exact congrArg (Value.int .i64) (by first | rfl | (rw [IntWalk.i64_left, IntWalk.wrap64_in _ (by omega)]) | omega)) | (simp; done) | (simp; omega) | (simp; rw [Int.tmod_eq_emod_of_nonneg (by omega)]; omega)), But.refl _ _, trivial⟩
          · cases ho
            intro fu act u hW hB hsz hL hdep
            replace hB := hB [] (fun j hj hd k hk => by
              cases hk)
            have e14 : act.tmps.getD 99 undef = (.bool true : Value) := hdep { on := 14, ground := .guard } (by simp) rfl _ rfl
            have e14' := get_some e14 (by simp [undef])
            have e15 : act.tmps.getD 100 undef = (.pointer (some ⟨N_y + 1, 4, none⟩) : Value) := hdep { on := 15, ground := .data } (by simp) rfl _ rfl
            clear hdep hL
            have c75 : u.cell? ⟨N_y + 1, 4, none⟩ = some (.int .i64 b) := (B_ey.out.but hB (by first | (simp; done) | (simp; omega))).cel 4 (by simp)
            refine wpOp_step rfl (fun K hK => ?_)
            go_simp
            exact hK _ _ ⟨_, rfl, (fun h => by cases h), (by first | rfl | (exact congrArg (Value.int .i64) (by first | rfl | (rw [IntWalk.i64_left, IntWalk.wrap64_in _ (by omega)]) | omega)) | (simp; done) | (simp; omega) | (simp; rw [Int.tmod_eq_emod_of_nonneg (by omega)]; omega)), But.refl _ _, trivial⟩
          · cases ho
            intro fu act u hW hB hsz hL hdep
            replace hB := hB [] (fun j hj hd k hk => by
              cases hk)
            have e14 : act.tmps.getD 99 undef = (.bool true : Value) := hdep { on := 14, ground := .guard } (by simp) rfl _ rfl
            have e14' := get_some e14 (by simp [undef])
            have x4 : act.tmps.getD 4 undef = (.int .i64 b : Value) := (hL.2.2 4 (no_dst (by kernel_rfl))).trans rfl
            clear hdep hL
            refine wpOp_step rfl (fun K hK => ?_)
            go_simp
            exact hK _ _ ⟨_, rfl, (fun h => by cases h), (by first | rfl | (exact congrArg (Value.int .i64) (by first | rfl | (rw [IntWalk.i64_left, IntWalk.wrap64_in _ (by omega)]) | omega)) | (simp; done) | (simp; omega) | (simp; rw [Int.tmod_eq_emod_of_nonneg (by omega)]; omega)), But.refl _ _, trivial⟩
          · cases ho
            intro fu act u hW hB hsz hL hdep
            replace hB := hB [] (fun j hj hd k hk => by
              cases hk)
            have e14 : act.tmps.getD 99 undef = (.bool true : Value) := hdep { on := 14, ground := .guard } (by simp) rfl _ rfl
            have e14' := get_some e14 (by simp [undef])
            have e16 : act.tmps.getD 101 undef = (.int .i64 b : Value) := hdep { on := 16, ground := .data } (by simp) rfl _ rfl
            have e17 : act.tmps.getD 102 undef = (.int .i64 b : Value) := hdep { on := 17, ground := .data } (by simp) rfl _ rfl
            clear hdep hL
            refine wpOp_step rfl (fun K hK => ?_)
            go_simp
            exact hK _ _ ⟨_, rfl, (fun h => by cases h), (by first | rfl | (exact congrArg (Value.int .i64) (by first | rfl | (rw [IntWalk.i64_left, IntWalk.wrap64_in _ (by omega)]) | omega)) | (simp; done) | (simp; omega) | (simp; rw [Int.tmod_eq_emod_of_nonneg (by omega)]; omega)), But.refl _ _, trivial⟩
          · cases ho
            intro fu act u hW hB hsz hL hdep
            replace hB := hB [] (fun j hj hd k hk => by
              cases hk)
            have e14 : act.tmps.getD 99 undef = (.bool true : Value) := hdep { on := 14, ground := .data } (by simp) rfl _ rfl
            have e18 : act.tmps.getD 103 undef = (.bool true : Value) := hdep { on := 18, ground := .data } (by simp) rfl _ rfl
            clear hdep hL
            refine wpOp_step rfl (fun K hK => ?_)
            go_simp
            exact hK _ _ ⟨_, rfl, (fun h => by cases h), (by first | rfl | (exact congrArg (Value.int .i64) (by first | rfl | (rw [IntWalk.i64_left, IntWalk.wrap64_in _ (by omega)]) | omega)) | (simp; done) | (simp; omega) | (simp; rw [Int.tmod_eq_emod_of_nonneg (by omega)]; omega)), But.refl _ _, trivial⟩
          · cases ho
            intro fu act u hW hB hsz hL hdep
            replace hB := hB [] (fun j hj hd k hk => by
              cases hk)
            have e19 : act.tmps.getD 104 undef = (.bool true : Value) := hdep { on := 19, ground := .data } (by simp) rfl _ rfl
            clear hdep hL
            refine wpOp_step rfl (fun K hK => ?_)
            go_simp
            exact hK _ _ ⟨_, rfl, (fun h => by cases h), (by first | rfl | (exact congrArg (Value.int .i64) (by first | rfl | (rw [IntWalk.i64_left, IntWalk.wrap64_in _ (by omega)]) | omega)) | (simp; done) | (simp; omega) | (simp; rw [Int.tmod_eq_emod_of_nonneg (by omega)]; omega)), But.refl _ _, trivial⟩
          · cases ho
            intro fu act u hW hB hsz hL hdep
            replace hB := hB [] (fun j hj hd k hk => by
              cases hk)
            have e20 : act.tmps.getD 105 undef = (.bool true : Value) := hdep { on := 20, ground := .guard } (by simp) rfl _ rfl
            have e20' := get_some e20 (by simp [undef])
            have x9 : act.tmps.getD 9 undef = (.pointer (some ⟨N_y, 0, none⟩) : Value) := (hL.2.2 9 (no_dst (by kernel_rfl))).trans rfl
            clear hdep hL
            refine wpOp_step rfl (fun K hK => ?_)
            go_simp
            exact hK _ _ ⟨_, rfl, (fun h => by cases h), (by first | rfl | (exact congrArg (Value.int .i64) (by first | rfl | (rw [IntWalk.i64_left, IntWalk.wrap64_in _ (by omega)]) | omega)) | (simp; done) | (simp; omega) | (simp; rw [Int.tmod_eq_emod_of_nonneg (by omega)]; omega)), But.refl _ _, trivial⟩
          · cases ho
            intro fu act u hW hB hsz hL hdep
            replace hB := hB [] (fun j hj hd k hk => by
              cases hk)
            have e20 : act.tmps.getD 105 undef = (.bool true : Value) := hdep { on := 20, ground := .guard } (by simp) rfl _ rfl
            have e20' := get_some e20 (by simp [undef])
            have e21 : act.tmps.getD 106 undef = (.pointer (some ⟨N_y, 1, none⟩) : Value) := hdep { on := 21, ground := .data } (by simp) rfl _ rfl
            clear hdep hL
            have c76 : u.cell? ⟨N_y, 1, none⟩ = some (.slice (some ⟨y1, 0, none⟩) 8 yr) := (B_sy.out.but hB (by first | (simp; done) | (simp; omega))).cel 1 (by simp)
            refine wpOp_step rfl (fun K hK => ?_)
            go_simp
            exact hK _ _ ⟨_, rfl, (fun h => by cases h), (by first | rfl | (exact congrArg (Value.int .i64) (by first | rfl | (rw [IntWalk.i64_left, IntWalk.wrap64_in _ (by omega)]) | omega)) | (simp; done) | (simp; omega) | (simp; rw [Int.tmod_eq_emod_of_nonneg (by omega)]; omega)), But.refl _ _, trivial⟩
          · cases ho
            intro fu act u hW hB hsz hL hdep
            replace hB := hB [] (fun j hj hd k hk => by
              cases hk)
            have e20 : act.tmps.getD 105 undef = (.bool true : Value) := hdep { on := 20, ground := .guard } (by simp) rfl _ rfl
            have e20' := get_some e20 (by simp [undef])
            have e22 : act.tmps.getD 107 undef = (.slice (some ⟨y1, 0, none⟩) 8 yr : Value) := hdep { on := 22, ground := .data } (by simp) rfl _ rfl
            clear hdep hL
            refine wpOp_step rfl (fun K hK => ?_)
            go_simp
            exact hK _ _ ⟨_, rfl, (fun h => by cases h), (by first | rfl | (exact congrArg (Value.int .i64) (by first | rfl | (rw [IntWalk.i64_left, IntWalk.wrap64_in _ (by omega)]) | omega)) | (simp; done) | (simp; omega) | (simp; rw [Int.tmod_eq_emod_of_nonneg (by omega)]; omega)), But.refl _ _, trivial⟩
          · cases ho
            intro fu act u hW hB hsz hL hdep
            replace hB := hB [] (fun j hj hd k hk => by
              cases hk)
            have e20 : act.tmps.getD 105 undef = (.bool true : Value) := hdep { on := 20, ground := .guard } (by simp) rfl _ rfl
            have e20' := get_some e20 (by simp [undef])
            have e23 : act.tmps.getD 108 undef = (.pointer (some ⟨y1, 3, none⟩) : Value) := hdep { on := 23, ground := .data } (by simp) rfl _ rfl
            clear hdep hL
            have r77 : u.cell? ⟨y1, 3, none⟩ = some (.int .i64 b) := ((O_y.out.but hB (by first | (simp; done) | (simp; omega)) (by first | (simp; done) | (simp; omega)) (by first | (simp; done) | (simp; omega))).R.cel 3 (by rw [L_y.out.Rl]; omega)).trans (congrArg (fun x => some (Value.int .i64 x)) (show ((pgR ad b).set 3 b).getD 3 0 = b from rfl))
            refine wpOp_step rfl (fun K hK => ?_)
            go_simp
            exact hK _ _ ⟨_, rfl, (fun h => by cases h), (by first | rfl | (exact congrArg (Value.int .i64) (by first | rfl | (rw [IntWalk.i64_left, IntWalk.wrap64_in _ (by omega)]) | omega)) | (simp; done) | (simp; omega) | (simp; rw [Int.tmod_eq_emod_of_nonneg (by omega)]; omega)), But.refl _ _, trivial⟩
          · cases ho
            intro fu act u hW hB hsz hL hdep
            replace hB := hB [] (fun j hj hd k hk => by
              cases hk)
            have e20 : act.tmps.getD 105 undef = (.bool true : Value) := hdep { on := 20, ground := .guard } (by simp) rfl _ rfl
            have e20' := get_some e20 (by simp [undef])
            have x4 : act.tmps.getD 4 undef = (.int .i64 b : Value) := (hL.2.2 4 (no_dst (by kernel_rfl))).trans rfl
            clear hdep hL
            refine wpOp_step rfl (fun K hK => ?_)
            go_simp
            exact hK _ _ ⟨_, rfl, (fun h => by cases h), (by first | rfl | (exact congrArg (Value.int .i64) (by first | rfl | (rw [IntWalk.i64_left, IntWalk.wrap64_in _ (by omega)]) | omega)) | (simp; done) | (simp; omega) | (simp; rw [Int.tmod_eq_emod_of_nonneg (by omega)]; omega)), But.refl _ _, trivial⟩
          · cases ho
            intro fu act u hW hB hsz hL hdep
            replace hB := hB [] (fun j hj hd k hk => by
              cases hk)
            have e20 : act.tmps.getD 105 undef = (.bool true : Value) := hdep { on := 20, ground := .guard } (by simp) rfl _ rfl
            have e20' := get_some e20 (by simp [undef])
            have e24 : act.tmps.getD 109 undef = (.int .i64 b : Value) := hdep { on := 24, ground := .data } (by simp) rfl _ rfl
            have e25 : act.tmps.getD 110 undef = (.int .i64 b : Value) := hdep { on := 25, ground := .data } (by simp) rfl _ rfl
            clear hdep hL
            refine wpOp_step rfl (fun K hK => ?_)
            go_simp
            exact hK _ _ ⟨_, rfl, (fun h => by cases h), (by first | rfl | (exact congrArg (Value.int .i64) (by first | rfl | (rw [IntWalk.i64_left, IntWalk.wrap64_in _ (by omega)]) | omega)) | (simp; done) | (simp; omega) | (simp; rw [Int.tmod_eq_emod_of_nonneg (by omega)]; omega)), But.refl _ _, trivial⟩
          · cases ho
            intro fu act u hW hB hsz hL hdep
            replace hB := hB [] (fun j hj hd k hk => by
              cases hk)
            have e20 : act.tmps.getD 105 undef = (.bool true : Value) := hdep { on := 20, ground := .data } (by simp) rfl _ rfl
            have e26 : act.tmps.getD 111 undef = (.bool true : Value) := hdep { on := 26, ground := .data } (by simp) rfl _ rfl
            clear hdep hL
            refine wpOp_step rfl (fun K hK => ?_)
            go_simp
            exact hK _ _ ⟨_, rfl, (fun h => by cases h), (by first | rfl | (exact congrArg (Value.int .i64) (by first | rfl | (rw [IntWalk.i64_left, IntWalk.wrap64_in _ (by omega)]) | omega)) | (simp; done) | (simp; omega) | (simp; rw [Int.tmod_eq_emod_of_nonneg (by omega)]; omega)), But.refl _ _, trivial⟩
          · cases ho
            intro fu act u hW hB hsz hL hdep
            replace hB := hB [] (fun j hj hd k hk => by
              cases hk)
            have e27 : act.tmps.getD 112 undef = (.bool true : Value) := hdep { on := 27, ground := .data } (by simp) rfl _ rfl
            clear hdep hL
            refine wpOp_step rfl (fun K hK => ?_)
            go_simp
            exact hK _ _ ⟨_, rfl, (fun h => by cases h), (by first | rfl | (exact congrArg (Value.int .i64) (by first | rfl | (rw [IntWalk.i64_left, IntWalk.wrap64_in _ (by omega)]) | omega)) | (simp; done) | (simp; omega) | (simp; rw [Int.tmod_eq_emod_of_nonneg (by omega)]; omega)), But.refl _ _, trivial⟩
          · cases ho
            intro fu act u hW hB hsz hL hdep
            replace hB := hB [] (fun j hj hd k hk => by
              cases hk)
            have e28 : act.tmps.getD 113 undef = (.bool true : Value) := hdep { on := 28, ground := .guard } (by simp) rfl _ rfl
            have e28' := get_some e28 (by simp [undef])
            have x12 : act.tmps.getD 12 undef = (.pointer (some ⟨N_z + 1, 0, none⟩) : Value) := (hL.2.2 12 (no_dst (by kernel_rfl))).trans rfl
            clear hdep hL
            refine wpOp_step rfl (fun K hK => ?_)
            go_simp
            exact hK _ _ ⟨_, rfl, (fun h => by cases h), (by first | rfl | (exact congrArg (Value.int .i64) (by first | rfl | (rw [IntWalk.i64_left, IntWalk.wrap64_in _ (by omega)]) | omega)) | (simp; done) | (simp; omega) | (simp; rw [Int.tmod_eq_emod_of_nonneg (by omega)]; omega)), But.refl _ _, trivial⟩
          · cases ho
            intro fu act u hW hB hsz hL hdep
            replace hB := hB [] (fun j hj hd k hk => by
              cases hk)
            have e28 : act.tmps.getD 113 undef = (.bool true : Value) := hdep { on := 28, ground := .guard } (by simp) rfl _ rfl
            have e28' := get_some e28 (by simp [undef])
            have e29 : act.tmps.getD 114 undef = (.pointer (some ⟨N_z + 1, 2, none⟩) : Value) := hdep { on := 29, ground := .data } (by simp) rfl _ rfl
            clear hdep hL
            have c78 : u.cell? ⟨N_z + 1, 2, none⟩ = some (.int .i64 4) := (B_ez.out.but hB (by first | (simp; done) | (simp; omega))).cel 2 (by simp)
            refine wpOp_step rfl (fun K hK => ?_)
            go_simp
            exact hK _ _ ⟨_, rfl, (fun h => by cases h), (by first | rfl | (exact congrArg (Value.int .i64) (by first | rfl | (rw [IntWalk.i64_left, IntWalk.wrap64_in _ (by omega)]) | omega)) | (simp; done) | (simp; omega) | (simp; rw [Int.tmod_eq_emod_of_nonneg (by omega)]; omega)), But.refl _ _, trivial⟩
          · cases ho
            intro fu act u hW hB hsz hL hdep
            replace hB := hB [] (fun j hj hd k hk => by
              cases hk)
            have e28 : act.tmps.getD 113 undef = (.bool true : Value) := hdep { on := 28, ground := .guard } (by simp) rfl _ rfl
            have e28' := get_some e28 (by simp [undef])
            have e30 : act.tmps.getD 115 undef = (.int .i64 4 : Value) := hdep { on := 30, ground := .data } (by simp) rfl _ rfl
            clear hdep hL
            refine wpOp_step rfl (fun K hK => ?_)
            go_simp
            exact hK _ _ ⟨_, rfl, (fun h => by cases h), (by first | rfl | (exact congrArg (Value.int .i64) (by first | rfl | (rw [IntWalk.i64_left, IntWalk.wrap64_in _ (by omega)]) | omega)) | (simp; done) | (simp; omega) | (simp; rw [Int.tmod_eq_emod_of_nonneg (by omega)]; omega)), But.refl _ _, trivial⟩
          · cases ho
            intro fu act u hW hB hsz hL hdep
            replace hB := hB [] (fun j hj hd k hk => by
              cases hk)
            have e28 : act.tmps.getD 113 undef = (.bool true : Value) := hdep { on := 28, ground := .data } (by simp) rfl _ rfl
            have e31 : act.tmps.getD 116 undef = (.bool true : Value) := hdep { on := 31, ground := .data } (by simp) rfl _ rfl
            clear hdep hL
            refine wpOp_step rfl (fun K hK => ?_)
            go_simp
            exact hK _ _ ⟨_, rfl, (fun h => by cases h), (by first | rfl | (exact congrArg (Value.int .i64) (by first | rfl | (rw [IntWalk.i64_left, IntWalk.wrap64_in _ (by omega)]) | omega)) | (simp; done) | (simp; omega) | (simp; rw [Int.tmod_eq_emod_of_nonneg (by omega)]; omega)), But.refl _ _, trivial⟩
          · cases ho
            intro fu act u hW hB hsz hL hdep
            replace hB := hB [] (fun j hj hd k hk => by
              cases hk)
            have e32 : act.tmps.getD 117 undef = (.bool true : Value) := hdep { on := 32, ground := .data } (by simp) rfl _ rfl
            clear hdep hL
            refine wpOp_step rfl (fun K hK => ?_)
            go_simp
            exact hK _ _ ⟨_, rfl, (fun h => by cases h), (by first | rfl | (exact congrArg (Value.int .i64) (by first | rfl | (rw [IntWalk.i64_left, IntWalk.wrap64_in _ (by omega)]) | omega)) | (simp; done) | (simp; omega) | (simp; rw [Int.tmod_eq_emod_of_nonneg (by omega)]; omega)), But.refl _ _, trivial⟩
          · cases ho
            intro fu act u hW hB hsz hL hdep
            replace hB := hB [] (fun j hj hd k hk => by
              cases hk)
            have e33 : act.tmps.getD 118 undef = (.bool true : Value) := hdep { on := 33, ground := .guard } (by simp) rfl _ rfl
            have e33' := get_some e33 (by simp [undef])
            have x11 : act.tmps.getD 11 undef = (.pointer (some ⟨N_z, 0, none⟩) : Value) := (hL.2.2 11 (no_dst (by kernel_rfl))).trans rfl
            clear hdep hL
            refine wpOp_step rfl (fun K hK => ?_)
            go_simp
            exact hK _ _ ⟨_, rfl, (fun h => by cases h), (by first | rfl | (exact congrArg (Value.int .i64) (by first | rfl | (rw [IntWalk.i64_left, IntWalk.wrap64_in _ (by omega)]) | omega)) | (simp; done) | (simp; omega) | (simp; rw [Int.tmod_eq_emod_of_nonneg (by omega)]; omega)), But.refl _ _, trivial⟩
          · cases ho
            intro fu act u hW hB hsz hL hdep
            replace hB := hB [] (fun j hj hd k hk => by
              cases hk)
            have e33 : act.tmps.getD 118 undef = (.bool true : Value) := hdep { on := 33, ground := .guard } (by simp) rfl _ rfl
            have e33' := get_some e33 (by simp [undef])
            have e34 : act.tmps.getD 119 undef = (.pointer (some ⟨N_z, 0, none⟩) : Value) := hdep { on := 34, ground := .data } (by simp) rfl _ rfl
            clear hdep hL
            have c79 : u.cell? ⟨N_z, 0, none⟩ = some (.int .i64 8) := (B_sz.out.but hB (by first | (simp; done) | (simp; omega))).cel 0 (by simp)
            refine wpOp_step rfl (fun K hK => ?_)
            go_simp
            exact hK _ _ ⟨_, rfl, (fun h => by cases h), (by first | rfl | (exact congrArg (Value.int .i64) (by first | rfl | (rw [IntWalk.i64_left, IntWalk.wrap64_in _ (by omega)]) | omega)) | (simp; done) | (simp; omega) | (simp; rw [Int.tmod_eq_emod_of_nonneg (by omega)]; omega)), But.refl _ _, trivial⟩
          · cases ho
            intro fu act u hW hB hsz hL hdep
            replace hB := hB [] (fun j hj hd k hk => by
              cases hk)
            have e33 : act.tmps.getD 118 undef = (.bool true : Value) := hdep { on := 33, ground := .guard } (by simp) rfl _ rfl
            have e33' := get_some e33 (by simp [undef])
            have e35 : act.tmps.getD 120 undef = (.int .i64 8 : Value) := hdep { on := 35, ground := .data } (by simp) rfl _ rfl
            clear hdep hL
            refine wpOp_step rfl (fun K hK => ?_)
            go_simp
            exact hK _ _ ⟨_, rfl, (fun h => by cases h), (by first | rfl | (exact congrArg (Value.int .i64) (by first | rfl | (rw [IntWalk.i64_left, IntWalk.wrap64_in _ (by omega)]) | omega)) | (simp; done) | (simp; omega) | (simp; rw [Int.tmod_eq_emod_of_nonneg (by omega)]; omega)), But.refl _ _, trivial⟩
          · cases ho
            intro fu act u hW hB hsz hL hdep
            replace hB := hB [] (fun j hj hd k hk => by
              cases hk)
            have e33 : act.tmps.getD 118 undef = (.bool true : Value) := hdep { on := 33, ground := .data } (by simp) rfl _ rfl
            have e36 : act.tmps.getD 121 undef = (.bool true : Value) := hdep { on := 36, ground := .data } (by simp) rfl _ rfl
            clear hdep hL
            refine wpOp_step rfl (fun K hK => ?_)
            go_simp
            exact hK _ _ ⟨_, rfl, (fun h => by cases h), (by first | rfl | (exact congrArg (Value.int .i64) (by first | rfl | (rw [IntWalk.i64_left, IntWalk.wrap64_in _ (by omega)]) | omega)) | (simp; done) | (simp; omega) | (simp; rw [Int.tmod_eq_emod_of_nonneg (by omega)]; omega)), But.refl _ _, trivial⟩
          · cases ho
            intro fu act u hW hB hsz hL hdep
            replace hB := hB [] (fun j hj hd k hk => by
              cases hk)
            have e37 : act.tmps.getD 122 undef = (.bool true : Value) := hdep { on := 37, ground := .data } (by simp) rfl _ rfl
            clear hdep hL
            refine wpOp_step rfl (fun K hK => ?_)
            go_simp
            exact hK _ _ ⟨_, rfl, (fun h => by cases h), (by first | rfl | (exact congrArg (Value.int .i64) (by first | rfl | (rw [IntWalk.i64_left, IntWalk.wrap64_in _ (by omega)]) | omega)) | (simp; done) | (simp; omega) | (simp; rw [Int.tmod_eq_emod_of_nonneg (by omega)]; omega)), But.refl _ _, trivial⟩
          · cases ho
            intro fu act u hW hB hsz hL hdep
            replace hB := hB [] (fun j hj hd k hk => by
              cases hk)
            have e38 : act.tmps.getD 123 undef = (.bool true : Value) := hdep { on := 38, ground := .guard } (by simp) rfl _ rfl
            have e38' := get_some e38 (by simp [undef])
            have x6 : act.tmps.getD 6 undef = (.pointer (some ⟨N_s, 0, none⟩) : Value) := (hL.2.2 6 (no_dst (by kernel_rfl))).trans rfl
            clear hdep hL
            have c80 : u.cell? ⟨N_s, 0, none⟩ = some (.int .i64 0) := (B_ss.out.but hB (by first | (simp; done) | (simp; omega))).cel 0 (by simp)
            have c81 : u.cell? ⟨N_s, 1, none⟩ = some (.slice (some ⟨s1, 0, none⟩) 8 sr) := (B_ss.out.but hB (by first | (simp; done) | (simp; omega))).cel 1 (by simp)
            have c82 : u.cell? ⟨N_s, 2, none⟩ = some (.slice (some ⟨s2, 0, none⟩) 5 sc) := (B_ss.out.but hB (by first | (simp; done) | (simp; omega))).cel 2 (by simp)
            have c83 : u.cell? ⟨N_s, 3, none⟩ = some (.slice (some ⟨s3, 0, none⟩) 256 sm) := (B_ss.out.but hB (by first | (simp; done) | (simp; omega))).cel 3 (by simp)
            refine wpOp_step rfl (fun K hK => ?_)
            go_simp
            exact hK _ _ ⟨_, rfl, (fun h => by cases h), (by first | rfl | (exact congrArg (Value.int .i64) (by first | rfl | (rw [IntWalk.i64_left, IntWalk.wrap64_in _ (by omega)]) | omega)) | (simp; done) | (simp; omega) | (simp; rw [Int.tmod_eq_emod_of_nonneg (by omega)]; omega)), But.refl _ _, trivial⟩
          · cases ho
            intro fu act u hW hB hsz hL hdep
            replace hB := hB [] (fun j hj hd k hk => by
              cases hk)
            have e38 : act.tmps.getD 123 undef = (.bool true : Value) := hdep { on := 38, ground := .guard } (by simp) rfl _ rfl
            have e38' := get_some e38 (by simp [undef])
            have x4 : act.tmps.getD 4 undef = (.int .i64 b : Value) := (hL.2.2 4 (no_dst (by kernel_rfl))).trans rfl
            clear hdep hL
            refine wpOp_step rfl (fun K hK => ?_)
            go_simp
            exact hK _ _ ⟨_, rfl, (fun h => by cases h), (by first | rfl | (exact congrArg (Value.int .i64) (by first | rfl | (rw [IntWalk.i64_left, IntWalk.wrap64_in _ (by omega)]) | omega)) | (simp; done) | (simp; omega) | (simp; rw [Int.tmod_eq_emod_of_nonneg (by omega)]; omega)), But.refl _ _, trivial⟩
          · cases ho
            intro fu act u hW hB hsz hL hdep
            replace hB := hB [] (fun j hj hd k hk => by
              cases hk)
            have e38 : act.tmps.getD 123 undef = (.bool true : Value) := hdep { on := 38, ground := .guard } (by simp) rfl _ rfl
            have e38' := get_some e38 (by simp [undef])
            have e40 : act.tmps.getD 125 undef = (.int .i64 b : Value) := hdep { on := 40, ground := .data } (by simp) rfl _ rfl
            clear hdep hL
            refine wpOp_step rfl (fun K hK => ?_)
            go_simp
            exact hK _ _ ⟨_, rfl, (fun h => by cases h), (by first | rfl | (exact congrArg (Value.int .i64) (by first | rfl | (rw [IntWalk.i64_left, IntWalk.wrap64_in _ (by omega)]) | omega)) | (simp; done) | (simp; omega) | (simp; rw [Int.tmod_eq_emod_of_nonneg (by omega)]; omega)), But.refl _ _, trivial⟩
          · cases ho
            intro fu act u hW hB hsz hL hdep
            replace hB := hB [] (fun j hj hd k hk => by
              cases hk)
            have e38 : act.tmps.getD 123 undef = (.bool true : Value) := hdep { on := 38, ground := .guard } (by simp) rfl _ rfl
            have e38' := get_some e38 (by simp [undef])
            have e41 : act.tmps.getD 126 undef = (.int .i64 c : Value) := hdep { on := 41, ground := .data } (by simp) rfl _ rfl
            clear hdep hL
            refine wpOp_step rfl (fun K hK => ?_)
            go_simp
            exact hK _ _ ⟨_, rfl, (fun h => by cases h), (by first | rfl | (exact congrArg (Value.int .i64) (by first | rfl | (rw [IntWalk.i64_left, IntWalk.wrap64_in _ (by omega)]) | omega)) | (simp; done) | (simp; omega) | (simp; rw [Int.tmod_eq_emod_of_nonneg (by omega)]; omega)), But.refl _ _, trivial⟩
          · cases ho
            intro fu act u hW hB hsz hL hdep
            replace hB := hB [] (fun j hj hd k hk => by
              cases hk)
            have e38 : act.tmps.getD 123 undef = (.bool true : Value) := hdep { on := 38, ground := .chain } (by simp) rfl _ rfl
            have e38' := get_some e38 (by simp [undef])
            have e39 : act.tmps.getD 124 undef = (.agg #[.int .i64 0, .slice (some ⟨s1, 0, none⟩) 8 sr, .slice (some ⟨s2, 0, none⟩) 5 sc, .slice (some ⟨s3, 0, none⟩) 256 sm] : Value) := hdep { on := 39, ground := .data } (by simp) rfl _ rfl
            have e42 : act.tmps.getD 127 undef = (.int .i64 ad : Value) := hdep { on := 42, ground := .data } (by simp) rfl _ rfl
            clear hdep hL
            refine wpOp_step rfl (fun K hK => ?_)
            go_simp
            refine (pag_to (s := ⟨0, pgR ad b, pgC, pgM fr wd1 wd2 wd3⟩) (O_s.out.fr (fr_but (L := []) (Below.refl u72.heap.size u72) hB (fun k hk => by cases hk))) HK0.out rfl HAD2.out HS1.out).mono ?_
            rintro e u' ⟨rfl, f'⟩
            go_simp
            exact hK _ _ ⟨_, rfl, (fun h => by cases h), rfl, But.of f', trivial⟩
          · cases ho
            intro fu act u hW hB hsz hL hdep
            replace hB := hB [] (fun j hj hd k hk => by
              cases hk)
            have e38 : act.tmps.getD 123 undef = (.bool true : Value) := hdep { on := 38, ground := .guard } (by simp) rfl _ rfl
            have e38' := get_some e38 (by simp [undef])
            have x8 : act.tmps.getD 8 undef = (.pointer (some ⟨N_x + 1, 0, none⟩) : Value) := (hL.2.2 8 (no_dst (by kernel_rfl))).trans rfl
            clear hdep hL
            refine wpOp_step rfl (fun K hK => ?_)
            go_simp
            exact hK _ _ ⟨_, rfl, (fun h => by cases h), (by first | rfl | (exact congrArg (Value.int .i64) (by first | rfl | (rw [IntWalk.i64_left, IntWalk.wrap64_in _ (by omega)]) | omega)) | (simp; done) | (simp; omega) | (simp; rw [Int.tmod_eq_emod_of_nonneg (by omega)]; omega)), But.refl _ _, trivial⟩
          · cases ho
            intro fu act u hW hB hsz hL hdep
            replace hB := hB [] (fun j hj hd k hk => by
              cases hk)
            have e38 : act.tmps.getD 123 undef = (.bool true : Value) := hdep { on := 38, ground := .guard } (by simp) rfl _ rfl
            have e38' := get_some e38 (by simp [undef])
            have e44 : act.tmps.getD 129 undef = (.pointer (some ⟨N_x + 1, 5, none⟩) : Value) := hdep { on := 44, ground := .data } (by simp) rfl _ rfl
            clear hdep hL
            have c84 : u.cell? ⟨N_x + 1, 5, none⟩ = some (.int .i64 q) := (B_ex.out.but hB (by first | (simp; done) | (simp; omega))).cel 5 (by simp)
            refine wpOp_step rfl (fun K hK => ?_)
            go_simp
            exact hK _ _ ⟨_, rfl, (fun h => by cases h), (by first | rfl | (exact congrArg (Value.int .i64) (by first | rfl | (rw [IntWalk.i64_left, IntWalk.wrap64_in _ (by omega)]) | omega)) | (simp; done) | (simp; omega) | (simp; rw [Int.tmod_eq_emod_of_nonneg (by omega)]; omega)), But.refl _ _, trivial⟩
          · cases ho
            intro fu act u hW hB hsz hL hdep
            replace hB := hB [] (fun j hj hd k hk => by
              cases hk)
            have e38 : act.tmps.getD 123 undef = (.bool true : Value) := hdep { on := 38, ground := .guard } (by simp) rfl _ rfl
            have e38' := get_some e38 (by simp [undef])
            have e43 : act.tmps.getD 128 undef = (.int .i64 q : Value) := hdep { on := 43, ground := .data } (by simp) rfl _ rfl
            have e45 : act.tmps.getD 130 undef = (.int .i64 q : Value) := hdep { on := 45, ground := .data } (by simp) rfl _ rfl
            clear hdep hL
            refine wpOp_step rfl (fun K hK => ?_)
            go_simp
            exact hK _ _ ⟨_, rfl, (fun h => by cases h), (by first | rfl | (exact congrArg (Value.int .i64) (by first | rfl | (rw [IntWalk.i64_left, IntWalk.wrap64_in _ (by omega)]) | omega)) | (simp; done) | (simp; omega) | (simp; rw [Int.tmod_eq_emod_of_nonneg (by omega)]; omega)), But.refl _ _, trivial⟩
          · cases ho
            intro fu act u hW hB hsz hL hdep
            replace hB := hB [] (fun j hj hd k hk => by
              cases hk)
            have e38 : act.tmps.getD 123 undef = (.bool true : Value) := hdep { on := 38, ground := .data } (by simp) rfl _ rfl
            have e46 : act.tmps.getD 131 undef = (.bool true : Value) := hdep { on := 46, ground := .data } (by simp) rfl _ rfl
            clear hdep hL
            refine wpOp_step rfl (fun K hK => ?_)
            go_simp
            exact hK _ _ ⟨_, rfl, (fun h => by cases h), (by first | rfl | (exact congrArg (Value.int .i64) (by first | rfl | (rw [IntWalk.i64_left, IntWalk.wrap64_in _ (by omega)]) | omega)) | (simp; done) | (simp; omega) | (simp; rw [Int.tmod_eq_emod_of_nonneg (by omega)]; omega)), But.refl _ _, trivial⟩
          · cases ho
            intro fu act u hW hB hsz hL hdep
            replace hB := hB [] (fun j hj hd k hk => by
              cases hk)
            have e47 : act.tmps.getD 132 undef = (.bool true : Value) := hdep { on := 47, ground := .data } (by simp) rfl _ rfl
            clear hdep hL
            refine wpOp_step rfl (fun K hK => ?_)
            go_simp
            exact hK _ _ ⟨_, rfl, (fun h => by cases h), (by first | rfl | (exact congrArg (Value.int .i64) (by first | rfl | (rw [IntWalk.i64_left, IntWalk.wrap64_in _ (by omega)]) | omega)) | (simp; done) | (simp; omega) | (simp; rw [Int.tmod_eq_emod_of_nonneg (by omega)]; omega)), But.refl _ _, trivial⟩
          · cases ho
            intro fu act u hW hB hsz hL hdep
            replace hB := hB [] (fun j hj hd k hk => by
              cases hk)
            have e48 : act.tmps.getD 133 undef = (.bool true : Value) := hdep { on := 48, ground := .guard } (by simp) rfl _ rfl
            have e48' := get_some e48 (by simp [undef])
            have x6 : act.tmps.getD 6 undef = (.pointer (some ⟨N_s, 0, none⟩) : Value) := (hL.2.2 6 (no_dst (by kernel_rfl))).trans rfl
            clear hdep hL
            have c85 : u.cell? ⟨N_s, 0, none⟩ = some (.int .i64 0) := (B_ss.out.but hB (by first | (simp; done) | (simp; omega))).cel 0 (by simp)
            have c86 : u.cell? ⟨N_s, 1, none⟩ = some (.slice (some ⟨s1, 0, none⟩) 8 sr) := (B_ss.out.but hB (by first | (simp; done) | (simp; omega))).cel 1 (by simp)
            have c87 : u.cell? ⟨N_s, 2, none⟩ = some (.slice (some ⟨s2, 0, none⟩) 5 sc) := (B_ss.out.but hB (by first | (simp; done) | (simp; omega))).cel 2 (by simp)
            have c88 : u.cell? ⟨N_s, 3, none⟩ = some (.slice (some ⟨s3, 0, none⟩) 256 sm) := (B_ss.out.but hB (by first | (simp; done) | (simp; omega))).cel 3 (by simp)
            refine wpOp_step rfl (fun K hK => ?_)
            go_simp
            exact hK _ _ ⟨_, rfl, (fun h => by cases h), (by first | rfl | (exact congrArg (Value.int .i64) (by first | rfl | (rw [IntWalk.i64_left, IntWalk.wrap64_in _ (by omega)]) | omega)) | (simp; done) | (simp; omega) | (simp; rw [Int.tmod_eq_emod_of_nonneg (by omega)]; omega)), But.refl _ _, trivial⟩
          · cases ho
            intro fu act u hW hB hsz hL hdep
            replace hB := hB [] (fun j hj hd k hk => by
              cases hk)
            have e48 : act.tmps.getD 133 undef = (.bool true : Value) := hdep { on := 48, ground := .guard } (by simp) rfl _ rfl
            have e48' := get_some e48 (by simp [undef])
            have x4 : act.tmps.getD 4 undef = (.int .i64 b : Value) := (hL.2.2 4 (no_dst (by kernel_rfl))).trans rfl
            clear hdep hL
            refine wpOp_step rfl (fun K hK => ?_)
            go_simp
            exact hK _ _ ⟨_, rfl, (fun h => by cases h), (by first | rfl | (exact congrArg (Value.int .i64) (by first | rfl | (rw [IntWalk.i64_left, IntWalk.wrap64_in _ (by omega)]) | omega)) | (simp; done) | (simp; omega) | (simp; rw [Int.tmod_eq_emod_of_nonneg (by omega)]; omega)), But.refl _ _, trivial⟩
          · cases ho
            intro fu act u hW hB hsz hL hdep
            replace hB := hB [] (fun j hj hd k hk => by
              cases hk)
            have e48 : act.tmps.getD 133 undef = (.bool true : Value) := hdep { on := 48, ground := .guard } (by simp) rfl _ rfl
            have e48' := get_some e48 (by simp [undef])
            have e50 : act.tmps.getD 135 undef = (.int .i64 b : Value) := hdep { on := 50, ground := .data } (by simp) rfl _ rfl
            clear hdep hL
            refine wpOp_step rfl (fun K hK => ?_)
            go_simp
            exact hK _ _ ⟨_, rfl, (fun h => by cases h), (by first | rfl | (exact congrArg (Value.int .i64) (by first | rfl | (rw [IntWalk.i64_left, IntWalk.wrap64_in _ (by omega)]) | omega)) | (simp; done) | (simp; omega) | (simp; rw [Int.tmod_eq_emod_of_nonneg (by omega)]; omega)), But.refl _ _, trivial⟩
          · cases ho
            intro fu act u hW hB hsz hL hdep
            replace hB := hB [] (fun j hj hd k hk => by
              cases hk)
            have e48 : act.tmps.getD 133 undef = (.bool true : Value) := hdep { on := 48, ground := .guard } (by simp) rfl _ rfl
            have e48' := get_some e48 (by simp [undef])
            have e51 : act.tmps.getD 136 undef = (.int .i64 c : Value) := hdep { on := 51, ground := .data } (by simp) rfl _ rfl
            clear hdep hL
            refine wpOp_step rfl (fun K hK => ?_)
            go_simp
            exact hK _ _ ⟨_, rfl, (fun h => by cases h), (by first | rfl | (exact congrArg (Value.int .i64) (by first | rfl | (rw [IntWalk.i64_left, IntWalk.wrap64_in _ (by omega)]) | omega)) | (simp; done) | (simp; omega) | (simp; rw [Int.tmod_eq_emod_of_nonneg (by omega)]; omega)), But.refl _ _, trivial⟩
          · cases ho
            intro fu act u hW hB hsz hL hdep
            replace hB := hB [] (fun j hj hd k hk => by
              cases hk)
            have e48 : act.tmps.getD 133 undef = (.bool true : Value) := hdep { on := 48, ground := .chain } (by simp) rfl _ rfl
            have e48' := get_some e48 (by simp [undef])
            have e49 : act.tmps.getD 134 undef = (.agg #[.int .i64 0, .slice (some ⟨s1, 0, none⟩) 8 sr, .slice (some ⟨s2, 0, none⟩) 5 sc, .slice (some ⟨s3, 0, none⟩) 256 sm] : Value) := hdep { on := 49, ground := .data } (by simp) rfl _ rfl
            have e52 : act.tmps.getD 137 undef = (.int .i64 (32 + c) : Value) := hdep { on := 52, ground := .data } (by simp) rfl _ rfl
            clear hdep hL
            refine wpOp_step rfl (fun K hK => ?_)
            go_simp
            refine (pag_to (s := ⟨0, pgR ad b, pgC, pgM fr wd1 wd2 wd3⟩) (O_s.out.fr (fr_but (L := []) (Below.refl u72.heap.size u72) hB (fun k hk => by cases hk))) HK0.out rfl HAD3.out HS3.out).mono ?_
            rintro e u' ⟨rfl, f'⟩
            go_simp
            exact hK _ _ ⟨_, rfl, (fun h => by cases h), rfl, But.of f', trivial⟩
          · cases ho
            intro fu act u hW hB hsz hL hdep
            replace hB := hB [] (fun j hj hd k hk => by
              cases hk)
            have e48 : act.tmps.getD 133 undef = (.bool true : Value) := hdep { on := 48, ground := .guard } (by simp) rfl _ rfl
            have e48' := get_some e48 (by simp [undef])
            have e53 : act.tmps.getD 138 undef = (.int .i64 (-1) : Value) := hdep { on := 53, ground := .data } (by simp) rfl _ rfl
            clear hdep hL
            refine wpOp_step rfl (fun K hK => ?_)
            go_simp
            exact hK _ _ ⟨_, rfl, (fun h => by cases h), (by first | rfl | (exact congrArg (Value.int .i64) (by first | rfl | (rw [IntWalk.i64_left, IntWalk.wrap64_in _ (by omega)]) | omega)) | (simp; done) | (simp; omega) | (simp; rw [Int.tmod_eq_emod_of_nonneg (by omega)]; omega)), But.refl _ _, trivial⟩
          · cases ho
            intro fu act u hW hB hsz hL hdep
            replace hB := hB [] (fun j hj hd k hk => by
              cases hk)
            have e48 : act.tmps.getD 133 undef = (.bool true : Value) := hdep { on := 48, ground := .data } (by simp) rfl _ rfl
            have e54 : act.tmps.getD 139 undef = (.bool true : Value) := hdep { on := 54, ground := .data } (by simp) rfl _ rfl
            clear hdep hL
            refine wpOp_step rfl (fun K hK => ?_)
            go_simp
            exact hK _ _ ⟨_, rfl, (fun h => by cases h), (by first | rfl | (exact congrArg (Value.int .i64) (by first | rfl | (rw [IntWalk.i64_left, IntWalk.wrap64_in _ (by omega)]) | omega)) | (simp; done) | (simp; omega) | (simp; rw [Int.tmod_eq_emod_of_nonneg (by omega)]; omega)), But.refl _ _, trivial⟩
          · cases ho
            intro fu act u hW hB hsz hL hdep
            replace hB := hB [] (fun j hj hd k hk => by
              cases hk)
            have e55 : act.tmps.getD 140 undef = (.bool true : Value) := hdep { on := 55, ground := .data } (by simp) rfl _ rfl
            clear hdep hL
            refine wpOp_step rfl (fun K hK => ?_)
            go_simp
            exact hK _ _ ⟨_, rfl, (fun h => by cases h), (by first | rfl | (exact congrArg (Value.int .i64) (by first | rfl | (rw [IntWalk.i64_left, IntWalk.wrap64_in _ (by omega)]) | omega)) | (simp; done) | (simp; omega) | (simp; rw [Int.tmod_eq_emod_of_nonneg (by omega)]; omega)), But.refl _ _, trivial⟩
          · cases ho
            intro fu act u hW hB hsz hL hdep
            replace hB := hB [] (fun j hj hd k hk => by
              cases hk)
            have e56 : act.tmps.getD 141 undef = (.bool true : Value) := hdep { on := 56, ground := .guard } (by simp) rfl _ rfl
            have e56' := get_some e56 (by simp [undef])
            have x6 : act.tmps.getD 6 undef = (.pointer (some ⟨N_s, 0, none⟩) : Value) := (hL.2.2 6 (no_dst (by kernel_rfl))).trans rfl
            clear hdep hL
            have c89 : u.cell? ⟨N_s, 0, none⟩ = some (.int .i64 0) := (B_ss.out.but hB (by first | (simp; done) | (simp; omega))).cel 0 (by simp)
            have c90 : u.cell? ⟨N_s, 1, none⟩ = some (.slice (some ⟨s1, 0, none⟩) 8 sr) := (B_ss.out.but hB (by first | (simp; done) | (simp; omega))).cel 1 (by simp)
            have c91 : u.cell? ⟨N_s, 2, none⟩ = some (.slice (some ⟨s2, 0, none⟩) 5 sc) := (B_ss.out.but hB (by first | (simp; done) | (simp; omega))).cel 2 (by simp)
            have c92 : u.cell? ⟨N_s, 3, none⟩ = some (.slice (some ⟨s3, 0, none⟩) 256 sm) := (B_ss.out.but hB (by first | (simp; done) | (simp; omega))).cel 3 (by simp)
            refine wpOp_step rfl (fun K hK => ?_)
            go_simp
            exact hK _ _ ⟨_, rfl, (fun h => by cases h), (by first | rfl | (exact congrArg (Value.int .i64) (by first | rfl | (rw [IntWalk.i64_left, IntWalk.wrap64_in _ (by omega)]) | omega)) | (simp; done) | (simp; omega) | (simp; rw [Int.tmod_eq_emod_of_nonneg (by omega)]; omega)), But.refl _ _, trivial⟩
          · cases ho
            intro fu act u hW hB hsz hL hdep
            replace hB := hB [] (fun j hj hd k hk => by
              cases hk)
            have e56 : act.tmps.getD 141 undef = (.bool true : Value) := hdep { on := 56, ground := .chain } (by simp) rfl _ rfl
            have e56' := get_some e56 (by simp [undef])
            have e57 : act.tmps.getD 142 undef = (.agg #[.int .i64 0, .slice (some ⟨s1, 0, none⟩) 8 sr, .slice (some ⟨s2, 0, none⟩) 5 sc, .slice (some ⟨s3, 0, none⟩) 256 sm] : Value) := hdep { on := 57, ground := .data } (by simp) rfl _ rfl
            clear hdep hL
            refine wpOp_step rfl (fun K hK => ?_)
            go_simp
            refine (pag_to (s := ⟨0, pgR ad b, pgC, pgM fr wd1 wd2 wd3⟩) (O_s.out.fr (fr_but (L := []) (Below.refl u72.heap.size u72) hB (fun k hk => by cases hk))) HK0.out rfl rfl HS4.out).mono ?_
            rintro e u' ⟨rfl, f'⟩
            go_simp
            exact hK _ _ ⟨_, rfl, (fun h => by cases h), rfl, But.of f', trivial⟩
          · cases ho
            intro fu act u hW hB hsz hL hdep
            replace hB := hB [] (fun j hj hd k hk => by
              cases hk)
            have e56 : act.tmps.getD 141 undef = (.bool true : Value) := hdep { on := 56, ground := .guard } (by simp) rfl _ rfl
            have e56' := get_some e56 (by simp [undef])
            have e58 : act.tmps.getD 143 undef = (.int .i64 (-1) : Value) := hdep { on := 58, ground := .data } (by simp) rfl _ rfl
            clear hdep hL
            refine wpOp_step rfl (fun K hK => ?_)
            go_simp
            exact hK _ _ ⟨_, rfl, (fun h => by cases h), (by first | rfl | (exact congrArg (Value.int .i64) (by first | rfl | (rw [IntWalk.i64_left, IntWalk.wrap64_in _ (by omega)]) | omega)) | (simp; done) | (simp; omega) | (simp; rw [Int.tmod_eq_emod_of_nonneg (by omega)]; omega)), But.refl _ _, trivial⟩
          · cases ho
            intro fu act u hW hB hsz hL hdep
            replace hB := hB [] (fun j hj hd k hk => by
              cases hk)
            have e56 : act.tmps.getD 141 undef = (.bool true : Value) := hdep { on := 56, ground := .data } (by simp) rfl _ rfl
            have e59 : act.tmps.getD 144 undef = (.bool true : Value) := hdep { on := 59, ground := .data } (by simp) rfl _ rfl
            clear hdep hL
            refine wpOp_step rfl (fun K hK => ?_)
            go_simp
            exact hK _ _ ⟨_, rfl, (fun h => by cases h), (by first | rfl | (exact congrArg (Value.int .i64) (by first | rfl | (rw [IntWalk.i64_left, IntWalk.wrap64_in _ (by omega)]) | omega)) | (simp; done) | (simp; omega) | (simp; rw [Int.tmod_eq_emod_of_nonneg (by omega)]; omega)), But.refl _ _, trivial⟩
          · cases ho
            intro fu act u hW hB hsz hL hdep
            replace hB := hB [] (fun j hj hd k hk => by
              cases hk)
            have e60 : act.tmps.getD 145 undef = (.bool true : Value) := hdep { on := 60, ground := .data } (by simp) rfl _ rfl
            clear hdep hL
            refine wpOp_step rfl (fun K hK => ?_)
            go_simp
            exact hK _ _ ⟨_, rfl, (fun h => by cases h), (by first | rfl | (exact congrArg (Value.int .i64) (by first | rfl | (rw [IntWalk.i64_left, IntWalk.wrap64_in _ (by omega)]) | omega)) | (simp; done) | (simp; omega) | (simp; rw [Int.tmod_eq_emod_of_nonneg (by omega)]; omega)), But.refl _ _, trivial⟩
          · exact absurd ho (by simp)
        case fin =>
          intro act u hW hsz hB hL hsf
          replace hB := hB [] (fun j k hk => by
            cases hk)
          have d61 := hsf 61 _ rfl
          obtain ⟨ysl, ha, hy⟩ := hL.puts [85, 86, 87, 88, 89, 90, 91, 92, 93, 94, 95, 96, 97, 98, 99, 100, 101, 102, 103, 104, 105, 106, 107, 108, 109, 110, 111, 112, 113, 114, 115, 116, 117, 118, 119, 120, 121, 122, 123, 124, 125, 126, 127, 128, 129, 130, 131, 132, 133, 134, 135, 136, 137, 138, 139, 140, 141, 142, 143, 144, 145, 2] (by kernel_rfl)
          have e61 : ysl 2 = _ := (hy 2).symm.trans d61
          clear hL hsf hy d61
          simp only [List.foldl, List.setIfInBounds_toArray, List.set_cons_succ, List.set_cons_zero, e61] at ha
          subst ha
          clear e61
          have fB : Fr u72 u := (fr_but (L := []) (Below.refl u72.heap.size u72) hB (fun k hk => by cases hk))
          go_wp2
          go_ret
          exact ⟨rfl, Fr.trans HF.out fB⟩

end Go.Proofs.YtbjapncfgancoaaDoor.fnDoPage
