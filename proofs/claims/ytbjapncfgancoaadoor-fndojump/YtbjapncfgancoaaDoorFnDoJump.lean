/- For every code (any bytes), law FnDoJump returns true and its argument reads as before (no condition; the two tables read as the program's text lays them, which the card ties). -/
import Derived.Test.YtbjapncfgancoaaDoorCards
import Derived.Test.YtbjapncfgancoaaDoorTie
import Derived.Test.YtbjapncfgancoaaDoorLaid
import Derived.Test.YtbjapncfgancoaaDoorSx
import Derived.Test.YtbjapncfgancoaaDoorWords
import Derived.WalkKit
import Derived.ProofKit
import Derived.OpenShut
import Derived.ShutString
import Derived.SliceStrings
import Derived.ChangeOld
import Derived.Below
import Derived.SevenTiedAt
namespace Go.Proofs.YtbjapncfgancoaaDoor.fnDoJump
open Go.ChangeShapes Go.WideShapes Go.ChangeAt Go.RowKit
set_option linter.unusedVariables false

def IsRow (k : IntKind) (w : World) (a : Option Addr) (len cap : Nat) (zs : List Int) : Prop :=
  (a = none ∧ len = 0 ∧ cap = 0 ∧ zs = []) ∨
  ∃ x, a = some x ∧ len ≤ cap ∧ cap ≤ maxLen ∧ zs.length = cap ∧ (∀ i, i < zs.length → w.cell? (x.add i) = some (.int k (zs.getD i 0))) ∧ ∀ n ∈ zs, (Lit.int k n).wf = true

set_option maxRecDepth 100000 in
set_option maxHeartbeats 8000000 in
theorem walk (a0 : Option Addr) (len0 cap0 : Nat) (z0 : List Int) (w : World) (ht : Tabs w) (w0 : IsRow .u8 w a0 len0 cap0 z0) :
    Calls Tryd.prog 10 #[.slice a0 len0 cap0] w fun e w' => e = .returned (.bool true) ∧ Below w.heap.size w w' := by
  have hc : Code1 w.heap.size w a0 len0 cap0 := by
    rcases w0 with ⟨rfl, rfl, rfl, rfl⟩ | ⟨x, rfl, hl, hm, hz, hcell, hwz⟩
    · exact ⟨Nat.le_refl _, Nat.le_refl _, Nat.zero_le _, .inl rfl, fun _ => rfl⟩
    · exact ⟨Nat.le_refl _, hl, hm, bytes_of_row hl hz hcell hwz, by simp⟩
  clear w0
  by_cases hlen : (1048576 : Int) < (len0 : Int)
  · go_enter Tryd.func10, Tryd.ntmps10
    go_wp2
    go_ret
    exact ⟨rfl, Below.refl _ _⟩
  have HT := Lib.hid ht
  have hl : len0 ≤ 1048576 := by omega
  clear ht
  go_enter Tryd.func10, Tryd.ntmps10
  go_wp2_with fail
  refine (laws_haWords w.heap.size a0 len0 cap0 w hc hl).mono ?_
  rintro e w' ⟨a, b, ha, hb, rfl, rfl⟩
  obtain ⟨a0', a1'⟩ := okB_true ha
  obtain ⟨b0', b1'⟩ := okB_true hb
  clear hc hl
  obtain ⟨n, hn⟩ : ∃ x, b % 100 - 50 = x := ⟨_, rfl⟩
  have n0 : -50 ≤ n := by omega
  have n1 : n ≤ 49 := by omega
  obtain ⟨m, hm⟩ : ∃ x, n.tmod 32 = x := ⟨_, rfl⟩
  have m0 : -32 < m := by rw [← hm]; have := Int.lt_tmod_of_pos n (show (0 : Int) < 32 by decide); omega
  have m1 : m < 32 := by rw [← hm]; exact Int.tmod_lt_of_pos n (by decide)
  obtain ⟨p, hp⟩ : ∃ x, 101 + n = x := ⟨_, rfl⟩
  have p0 : 51 ≤ p := by omega
  have p1 : p ≤ 150 := by omega
  obtain ⟨am, ham⟩ : ∃ x, a + m = x := ⟨_, rfl⟩
  have am0 : -32 < am := by omega
  have am1 : am < 70000 := by omega
  obtain ⟨pc2, hpc2⟩ : ∃ x, am % 65536 = x := ⟨_, rfl⟩
  have hi1 : iok 7 3 0 0 0 n = true := by simp [iok, okAt, layN, layL, eL, eG, encL]; omega
  have hi2 : iok 8 3 1 0 0 m = true := by simp [iok, okAt, layN, layL, eL, eG, encL]; omega
  have hi3 : iok 8 0 3 0 0 0 = true := by simp [iok, okAt, layN, layL, eL, eG, encL]
  obtain ⟨wd, hwd⟩ : ∃ x, worD 7 3 0 0 0 n = x := ⟨_, rfl⟩
  obtain ⟨wd2, hwd2⟩ : ∃ x, worD 8 3 1 0 0 m = x := ⟨_, rfl⟩
  obtain ⟨wd3, hwd3⟩ : ∃ x, worD 8 0 3 0 0 0 = x := ⟨_, rfl⟩
  have hst1 : stepS (hS 100 wd a b) false = (⟨p, (hR a b).set 3 101, zeros 5, hM 100 wd⟩, ⟨100, wd, 0, 3, 101, -1, 0⟩) := by
    rw [sup_jump (hS_sup (by omega) (by omega)) hi1 hwd, show (nx (hS 100 wd a b) + n) % 65536 = p from by show (101 + n) % 65536 = p; omega]
    rfl
  have hst2 : stepS (hS 100 wd2 a b) false = (⟨pc2, (hR a b).set 3 101, zeros 5, hM 100 wd2⟩, ⟨100, wd2, 0, 3, 101, -1, 0⟩) := by
    rw [sup_call (hS_sup (by omega) (by omega)) hi2 hwd2, show (rg (hS 100 wd2 a b) 1 + m) % 65536 = pc2 from by show (a + m) % 65536 = pc2; rw [ham]; exact hpc2]
    rfl
  have hk0 : OkS (hS 100 wd a b) := hS_ok (by omega) (by omega) (worD_ok hi1 hwd) ha hb
  have hk1 := step_okS hk0 hst1
  have hk02 : OkS (hS 100 wd2 a b) := hS_ok (by omega) (by omega) (worD_ok hi2 hwd2) ha hb
  have hk2 := step_okS hk02 hst2
  have hk3 : OkS ⟨p, (hR a b).set 3 101, zeros 5, (hM 100 wd).set p.toNat wd3⟩ := lay_okS (a := p) hk1 (by omega) (by omega) (worD_ok hi3 hwd3)
  have hst3 : stepS ⟨p, (hR a b).set 3 101, zeros 5, (hM 100 wd).set p.toNat wd3⟩ false = (⟨101, (hR a b).set 3 101, zeros 5, (hM 100 wd).set p.toNat wd3⟩, ⟨p, wd3, 0, 0, 0, -1, 0⟩) := by
    rw [sup_call (s := ⟨p, (hR a b).set 3 101, zeros 5, (hM 100 wd).set p.toNat wd3⟩) ⟨by show 0 ≤ p; omega, by show p < 256; omega, (hS_sup (pc := 100) (wd := wd) (a := a) (b := b) (by omega) (by omega)).c, by show ((hM 100 wd).set p.toNat wd3).getD p.toNat 0 = wd3; rw [getD_set, if_pos ⟨rfl, by simp [hM, zeros]; omega⟩]⟩ hi3 hwd3]
    rfl
  have HI1 := Lib.hid hi1
  have HI2 := Lib.hid hi2
  have HI3 := Lib.hid hi3
  have HWD := Lib.hid hwd
  have HWD2 := Lib.hid hwd2
  have HWD3 := Lib.hid hwd3
  have HST1 := Lib.hid hst1
  have HST2 := Lib.hid hst2
  have HST3 := Lib.hid hst3
  have HK0 := Lib.hid hk0
  have HK1 := Lib.hid hk1
  have HK2 := Lib.hid hk2
  have HK02 := Lib.hid hk02
  have HK3 := Lib.hid hk3
  have HPC2 := Lib.hid hpc2
  clear hi1 hi2 hi3 hwd hwd2 hwd3 hst1 hst2 hst3 hk0 hk1 hk2 hk02 hk3 hpc2
  have HF : Hid (Fr w w) := Lib.hid (Below.refl _ _)
  go_wp2_with fail
  refine (run_to (s2 := ⟨p, (hR a b).set 3 101, zeros 5, hM 100 wd⟩) (e2 := ⟨100, wd, 0, 3, 101, -1, 0⟩) HI1.out (by omega) (by omega) ha hb HWD.out HST1.out w (HT.out.fr HF.out)).mono ?_
  rintro e u1 ⟨g1, g2, g3, gr, gc, gm, x1, x2, x3, xr, xc, xm, X0, he, ho, hx, ⟨hl1, hl2, hl3, hl4, hl5, hl6, hl7, hl8, hl9⟩, f⟩
  replace HF := Lib.hid (Fr.trans HF.out f)
  have O_g := Lib.hid (show Own u1 g1 g2 g3 ⟨100, hR a b, zeros 5, hM 100 wd⟩ from ho)
  have O_x := Lib.hid (show Own u1 x1 x2 x3 ⟨p, (hR a b).set 3 101, zeros 5, hM 100 wd⟩ from hx)
  have he2 : e = .returned (.tuple #[.agg #[.int .i64 100, .slice (some ⟨g1, 0, none⟩) 8 gr, .slice (some ⟨g2, 0, none⟩) 5 gc, .slice (some ⟨g3, 0, none⟩) 256 gm], .agg #[.int .i64 p, .slice (some ⟨x1, 0, none⟩) 8 xr, .slice (some ⟨x2, 0, none⟩) 5 xc, .slice (some ⟨x3, 0, none⟩) 256 xm], .agg #[.int .i64 100, .int .i64 wd, .int .i64 0, .int .i64 3, .int .i64 101, .int .i64 (-1), .int .i64 0]]) := he
  subst he2
  clear he ho hx f
  have m2a := O_g.out.R.lt
  have m2b := O_g.out.C.lt
  have m2c := O_g.out.M.lt
  have m3a := O_x.out.R.lt
  have m3b := O_x.out.C.lt
  have m3c := O_x.out.M.lt
  go_upto_region 6 with fail
  refine wp_gen (fun v9 => Cel v9 u1.heap.size [.int .i64 100, .slice (some ⟨g1, 0, none⟩) 8 gr, .slice (some ⟨g2, 0, none⟩) 5 gc, .slice (some ⟨g3, 0, none⟩) 256 gm] ∧ Cel v9 (u1.heap.size + 1) [.int .i64 p, .slice (some ⟨x1, 0, none⟩) 8 xr, .slice (some ⟨x2, 0, none⟩) 5 xc, .slice (some ⟨x3, 0, none⟩) 256 xm] ∧ Cel v9 (u1.heap.size + 1 + 1) [.int .i64 100, .int .i64 wd, .int .i64 0, .int .i64 3, .int .i64 101, .int .i64 (-1), .int .i64 0] ∧ Own v9 g1 g2 g3 ⟨100, hR a b, zeros 5, hM 100 wd⟩ ∧ Own v9 x1 x2 x3 ⟨p, (hR a b).set 3 101, zeros 5, hM 100 wd⟩ ∧ Fr w v9) ⟨?_, ?_, ?_, ?_, ?_, ?_⟩ ?_
  · (repeat (first | (with_reducible assumption) | (with_reducible exact Cel.new _ _ _ _ (by first | rfl | omega | (simp; done) | (simp; omega))) | (with_reducible refine Cel.alloc ?_ _) | (with_reducible refine Cel.drew ?_) | (with_reducible refine Cel.drewN ?_ _) | (with_reducible refine Cel.other ?_ _ _ _ (by omega))))
  · (repeat (first | (with_reducible assumption) | (with_reducible exact Cel.new _ _ _ _ (by first | rfl | omega | (simp; done) | (simp; omega))) | (with_reducible refine Cel.alloc ?_ _) | (with_reducible refine Cel.drew ?_) | (with_reducible refine Cel.drewN ?_ _) | (with_reducible refine Cel.other ?_ _ _ _ (by omega))))
  · (repeat (first | (with_reducible assumption) | (with_reducible exact Cel.new _ _ _ _ (by first | rfl | omega | (simp; done) | (simp; omega))) | (with_reducible refine Cel.alloc ?_ _) | (with_reducible refine Cel.drew ?_) | (with_reducible refine Cel.drewN ?_ _) | (with_reducible refine Cel.other ?_ _ _ _ (by omega))))
  · have q9 := O_g.out
    (repeat (first | (with_reducible assumption) | (with_reducible refine Own.alloc ?_ _) | (with_reducible refine Own.drew ?_) | (with_reducible refine Own.drewN ?_ _) | (with_reducible refine Own.other ?_ _ _ _ (by omega) (by omega) (by omega))))
  · have q9 := O_x.out
    (repeat (first | (with_reducible assumption) | (with_reducible refine Own.alloc ?_ _) | (with_reducible refine Own.drew ?_) | (with_reducible refine Own.drewN ?_ _) | (with_reducible refine Own.other ?_ _ _ _ (by omega) (by omega) (by omega))))
  · refine fr_but (L := []) HF.out ?_ (fun k hk => by first | (cases hk; done) | (simp at hk; omega))
    (repeat (first | (with_reducible exact But.refl _ _) | (with_reducible assumption) | (with_reducible refine But.alloc ?_ _) | (with_reducible refine But.drew ?_) | (with_reducible refine But.drewN ?_ _) | (with_reducible refine But.set ?_ _ _ _ (by first | (left; simp; done) | (right; simp; done) | (right; omega) | (right; simp; omega)))))
  rintro u4 ⟨z0, z1, z2, z3, z4, z5⟩
  have B_sg := Lib.hid z0
  have B_sx := Lib.hid z1
  have B_ex := Lib.hid z2
  replace O_g := Lib.hid z3
  replace O_x := Lib.hid z4
  replace HF := Lib.hid z5
  clear z0 z1 z2 z3 z4 z5
  generalize u1.heap.size = N_x at *
  have L_g : Hid (Lens ⟨100, hR a b, zeros 5, hM 100 wd⟩) := Lib.hid ⟨HK0.out.Rl, HK0.out.Cl, HK0.out.Ml⟩
  have L_x : Hid (Lens ⟨p, (hR a b).set 3 101, zeros 5, hM 100 wd⟩) := Lib.hid ⟨HK1.out.Rl, HK1.out.Cl, HK1.out.Ml⟩
  have c5 : u4.cell? ⟨N_x, 1, none⟩ = some (.slice (some ⟨g1, 0, none⟩) 8 gr) := B_sg.out.cel 1 (by simp)
  have r6 := O_g.out.R.cel 3 (by rw [L_g.out.Rl]; omega)
  have r7 : u4.frozen? ⟨g1, 3, none⟩ = false := O_g.out.R.fro 3 (by rw [L_g.out.Rl]; omega)
  go_upto_region 7 with fail
  refine wp_gen (fun v9 => Cel v9 N_x [.int .i64 100, .slice (some ⟨g1, 0, none⟩) 8 gr, .slice (some ⟨g2, 0, none⟩) 5 gc, .slice (some ⟨g3, 0, none⟩) 256 gm] ∧ Cel v9 (N_x + 1) [.int .i64 p, .slice (some ⟨x1, 0, none⟩) 8 xr, .slice (some ⟨x2, 0, none⟩) 5 xc, .slice (some ⟨x3, 0, none⟩) 256 xm] ∧ Cel v9 (N_x + 1 + 1) [.int .i64 100, .int .i64 wd, .int .i64 0, .int .i64 3, .int .i64 101, .int .i64 (-1), .int .i64 0] ∧ Own v9 g1 g2 g3 ⟨100, (hR a b).set 3 101, zeros 5, hM 100 wd⟩ ∧ Own v9 x1 x2 x3 ⟨p, (hR a b).set 3 101, zeros 5, hM 100 wd⟩ ∧ Fr w v9) ⟨?_, ?_, ?_, ?_, ?_, ?_⟩ ?_
  · have q9 := B_sg.out
    (repeat (first | (with_reducible assumption) | (with_reducible exact Cel.new _ _ _ _ (by first | rfl | omega | (simp; done) | (simp; omega))) | (with_reducible refine Cel.alloc ?_ _) | (with_reducible refine Cel.drew ?_) | (with_reducible refine Cel.drewN ?_ _) | (with_reducible refine Cel.other ?_ _ _ _ (by omega))))
  · have q9 := B_sx.out
    (repeat (first | (with_reducible assumption) | (with_reducible exact Cel.new _ _ _ _ (by first | rfl | omega | (simp; done) | (simp; omega))) | (with_reducible refine Cel.alloc ?_ _) | (with_reducible refine Cel.drew ?_) | (with_reducible refine Cel.drewN ?_ _) | (with_reducible refine Cel.other ?_ _ _ _ (by omega))))
  · have q9 := B_ex.out
    (repeat (first | (with_reducible assumption) | (with_reducible exact Cel.new _ _ _ _ (by first | rfl | omega | (simp; done) | (simp; omega))) | (with_reducible refine Cel.alloc ?_ _) | (with_reducible refine Cel.drew ?_) | (with_reducible refine Cel.drewN ?_ _) | (with_reducible refine Cel.other ?_ _ _ _ (by omega))))
  · have q9 := (show Own (u4.setCell ⟨g1, 3, none⟩ (.int .i64 101)) g1 g2 g3 ⟨100, (hR a b).set 3 101, zeros 5, hM 100 wd⟩ from O_g.out.setR 3 101 (by rw [L_g.out.Rl]; omega) 100)
    (repeat (first | (with_reducible assumption) | (with_reducible refine Own.alloc ?_ _) | (with_reducible refine Own.drew ?_) | (with_reducible refine Own.drewN ?_ _) | (with_reducible refine Own.other ?_ _ _ _ (by omega) (by omega) (by omega))))
  · have q9 := O_x.out
    (repeat (first | (with_reducible assumption) | (with_reducible refine Own.alloc ?_ _) | (with_reducible refine Own.drew ?_) | (with_reducible refine Own.drewN ?_ _) | (with_reducible refine Own.other ?_ _ _ _ (by omega) (by omega) (by omega))))
  · refine fr_but (L := [g1]) HF.out ?_ (fun k hk => by first | (cases hk; done) | (simp at hk; omega))
    (repeat (first | (with_reducible exact But.refl _ _) | (with_reducible assumption) | (with_reducible refine But.alloc ?_ _) | (with_reducible refine But.drew ?_) | (with_reducible refine But.drewN ?_ _) | (with_reducible refine But.set ?_ _ _ _ (by first | (left; simp; done) | (right; simp; done) | (right; omega) | (right; simp; omega)))))
  rintro u8 ⟨z0, z1, z2, z3, z4, z5⟩
  replace B_sg := Lib.hid z0
  replace B_sx := Lib.hid z1
  replace B_ex := Lib.hid z2
  replace O_g := Lib.hid z3
  replace O_x := Lib.hid z4
  replace HF := Lib.hid z5
  clear z0 z1 z2 z3 z4 z5
  clear L_g
  have L_g : Hid (Lens ⟨100, (hR a b).set 3 101, zeros 5, hM 100 wd⟩) := Lib.hid ⟨HK1.out.Rl, HK1.out.Cl, HK1.out.Ml⟩
  clear c5 r6 r7
  have c9 : u8.cell? ⟨N_x, 0, none⟩ = some (.int .i64 100) := B_sg.out.cel 0 (by simp)
  have c10 : u8.frozen? ⟨N_x, 0, none⟩ = false := B_sg.out.fro 0 (by simp)
  go_upto_region 8 with fail
  refine wp_gen (fun v9 => Cel v9 N_x [.int .i64 p, .slice (some ⟨g1, 0, none⟩) 8 gr, .slice (some ⟨g2, 0, none⟩) 5 gc, .slice (some ⟨g3, 0, none⟩) 256 gm] ∧ Cel v9 (N_x + 1) [.int .i64 p, .slice (some ⟨x1, 0, none⟩) 8 xr, .slice (some ⟨x2, 0, none⟩) 5 xc, .slice (some ⟨x3, 0, none⟩) 256 xm] ∧ Cel v9 (N_x + 1 + 1) [.int .i64 100, .int .i64 wd, .int .i64 0, .int .i64 3, .int .i64 101, .int .i64 (-1), .int .i64 0] ∧ Own v9 g1 g2 g3 ⟨100, (hR a b).set 3 101, zeros 5, hM 100 wd⟩ ∧ Own v9 x1 x2 x3 ⟨p, (hR a b).set 3 101, zeros 5, hM 100 wd⟩ ∧ Fr w v9) ⟨?_, ?_, ?_, ?_, ?_, ?_⟩ ?_
  · have q9 := (show Cel (u8.setCell ⟨N_x, 0, none⟩ (.int .i64 p)) N_x [.int .i64 p, .slice (some ⟨g1, 0, none⟩) 8 gr, .slice (some ⟨g2, 0, none⟩) 5 gc, .slice (some ⟨g3, 0, none⟩) 256 gm] from B_sg.out.set 0 _ (by simp))
    (repeat (first | (with_reducible assumption) | (with_reducible exact Cel.new _ _ _ _ (by first | rfl | omega | (simp; done) | (simp; omega))) | (with_reducible refine Cel.alloc ?_ _) | (with_reducible refine Cel.drew ?_) | (with_reducible refine Cel.drewN ?_ _) | (with_reducible refine Cel.other ?_ _ _ _ (by omega))))
  · have q9 := B_sx.out
    (repeat (first | (with_reducible assumption) | (with_reducible exact Cel.new _ _ _ _ (by first | rfl | omega | (simp; done) | (simp; omega))) | (with_reducible refine Cel.alloc ?_ _) | (with_reducible refine Cel.drew ?_) | (with_reducible refine Cel.drewN ?_ _) | (with_reducible refine Cel.other ?_ _ _ _ (by omega))))
  · have q9 := B_ex.out
    (repeat (first | (with_reducible assumption) | (with_reducible exact Cel.new _ _ _ _ (by first | rfl | omega | (simp; done) | (simp; omega))) | (with_reducible refine Cel.alloc ?_ _) | (with_reducible refine Cel.drew ?_) | (with_reducible refine Cel.drewN ?_ _) | (with_reducible refine Cel.other ?_ _ _ _ (by omega))))
  · have q9 := O_g.out
    (repeat (first | (with_reducible assumption) | (with_reducible refine Own.alloc ?_ _) | (with_reducible refine Own.drew ?_) | (with_reducible refine Own.drewN ?_ _) | (with_reducible refine Own.other ?_ _ _ _ (by omega) (by omega) (by omega))))
  · have q9 := O_x.out
    (repeat (first | (with_reducible assumption) | (with_reducible refine Own.alloc ?_ _) | (with_reducible refine Own.drew ?_) | (with_reducible refine Own.drewN ?_ _) | (with_reducible refine Own.other ?_ _ _ _ (by omega) (by omega) (by omega))))
  · refine fr_but (L := [N_x]) HF.out ?_ (fun k hk => by first | (cases hk; done) | (simp at hk; omega))
    (repeat (first | (with_reducible exact But.refl _ _) | (with_reducible assumption) | (with_reducible refine But.alloc ?_ _) | (with_reducible refine But.drew ?_) | (with_reducible refine But.drewN ?_ _) | (with_reducible refine But.set ?_ _ _ _ (by first | (left; simp; done) | (right; simp; done) | (right; omega) | (right; simp; omega)))))
  rintro u11 ⟨z0, z1, z2, z3, z4, z5⟩
  replace B_sg := Lib.hid z0
  replace B_sx := Lib.hid z1
  replace B_ex := Lib.hid z2
  replace O_g := Lib.hid z3
  replace O_x := Lib.hid z4
  replace HF := Lib.hid z5
  clear z0 z1 z2 z3 z4 z5
  clear c9 c10
  replace O_g := Lib.hid (show Own u11 g1 g2 g3 ⟨p, (hR a b).set 3 101, zeros 5, hM 100 wd⟩ from O_g.out.pc p)
  go_wp2_with fail
  have m13 := B_sg.out.lt
  have m14 := B_sx.out.lt
  have m15 := B_ex.out.lt
  refine (run_to (s2 := ⟨pc2, (hR a b).set 3 101, zeros 5, hM 100 wd2⟩) (e2 := ⟨100, wd2, 0, 3, 101, -1, 0⟩) HI2.out (by omega) (by omega) ha hb HWD2.out HST2.out u11 (HT.out.fr HF.out)).mono ?_
  rintro e u12 ⟨t1, t2, t3, tr, tc, tm, y1, y2, y3, yr, yc, ym, X0, he, ho, hx, ⟨hl1, hl2, hl3, hl4, hl5, hl6, hl7, hl8, hl9⟩, f⟩
  replace B_sg := Lib.hid (B_sg.out.fr f)
  replace B_sx := Lib.hid (B_sx.out.fr f)
  replace B_ex := Lib.hid (B_ex.out.fr f)
  replace O_g := Lib.hid (O_g.out.fr f)
  replace O_x := Lib.hid (O_x.out.fr f)
  replace HF := Lib.hid (Fr.trans HF.out f)
  have O_t := Lib.hid (show Own u12 t1 t2 t3 ⟨100, hR a b, zeros 5, hM 100 wd2⟩ from ho)
  have O_y := Lib.hid (show Own u12 y1 y2 y3 ⟨pc2, (hR a b).set 3 101, zeros 5, hM 100 wd2⟩ from hx)
  have he2 : e = .returned (.tuple #[.agg #[.int .i64 100, .slice (some ⟨t1, 0, none⟩) 8 tr, .slice (some ⟨t2, 0, none⟩) 5 tc, .slice (some ⟨t3, 0, none⟩) 256 tm], .agg #[.int .i64 pc2, .slice (some ⟨y1, 0, none⟩) 8 yr, .slice (some ⟨y2, 0, none⟩) 5 yc, .slice (some ⟨y3, 0, none⟩) 256 ym], .agg #[.int .i64 100, .int .i64 wd2, .int .i64 0, .int .i64 3, .int .i64 101, .int .i64 (-1), .int .i64 0]]) := he
  subst he2
  clear he ho hx f
  have m16a := O_t.out.R.lt
  have m16b := O_t.out.C.lt
  have m16c := O_t.out.M.lt
  have m17a := O_y.out.R.lt
  have m17b := O_y.out.C.lt
  have m17c := O_y.out.M.lt
  go_upto_region 9 with fail
  refine wp_gen (fun v9 => Cel v9 N_x [.int .i64 p, .slice (some ⟨g1, 0, none⟩) 8 gr, .slice (some ⟨g2, 0, none⟩) 5 gc, .slice (some ⟨g3, 0, none⟩) 256 gm] ∧ Cel v9 (N_x + 1) [.int .i64 p, .slice (some ⟨x1, 0, none⟩) 8 xr, .slice (some ⟨x2, 0, none⟩) 5 xc, .slice (some ⟨x3, 0, none⟩) 256 xm] ∧ Cel v9 (N_x + 1 + 1) [.int .i64 100, .int .i64 wd, .int .i64 0, .int .i64 3, .int .i64 101, .int .i64 (-1), .int .i64 0] ∧ Cel v9 u12.heap.size [.int .i64 100, .slice (some ⟨t1, 0, none⟩) 8 tr, .slice (some ⟨t2, 0, none⟩) 5 tc, .slice (some ⟨t3, 0, none⟩) 256 tm] ∧ Cel v9 (u12.heap.size + 1) [.int .i64 pc2, .slice (some ⟨y1, 0, none⟩) 8 yr, .slice (some ⟨y2, 0, none⟩) 5 yc, .slice (some ⟨y3, 0, none⟩) 256 ym] ∧ Cel v9 (u12.heap.size + 1 + 1) [.int .i64 100, .int .i64 wd2, .int .i64 0, .int .i64 3, .int .i64 101, .int .i64 (-1), .int .i64 0] ∧ Own v9 g1 g2 g3 ⟨p, (hR a b).set 3 101, zeros 5, hM 100 wd⟩ ∧ Own v9 x1 x2 x3 ⟨p, (hR a b).set 3 101, zeros 5, hM 100 wd⟩ ∧ Own v9 t1 t2 t3 ⟨100, hR a b, zeros 5, hM 100 wd2⟩ ∧ Own v9 y1 y2 y3 ⟨pc2, (hR a b).set 3 101, zeros 5, hM 100 wd2⟩ ∧ Fr w v9) ⟨?_, ?_, ?_, ?_, ?_, ?_, ?_, ?_, ?_, ?_, ?_⟩ ?_
  · have q9 := B_sg.out
    (repeat (first | (with_reducible assumption) | (with_reducible exact Cel.new _ _ _ _ (by first | rfl | omega | (simp; done) | (simp; omega))) | (with_reducible refine Cel.alloc ?_ _) | (with_reducible refine Cel.drew ?_) | (with_reducible refine Cel.drewN ?_ _) | (with_reducible refine Cel.other ?_ _ _ _ (by omega))))
  · have q9 := B_sx.out
    (repeat (first | (with_reducible assumption) | (with_reducible exact Cel.new _ _ _ _ (by first | rfl | omega | (simp; done) | (simp; omega))) | (with_reducible refine Cel.alloc ?_ _) | (with_reducible refine Cel.drew ?_) | (with_reducible refine Cel.drewN ?_ _) | (with_reducible refine Cel.other ?_ _ _ _ (by omega))))
  · have q9 := B_ex.out
    (repeat (first | (with_reducible assumption) | (with_reducible exact Cel.new _ _ _ _ (by first | rfl | omega | (simp; done) | (simp; omega))) | (with_reducible refine Cel.alloc ?_ _) | (with_reducible refine Cel.drew ?_) | (with_reducible refine Cel.drewN ?_ _) | (with_reducible refine Cel.other ?_ _ _ _ (by omega))))
  · (repeat (first | (with_reducible assumption) | (with_reducible exact Cel.new _ _ _ _ (by first | rfl | omega | (simp; done) | (simp; omega))) | (with_reducible refine Cel.alloc ?_ _) | (with_reducible refine Cel.drew ?_) | (with_reducible refine Cel.drewN ?_ _) | (with_reducible refine Cel.other ?_ _ _ _ (by omega))))
  · (repeat (first | (with_reducible assumption) | (with_reducible exact Cel.new _ _ _ _ (by first | rfl | omega | (simp; done) | (simp; omega))) | (with_reducible refine Cel.alloc ?_ _) | (with_reducible refine Cel.drew ?_) | (with_reducible refine Cel.drewN ?_ _) | (with_reducible refine Cel.other ?_ _ _ _ (by omega))))
  · (repeat (first | (with_reducible assumption) | (with_reducible exact Cel.new _ _ _ _ (by first | rfl | omega | (simp; done) | (simp; omega))) | (with_reducible refine Cel.alloc ?_ _) | (with_reducible refine Cel.drew ?_) | (with_reducible refine Cel.drewN ?_ _) | (with_reducible refine Cel.other ?_ _ _ _ (by omega))))
  · have q9 := O_g.out
    (repeat (first | (with_reducible assumption) | (with_reducible refine Own.alloc ?_ _) | (with_reducible refine Own.drew ?_) | (with_reducible refine Own.drewN ?_ _) | (with_reducible refine Own.other ?_ _ _ _ (by omega) (by omega) (by omega))))
  · have q9 := O_x.out
    (repeat (first | (with_reducible assumption) | (with_reducible refine Own.alloc ?_ _) | (with_reducible refine Own.drew ?_) | (with_reducible refine Own.drewN ?_ _) | (with_reducible refine Own.other ?_ _ _ _ (by omega) (by omega) (by omega))))
  · have q9 := O_t.out
    (repeat (first | (with_reducible assumption) | (with_reducible refine Own.alloc ?_ _) | (with_reducible refine Own.drew ?_) | (with_reducible refine Own.drewN ?_ _) | (with_reducible refine Own.other ?_ _ _ _ (by omega) (by omega) (by omega))))
  · have q9 := O_y.out
    (repeat (first | (with_reducible assumption) | (with_reducible refine Own.alloc ?_ _) | (with_reducible refine Own.drew ?_) | (with_reducible refine Own.drewN ?_ _) | (with_reducible refine Own.other ?_ _ _ _ (by omega) (by omega) (by omega))))
  · refine fr_but (L := []) HF.out ?_ (fun k hk => by first | (cases hk; done) | (simp at hk; omega))
    (repeat (first | (with_reducible exact But.refl _ _) | (with_reducible assumption) | (with_reducible refine But.alloc ?_ _) | (with_reducible refine But.drew ?_) | (with_reducible refine But.drewN ?_ _) | (with_reducible refine But.set ?_ _ _ _ (by first | (left; simp; done) | (right; simp; done) | (right; omega) | (right; simp; omega)))))
  rintro u18 ⟨z0, z1, z2, z3, z4, z5, z6, z7, z8, z9, z10⟩
  replace B_sg := Lib.hid z0
  replace B_sx := Lib.hid z1
  replace B_ex := Lib.hid z2
  have B_st := Lib.hid z3
  have B_sy := Lib.hid z4
  have B_ey := Lib.hid z5
  replace O_g := Lib.hid z6
  replace O_x := Lib.hid z7
  replace O_t := Lib.hid z8
  replace O_y := Lib.hid z9
  replace HF := Lib.hid z10
  clear z0 z1 z2 z3 z4 z5 z6 z7 z8 z9 z10
  generalize u12.heap.size = N_y at *
  have L_t : Hid (Lens ⟨100, hR a b, zeros 5, hM 100 wd2⟩) := Lib.hid ⟨HK02.out.Rl, HK02.out.Cl, HK02.out.Ml⟩
  have L_y : Hid (Lens ⟨pc2, (hR a b).set 3 101, zeros 5, hM 100 wd2⟩) := Lib.hid ⟨HK2.out.Rl, HK2.out.Cl, HK2.out.Ml⟩
  have c19 : u18.cell? ⟨N_y, 1, none⟩ = some (.slice (some ⟨t1, 0, none⟩) 8 tr) := B_st.out.cel 1 (by simp)
  have r20 := O_t.out.R.cel 3 (by rw [L_t.out.Rl]; omega)
  have r21 : u18.frozen? ⟨t1, 3, none⟩ = false := O_t.out.R.fro 3 (by rw [L_t.out.Rl]; omega)
  go_upto_region 10 with fail
  refine wp_gen (fun v9 => Cel v9 N_x [.int .i64 p, .slice (some ⟨g1, 0, none⟩) 8 gr, .slice (some ⟨g2, 0, none⟩) 5 gc, .slice (some ⟨g3, 0, none⟩) 256 gm] ∧ Cel v9 (N_x + 1) [.int .i64 p, .slice (some ⟨x1, 0, none⟩) 8 xr, .slice (some ⟨x2, 0, none⟩) 5 xc, .slice (some ⟨x3, 0, none⟩) 256 xm] ∧ Cel v9 (N_x + 1 + 1) [.int .i64 100, .int .i64 wd, .int .i64 0, .int .i64 3, .int .i64 101, .int .i64 (-1), .int .i64 0] ∧ Cel v9 N_y [.int .i64 100, .slice (some ⟨t1, 0, none⟩) 8 tr, .slice (some ⟨t2, 0, none⟩) 5 tc, .slice (some ⟨t3, 0, none⟩) 256 tm] ∧ Cel v9 (N_y + 1) [.int .i64 pc2, .slice (some ⟨y1, 0, none⟩) 8 yr, .slice (some ⟨y2, 0, none⟩) 5 yc, .slice (some ⟨y3, 0, none⟩) 256 ym] ∧ Cel v9 (N_y + 1 + 1) [.int .i64 100, .int .i64 wd2, .int .i64 0, .int .i64 3, .int .i64 101, .int .i64 (-1), .int .i64 0] ∧ Own v9 g1 g2 g3 ⟨p, (hR a b).set 3 101, zeros 5, hM 100 wd⟩ ∧ Own v9 x1 x2 x3 ⟨p, (hR a b).set 3 101, zeros 5, hM 100 wd⟩ ∧ Own v9 t1 t2 t3 ⟨100, (hR a b).set 3 101, zeros 5, hM 100 wd2⟩ ∧ Own v9 y1 y2 y3 ⟨pc2, (hR a b).set 3 101, zeros 5, hM 100 wd2⟩ ∧ Fr w v9) ⟨?_, ?_, ?_, ?_, ?_, ?_, ?_, ?_, ?_, ?_, ?_⟩ ?_
  · have q9 := B_sg.out
    (repeat (first | (with_reducible assumption) | (with_reducible exact Cel.new _ _ _ _ (by first | rfl | omega | (simp; done) | (simp; omega))) | (with_reducible refine Cel.alloc ?_ _) | (with_reducible refine Cel.drew ?_) | (with_reducible refine Cel.drewN ?_ _) | (with_reducible refine Cel.other ?_ _ _ _ (by omega))))
  · have q9 := B_sx.out
    (repeat (first | (with_reducible assumption) | (with_reducible exact Cel.new _ _ _ _ (by first | rfl | omega | (simp; done) | (simp; omega))) | (with_reducible refine Cel.alloc ?_ _) | (with_reducible refine Cel.drew ?_) | (with_reducible refine Cel.drewN ?_ _) | (with_reducible refine Cel.other ?_ _ _ _ (by omega))))
  · have q9 := B_ex.out
    (repeat (first | (with_reducible assumption) | (with_reducible exact Cel.new _ _ _ _ (by first | rfl | omega | (simp; done) | (simp; omega))) | (with_reducible refine Cel.alloc ?_ _) | (with_reducible refine Cel.drew ?_) | (with_reducible refine Cel.drewN ?_ _) | (with_reducible refine Cel.other ?_ _ _ _ (by omega))))
  · have q9 := B_st.out
    (repeat (first | (with_reducible assumption) | (with_reducible exact Cel.new _ _ _ _ (by first | rfl | omega | (simp; done) | (simp; omega))) | (with_reducible refine Cel.alloc ?_ _) | (with_reducible refine Cel.drew ?_) | (with_reducible refine Cel.drewN ?_ _) | (with_reducible refine Cel.other ?_ _ _ _ (by omega))))
  · have q9 := B_sy.out
    (repeat (first | (with_reducible assumption) | (with_reducible exact Cel.new _ _ _ _ (by first | rfl | omega | (simp; done) | (simp; omega))) | (with_reducible refine Cel.alloc ?_ _) | (with_reducible refine Cel.drew ?_) | (with_reducible refine Cel.drewN ?_ _) | (with_reducible refine Cel.other ?_ _ _ _ (by omega))))
  · have q9 := B_ey.out
    (repeat (first | (with_reducible assumption) | (with_reducible exact Cel.new _ _ _ _ (by first | rfl | omega | (simp; done) | (simp; omega))) | (with_reducible refine Cel.alloc ?_ _) | (with_reducible refine Cel.drew ?_) | (with_reducible refine Cel.drewN ?_ _) | (with_reducible refine Cel.other ?_ _ _ _ (by omega))))
  · have q9 := O_g.out
    (repeat (first | (with_reducible assumption) | (with_reducible refine Own.alloc ?_ _) | (with_reducible refine Own.drew ?_) | (with_reducible refine Own.drewN ?_ _) | (with_reducible refine Own.other ?_ _ _ _ (by omega) (by omega) (by omega))))
  · have q9 := O_x.out
    (repeat (first | (with_reducible assumption) | (with_reducible refine Own.alloc ?_ _) | (with_reducible refine Own.drew ?_) | (with_reducible refine Own.drewN ?_ _) | (with_reducible refine Own.other ?_ _ _ _ (by omega) (by omega) (by omega))))
  · have q9 := (show Own (u18.setCell ⟨t1, 3, none⟩ (.int .i64 101)) t1 t2 t3 ⟨100, (hR a b).set 3 101, zeros 5, hM 100 wd2⟩ from O_t.out.setR 3 101 (by rw [L_t.out.Rl]; omega) 100)
    (repeat (first | (with_reducible assumption) | (with_reducible refine Own.alloc ?_ _) | (with_reducible refine Own.drew ?_) | (with_reducible refine Own.drewN ?_ _) | (with_reducible refine Own.other ?_ _ _ _ (by omega) (by omega) (by omega))))
  · have q9 := O_y.out
    (repeat (first | (with_reducible assumption) | (with_reducible refine Own.alloc ?_ _) | (with_reducible refine Own.drew ?_) | (with_reducible refine Own.drewN ?_ _) | (with_reducible refine Own.other ?_ _ _ _ (by omega) (by omega) (by omega))))
  · refine fr_but (L := [t1]) HF.out ?_ (fun k hk => by first | (cases hk; done) | (simp at hk; omega))
    (repeat (first | (with_reducible exact But.refl _ _) | (with_reducible assumption) | (with_reducible refine But.alloc ?_ _) | (with_reducible refine But.drew ?_) | (with_reducible refine But.drewN ?_ _) | (with_reducible refine But.set ?_ _ _ _ (by first | (left; simp; done) | (right; simp; done) | (right; omega) | (right; simp; omega)))))
  rintro u22 ⟨z0, z1, z2, z3, z4, z5, z6, z7, z8, z9, z10⟩
  replace B_sg := Lib.hid z0
  replace B_sx := Lib.hid z1
  replace B_ex := Lib.hid z2
  replace B_st := Lib.hid z3
  replace B_sy := Lib.hid z4
  replace B_ey := Lib.hid z5
  replace O_g := Lib.hid z6
  replace O_x := Lib.hid z7
  replace O_t := Lib.hid z8
  replace O_y := Lib.hid z9
  replace HF := Lib.hid z10
  clear z0 z1 z2 z3 z4 z5 z6 z7 z8 z9 z10
  clear L_t
  have L_t : Hid (Lens ⟨100, (hR a b).set 3 101, zeros 5, hM 100 wd2⟩) := Lib.hid ⟨HK2.out.Rl, HK2.out.Cl, HK2.out.Ml⟩
  clear c19 r20 r21
  go_wp2_with fail
  have EM := laws_haWrap am u22
  rw [HPC2.out] at EM
  refine EM.mono ?_
  clear EM
  rintro e u23 ⟨rfl, rfl⟩
  have c24 : u22.cell? ⟨N_y, 0, none⟩ = some (.int .i64 100) := B_st.out.cel 0 (by simp)
  have c25 : u22.frozen? ⟨N_y, 0, none⟩ = false := B_st.out.fro 0 (by simp)
  go_upto_region 11 with fail
  refine wp_gen (fun v9 => Cel v9 N_x [.int .i64 p, .slice (some ⟨g1, 0, none⟩) 8 gr, .slice (some ⟨g2, 0, none⟩) 5 gc, .slice (some ⟨g3, 0, none⟩) 256 gm] ∧ Cel v9 (N_x + 1) [.int .i64 p, .slice (some ⟨x1, 0, none⟩) 8 xr, .slice (some ⟨x2, 0, none⟩) 5 xc, .slice (some ⟨x3, 0, none⟩) 256 xm] ∧ Cel v9 (N_x + 1 + 1) [.int .i64 100, .int .i64 wd, .int .i64 0, .int .i64 3, .int .i64 101, .int .i64 (-1), .int .i64 0] ∧ Cel v9 N_y [.int .i64 pc2, .slice (some ⟨t1, 0, none⟩) 8 tr, .slice (some ⟨t2, 0, none⟩) 5 tc, .slice (some ⟨t3, 0, none⟩) 256 tm] ∧ Cel v9 (N_y + 1) [.int .i64 pc2, .slice (some ⟨y1, 0, none⟩) 8 yr, .slice (some ⟨y2, 0, none⟩) 5 yc, .slice (some ⟨y3, 0, none⟩) 256 ym] ∧ Cel v9 (N_y + 1 + 1) [.int .i64 100, .int .i64 wd2, .int .i64 0, .int .i64 3, .int .i64 101, .int .i64 (-1), .int .i64 0] ∧ Own v9 g1 g2 g3 ⟨p, (hR a b).set 3 101, zeros 5, hM 100 wd⟩ ∧ Own v9 x1 x2 x3 ⟨p, (hR a b).set 3 101, zeros 5, hM 100 wd⟩ ∧ Own v9 t1 t2 t3 ⟨100, (hR a b).set 3 101, zeros 5, hM 100 wd2⟩ ∧ Own v9 y1 y2 y3 ⟨pc2, (hR a b).set 3 101, zeros 5, hM 100 wd2⟩ ∧ Fr w v9) ⟨?_, ?_, ?_, ?_, ?_, ?_, ?_, ?_, ?_, ?_, ?_⟩ ?_
  · have q9 := B_sg.out
    (repeat (first | (with_reducible assumption) | (with_reducible exact Cel.new _ _ _ _ (by first | rfl | omega | (simp; done) | (simp; omega))) | (with_reducible refine Cel.alloc ?_ _) | (with_reducible refine Cel.drew ?_) | (with_reducible refine Cel.drewN ?_ _) | (with_reducible refine Cel.other ?_ _ _ _ (by omega))))
  · have q9 := B_sx.out
    (repeat (first | (with_reducible assumption) | (with_reducible exact Cel.new _ _ _ _ (by first | rfl | omega | (simp; done) | (simp; omega))) | (with_reducible refine Cel.alloc ?_ _) | (with_reducible refine Cel.drew ?_) | (with_reducible refine Cel.drewN ?_ _) | (with_reducible refine Cel.other ?_ _ _ _ (by omega))))
  · have q9 := B_ex.out
    (repeat (first | (with_reducible assumption) | (with_reducible exact Cel.new _ _ _ _ (by first | rfl | omega | (simp; done) | (simp; omega))) | (with_reducible refine Cel.alloc ?_ _) | (with_reducible refine Cel.drew ?_) | (with_reducible refine Cel.drewN ?_ _) | (with_reducible refine Cel.other ?_ _ _ _ (by omega))))
  · have q9 := (show Cel (u22.setCell ⟨N_y, 0, none⟩ (.int .i64 pc2)) N_y [.int .i64 pc2, .slice (some ⟨t1, 0, none⟩) 8 tr, .slice (some ⟨t2, 0, none⟩) 5 tc, .slice (some ⟨t3, 0, none⟩) 256 tm] from B_st.out.set 0 _ (by simp))
    (repeat (first | (with_reducible assumption) | (with_reducible exact Cel.new _ _ _ _ (by first | rfl | omega | (simp; done) | (simp; omega))) | (with_reducible refine Cel.alloc ?_ _) | (with_reducible refine Cel.drew ?_) | (with_reducible refine Cel.drewN ?_ _) | (with_reducible refine Cel.other ?_ _ _ _ (by omega))))
  · have q9 := B_sy.out
    (repeat (first | (with_reducible assumption) | (with_reducible exact Cel.new _ _ _ _ (by first | rfl | omega | (simp; done) | (simp; omega))) | (with_reducible refine Cel.alloc ?_ _) | (with_reducible refine Cel.drew ?_) | (with_reducible refine Cel.drewN ?_ _) | (with_reducible refine Cel.other ?_ _ _ _ (by omega))))
  · have q9 := B_ey.out
    (repeat (first | (with_reducible assumption) | (with_reducible exact Cel.new _ _ _ _ (by first | rfl | omega | (simp; done) | (simp; omega))) | (with_reducible refine Cel.alloc ?_ _) | (with_reducible refine Cel.drew ?_) | (with_reducible refine Cel.drewN ?_ _) | (with_reducible refine Cel.other ?_ _ _ _ (by omega))))
  · have q9 := O_g.out
    (repeat (first | (with_reducible assumption) | (with_reducible refine Own.alloc ?_ _) | (with_reducible refine Own.drew ?_) | (with_reducible refine Own.drewN ?_ _) | (with_reducible refine Own.other ?_ _ _ _ (by omega) (by omega) (by omega))))
  · have q9 := O_x.out
    (repeat (first | (with_reducible assumption) | (with_reducible refine Own.alloc ?_ _) | (with_reducible refine Own.drew ?_) | (with_reducible refine Own.drewN ?_ _) | (with_reducible refine Own.other ?_ _ _ _ (by omega) (by omega) (by omega))))
  · have q9 := O_t.out
    (repeat (first | (with_reducible assumption) | (with_reducible refine Own.alloc ?_ _) | (with_reducible refine Own.drew ?_) | (with_reducible refine Own.drewN ?_ _) | (with_reducible refine Own.other ?_ _ _ _ (by omega) (by omega) (by omega))))
  · have q9 := O_y.out
    (repeat (first | (with_reducible assumption) | (with_reducible refine Own.alloc ?_ _) | (with_reducible refine Own.drew ?_) | (with_reducible refine Own.drewN ?_ _) | (with_reducible refine Own.other ?_ _ _ _ (by omega) (by omega) (by omega))))
  · refine fr_but (L := [N_y]) HF.out ?_ (fun k hk => by first | (cases hk; done) | (simp at hk; omega))
    (repeat (first | (with_reducible exact But.refl _ _) | (with_reducible assumption) | (with_reducible refine But.alloc ?_ _) | (with_reducible refine But.drew ?_) | (with_reducible refine But.drewN ?_ _) | (with_reducible refine But.set ?_ _ _ _ (by first | (left; simp; done) | (right; simp; done) | (right; omega) | (right; simp; omega)))))
  rintro u26 ⟨z0, z1, z2, z3, z4, z5, z6, z7, z8, z9, z10⟩
  replace B_sg := Lib.hid z0
  replace B_sx := Lib.hid z1
  replace B_ex := Lib.hid z2
  replace B_st := Lib.hid z3
  replace B_sy := Lib.hid z4
  replace B_ey := Lib.hid z5
  replace O_g := Lib.hid z6
  replace O_x := Lib.hid z7
  replace O_t := Lib.hid z8
  replace O_y := Lib.hid z9
  replace HF := Lib.hid z10
  clear z0 z1 z2 z3 z4 z5 z6 z7 z8 z9 z10
  clear c24 c25
  replace O_t := Lib.hid (show Own u26 t1 t2 t3 ⟨pc2, (hR a b).set 3 101, zeros 5, hM 100 wd2⟩ from O_t.out.pc pc2)
  refine wp_region_rows 94 7 [] (fun _ => []) lb0_in (fun i => false) (fun i v9 u => match i with | 0 => v9 = .agg #[.int .i64 p, .slice (some ⟨x1, 0, none⟩) 8 xr, .slice (some ⟨x2, 0, none⟩) 5 xc, .slice (some ⟨x3, 0, none⟩) 256 xm] | 1 => v9 = .pointer (some ⟨N_x + 1, 0, none⟩) | 2 => v9 = .int .i64 p | 3 => v9 = .agg #[.int .i64 8, .int .i64 0, .int .i64 3, .int .i64 0, .int .i64 0, .int .i64 0] | 4 => v9 = .int .i64 wd3 | 5 => ∃ z1 z2 z3 zr zc zm, v9 = .agg #[.int .i64 p, .slice (some ⟨z1, 0, none⟩) 8 zr, .slice (some ⟨z2, 0, none⟩) 5 zc, .slice (some ⟨z3, 0, none⟩) 256 zm] ∧ Own u z1 z2 z3 ⟨p, (hR a b).set 3 101, zeros 5, (hM 100 wd).set p.toNat wd3⟩ ∧ (u26.heap.size ≤ z1 ∧ u26.heap.size ≤ z2 ∧ u26.heap.size ≤ z3) | 6 => ∃ zz, v9 = .pointer (some ⟨zz, 0, none⟩) ∧ Cel u zz [.int .i64 0, .slice none 0 0, .slice none 0 0, .slice none 0 0] ∧ u26.heap.size ≤ zz | _ => True) ?mono (by kernel_rfl) (by kernel_rfl) rfl (by kernel_rfl) (by kernel_rfl) (by decide) ?step ?fin
  case mono =>
    intro i j v u u' hi hij hdj hsz h hB
    rcases j with _ | _ | _ | _ | _ | _ | _ | _ | j
    · exact h
    · exact h
    · exact h
    · exact h
    · exact h
    · obtain ⟨k1, k2, k3, kr, kc, km, e, ho, hh⟩ := h
      exact ⟨k1, k2, k3, kr, kc, km, e, ho.but hB (by simp) (by simp) (by simp), hh⟩
    · obtain ⟨zz, e, hz, hm⟩ := h
      exact ⟨zz, e, hz.but hB (by simp), hm⟩
    · trivial
    · trivial
  case step =>
    intro i o ho hiz
    rcases i with _ | _ | _ | _ | _ | _ | _ | _ | i
    · clear hiz
      cases ho
      intro act u hB hL hdep hap hnw
      replace hB := hB [] (fun j _ k hk => lb0_in j k hk)
      obtain ⟨ysl, ha, hy⟩ := hL.puts [60, 61, 62, 63, 64, 65, 12] (by kernel_rfl)
      clear hdep hL hy hap hnw
      simp only [List.foldl, List.setIfInBounds_toArray, List.set_cons_succ, List.set_cons_zero] at ha
      subst ha
      have c27 : u.cell? ⟨N_x + 1, 0, none⟩ = some (.int .i64 p) := (B_sx.out.but hB (by first | (simp; done) | (simp; omega))).cel 0 (by simp)
      have c28 : u.cell? ⟨N_x + 1, 1, none⟩ = some (.slice (some ⟨x1, 0, none⟩) 8 xr) := (B_sx.out.but hB (by first | (simp; done) | (simp; omega))).cel 1 (by simp)
      have c29 : u.cell? ⟨N_x + 1, 2, none⟩ = some (.slice (some ⟨x2, 0, none⟩) 5 xc) := (B_sx.out.but hB (by first | (simp; done) | (simp; omega))).cel 2 (by simp)
      have c30 : u.cell? ⟨N_x + 1, 3, none⟩ = some (.slice (some ⟨x3, 0, none⟩) 256 xm) := (B_sx.out.but hB (by first | (simp; done) | (simp; omega))).cel 3 (by simp)
      refine wpOp_step rfl (fun K hK => ?_)
      go_simp
      exact hK _ _ ⟨_, rfl, (fun h => by cases h), (by first | rfl | (exact congrArg (Value.int .i64) (by first | rfl | (rw [IntWalk.i64_left, IntWalk.wrap64_in _ (by omega)]) | omega)) | simp | (simp; omega)), But.refl _ _, (fun h => by cases h)⟩
    · clear hiz
      cases ho
      intro act u hB hL hdep hap hnw
      replace hB := hB [] (fun j _ k hk => lb0_in j k hk)
      obtain ⟨ysl, ha, hy⟩ := hL.puts [60, 61, 62, 63, 64, 65, 12] (by kernel_rfl)
      clear hdep hL hy hap hnw
      simp only [List.foldl, List.setIfInBounds_toArray, List.set_cons_succ, List.set_cons_zero] at ha
      subst ha
      refine wpOp_step rfl (fun K hK => ?_)
      go_simp
      exact hK _ _ ⟨_, rfl, (fun h => by cases h), (by first | rfl | (exact congrArg (Value.int .i64) (by first | rfl | (rw [IntWalk.i64_left, IntWalk.wrap64_in _ (by omega)]) | omega)) | simp | (simp; omega)), But.refl _ _, (fun h => by cases h)⟩
    · clear hiz
      cases ho
      intro act u hB hL hdep hap hnw
      replace hB := hB [] (fun j _ k hk => lb0_in j k hk)
      have d1 := hdep { on := 1, ground := .data } (by simp) rfl _ rfl
      obtain ⟨ysl, ha, hy⟩ := hL.puts [60, 61, 62, 63, 64, 65, 12] (by kernel_rfl)
      have e1 : ysl 61 = _ := (hy 61).symm.trans d1
      clear hdep hL hy hap hnw d1
      simp only [List.foldl, List.setIfInBounds_toArray, List.set_cons_succ, List.set_cons_zero, e1] at ha
      subst ha
      clear e1
      have c31 : u.cell? ⟨N_x + 1, 0, none⟩ = some (.int .i64 p) := (B_sx.out.but hB (by first | (simp; done) | (simp; omega))).cel 0 (by simp)
      refine wpOp_step rfl (fun K hK => ?_)
      go_simp
      exact hK _ _ ⟨_, rfl, (fun h => by cases h), (by first | rfl | (exact congrArg (Value.int .i64) (by first | rfl | (rw [IntWalk.i64_left, IntWalk.wrap64_in _ (by omega)]) | omega)) | simp | (simp; omega)), But.refl _ _, (fun h => by cases h)⟩
    · clear hiz
      cases ho
      intro act u hB hL hdep hap hnw
      replace hB := hB [] (fun j _ k hk => lb0_in j k hk)
      obtain ⟨ysl, ha, hy⟩ := hL.puts [60, 61, 62, 63, 64, 65, 12] (by kernel_rfl)
      clear hdep hL hy hap hnw
      simp only [List.foldl, List.setIfInBounds_toArray, List.set_cons_succ, List.set_cons_zero] at ha
      subst ha
      refine wpOp_step rfl (fun K hK => ?_)
      go_simp
      exact hK _ _ ⟨_, rfl, (fun h => by cases h), (by first | rfl | (exact congrArg (Value.int .i64) (by first | rfl | (rw [IntWalk.i64_left, IntWalk.wrap64_in _ (by omega)]) | omega)) | simp | (simp; omega)), But.refl _ _, (fun h => by cases h)⟩
    · clear hiz
      cases ho
      intro act u hB hL hdep hap hnw
      replace hB := hB [] (fun j _ k hk => lb0_in j k hk)
      have d3 := hdep { on := 3, ground := .data } (by simp) rfl _ rfl
      obtain ⟨ysl, ha, hy⟩ := hL.puts [60, 61, 62, 63, 64, 65, 12] (by kernel_rfl)
      have e3 : ysl 63 = _ := (hy 63).symm.trans d3
      clear hdep hL hy hap hnw d3
      simp only [List.foldl, List.setIfInBounds_toArray, List.set_cons_succ, List.set_cons_zero, e3] at ha
      subst ha
      clear e3
      refine wpOp_step rfl (fun K hK => ?_)
      go_simp
      have EW := impl_CodWord 8 0 3 0 0 0 u ((HT.out.fr HF.out).fr (fr_but (L := []) (Below.refl u26.heap.size u26) hB (fun k hk => by cases hk)))
      rw [HWD3.out] at EW
      refine EW.mono ?_
      rintro e u' ⟨rfl, f'⟩
      go_simp
      exact hK _ _ ⟨_, rfl, (fun h => by cases h), rfl, But.of f', (fun h => by cases h)⟩
    · clear hiz
      cases ho
      intro act u hB hL hdep hap hnw
      replace hB := hB [] (fun j _ k hk => lb0_in j k hk)
      have d0 := hdep { on := 0, ground := .data } (by simp) rfl _ rfl
      have d2 := hdep { on := 2, ground := .data } (by simp) rfl _ rfl
      have d4 := hdep { on := 4, ground := .data } (by simp) rfl _ rfl
      obtain ⟨ysl, ha, hy⟩ := hL.puts [60, 61, 62, 63, 64, 65, 12] (by kernel_rfl)
      have e0 : ysl 60 = _ := (hy 60).symm.trans d0
      have e2 : ysl 62 = _ := (hy 62).symm.trans d2
      have e4 : ysl 64 = _ := (hy 64).symm.trans d4
      clear hdep hL hy hap hnw d0 d2 d4
      simp only [List.foldl, List.setIfInBounds_toArray, List.set_cons_succ, List.set_cons_zero, e0, e2, e4] at ha
      subst ha
      clear e0 e2 e4
      refine wpOp_step rfl (fun K hK => ?_)
      go_simp
      refine (lay_to (s := ⟨p, (hR a b).set 3 101, zeros 5, hM 100 wd⟩) (O_x.out.fr (fr_but (L := []) (Below.refl u26.heap.size u26) hB (fun k hk => by cases hk))) HK1.out rfl (by omega) (by omega) (worD_ok HI3.out HWD3.out)).mono ?_
      rintro e u' ⟨k1, k2, k3, kr, kc, km, he, ho, hl1, hl2, hl3, f'⟩
      obtain rfl := he
      go_simp
      exact hK _ _ ⟨_, rfl, (fun h => by cases h), ⟨k1, k2, k3, kr, kc, km, rfl, ho, Nat.le_trans hB.size hl1, Nat.le_trans hB.size hl2, Nat.le_trans hB.size hl3⟩, But.of f', (fun h => by cases h)⟩
    · clear hiz
      cases ho
      intro act u hB hL hdep hap hnw
      replace hB := hB [] (fun j _ k hk => lb0_in j k hk)
      obtain ⟨ysl, ha, hy⟩ := hL.puts [60, 61, 62, 63, 64, 65, 12] (by kernel_rfl)
      clear hdep hL hy hap hnw
      simp only [List.foldl, List.setIfInBounds_toArray, List.set_cons_succ, List.set_cons_zero] at ha
      subst ha
      refine wpOp_step rfl (fun K hK => ?_)
      go_simp
      exact hK _ _ ⟨_, rfl, (fun h => by cases h), ⟨_, rfl, Cel.new _ [.int .i64 0, .slice none 0 0, .slice none 0 0, .slice none 0 0] _ _ rfl, hB.size⟩, But.of (Fr.alloc _ _), (fun h => by cases h)⟩
    · exact absurd rfl hiz
    · exact absurd ho (by simp)
  case fin =>
    intro act u hB hL hsf hap hnw
    have d5 := hsf 5 _ rfl (by decide)
    have d6 := hsf 6 _ rfl (by decide)
    obtain ⟨ysl, ha, hy⟩ := hL.puts [60, 61, 62, 63, 64, 65, 12] (by kernel_rfl)
    obtain ⟨z1, z2, z3, zr, zc, zm, h5, ho5, hl5⟩ := d5
    have e5 : ysl 65 = .agg #[.int .i64 p, .slice (some ⟨z1, 0, none⟩) 8 zr, .slice (some ⟨z2, 0, none⟩) 5 zc, .slice (some ⟨z3, 0, none⟩) 256 zm] := (hy 65).symm.trans h5
    obtain ⟨zz, h6, hz6, hm6⟩ := d6
    have e6 : ysl 12 = .pointer (some ⟨zz, 0, none⟩) := (hy 12).symm.trans h6
    clear hL hsf hy hap hnw h5 h6
    simp only [List.foldl, List.setIfInBounds_toArray, List.set_cons_succ, List.set_cons_zero, e5, e6] at ha
    subst ha
    clear e5 e6
    have m32 := B_sg.out.lt
    have m33 := B_sx.out.lt
    have m34 := B_ex.out.lt
    have m35 := B_st.out.lt
    have m36 := B_sy.out.lt
    have m37 := B_ey.out.lt
    have fB : Fr u26 u := (fr_but (L := []) (Below.refl u26.heap.size u26) hB (fun k hk => by cases hk))
    replace B_sg := Lib.hid (B_sg.out.fr fB)
    replace B_sx := Lib.hid (B_sx.out.fr fB)
    replace B_ex := Lib.hid (B_ex.out.fr fB)
    replace B_st := Lib.hid (B_st.out.fr fB)
    replace B_sy := Lib.hid (B_sy.out.fr fB)
    replace B_ey := Lib.hid (B_ey.out.fr fB)
    replace O_g := Lib.hid (O_g.out.fr fB)
    replace O_x := Lib.hid (O_x.out.fr fB)
    replace O_t := Lib.hid (O_t.out.fr fB)
    replace O_y := Lib.hid (O_y.out.fr fB)
    replace HF := Lib.hid (Fr.trans HF.out fB)
    have B_sz := Lib.hid hz6
    have O_z := Lib.hid (show Own u z1 z2 z3 ⟨p, (hR a b).set 3 101, zeros 5, (hM 100 wd).set p.toNat wd3⟩ from ho5)
    obtain ⟨hl1, hl2, hl3⟩ := hl5
    obtain ⟨nz1, nz2, nz3⟩ := apart_own hz6 ho5 (lay_okS (s := ⟨p, (hR a b).set 3 101, zeros 5, hM 100 wd⟩) (a := p) HK1.out (by omega) (by omega) (worD_ok HI3.out HWD3.out))
    clear hz6 ho5 hl5 hB fB
    have m38a := O_z.out.R.lt
    have m38b := O_z.out.C.lt
    have m38c := O_z.out.M.lt
    have mzz := B_sz.out.lt
    have c39 : u.cell? ⟨zz, 0, none⟩ = some (.int .i64 0) := B_sz.out.cel 0 (by simp)
    have c40 : u.cell? ⟨zz, 1, none⟩ = some (.slice none 0 0) := B_sz.out.cel 1 (by simp)
    have c41 : u.cell? ⟨zz, 2, none⟩ = some (.slice none 0 0) := B_sz.out.cel 2 (by simp)
    have c42 : u.cell? ⟨zz, 3, none⟩ = some (.slice none 0 0) := B_sz.out.cel 3 (by simp)
    have c43 : u.frozen? ⟨zz, 0, none⟩ = false := B_sz.out.fro 0 (by simp)
    have c44 : u.frozen? ⟨zz, 1, none⟩ = false := B_sz.out.fro 1 (by simp)
    have c45 : u.frozen? ⟨zz, 2, none⟩ = false := B_sz.out.fro 2 (by simp)
    have c46 : u.frozen? ⟨zz, 3, none⟩ = false := B_sz.out.fro 3 (by simp)
    refine wpOp_step rfl (fun K hK => ?_)
    go_simp
    refine hK _ _ ?_
    go_upto_region 12 with fail
    refine wp_gen (fun v9 => Cel v9 N_x [.int .i64 p, .slice (some ⟨g1, 0, none⟩) 8 gr, .slice (some ⟨g2, 0, none⟩) 5 gc, .slice (some ⟨g3, 0, none⟩) 256 gm] ∧ Cel v9 (N_x + 1) [.int .i64 p, .slice (some ⟨x1, 0, none⟩) 8 xr, .slice (some ⟨x2, 0, none⟩) 5 xc, .slice (some ⟨x3, 0, none⟩) 256 xm] ∧ Cel v9 (N_x + 1 + 1) [.int .i64 100, .int .i64 wd, .int .i64 0, .int .i64 3, .int .i64 101, .int .i64 (-1), .int .i64 0] ∧ Cel v9 N_y [.int .i64 pc2, .slice (some ⟨t1, 0, none⟩) 8 tr, .slice (some ⟨t2, 0, none⟩) 5 tc, .slice (some ⟨t3, 0, none⟩) 256 tm] ∧ Cel v9 (N_y + 1) [.int .i64 pc2, .slice (some ⟨y1, 0, none⟩) 8 yr, .slice (some ⟨y2, 0, none⟩) 5 yc, .slice (some ⟨y3, 0, none⟩) 256 ym] ∧ Cel v9 (N_y + 1 + 1) [.int .i64 100, .int .i64 wd2, .int .i64 0, .int .i64 3, .int .i64 101, .int .i64 (-1), .int .i64 0] ∧ Cel v9 zz [.int .i64 p, .slice (some ⟨z1, 0, none⟩) 8 zr, .slice (some ⟨z2, 0, none⟩) 5 zc, .slice (some ⟨z3, 0, none⟩) 256 zm] ∧ Own v9 g1 g2 g3 ⟨p, (hR a b).set 3 101, zeros 5, hM 100 wd⟩ ∧ Own v9 x1 x2 x3 ⟨p, (hR a b).set 3 101, zeros 5, hM 100 wd⟩ ∧ Own v9 t1 t2 t3 ⟨pc2, (hR a b).set 3 101, zeros 5, hM 100 wd2⟩ ∧ Own v9 y1 y2 y3 ⟨pc2, (hR a b).set 3 101, zeros 5, hM 100 wd2⟩ ∧ Own v9 z1 z2 z3 ⟨p, (hR a b).set 3 101, zeros 5, (hM 100 wd).set p.toNat wd3⟩ ∧ Fr w v9) ⟨?_, ?_, ?_, ?_, ?_, ?_, ?_, ?_, ?_, ?_, ?_, ?_, ?_⟩ ?_
    · have q9 := B_sg.out
      (repeat (first | (with_reducible assumption) | (with_reducible exact Cel.new _ _ _ _ (by first | rfl | omega | (simp; done) | (simp; omega))) | (with_reducible refine Cel.alloc ?_ _) | (with_reducible refine Cel.drew ?_) | (with_reducible refine Cel.drewN ?_ _) | (with_reducible refine Cel.other ?_ _ _ _ (by omega))))
    · have q9 := B_sx.out
      (repeat (first | (with_reducible assumption) | (with_reducible exact Cel.new _ _ _ _ (by first | rfl | omega | (simp; done) | (simp; omega))) | (with_reducible refine Cel.alloc ?_ _) | (with_reducible refine Cel.drew ?_) | (with_reducible refine Cel.drewN ?_ _) | (with_reducible refine Cel.other ?_ _ _ _ (by omega))))
    · have q9 := B_ex.out
      (repeat (first | (with_reducible assumption) | (with_reducible exact Cel.new _ _ _ _ (by first | rfl | omega | (simp; done) | (simp; omega))) | (with_reducible refine Cel.alloc ?_ _) | (with_reducible refine Cel.drew ?_) | (with_reducible refine Cel.drewN ?_ _) | (with_reducible refine Cel.other ?_ _ _ _ (by omega))))
    · have q9 := B_st.out
      (repeat (first | (with_reducible assumption) | (with_reducible exact Cel.new _ _ _ _ (by first | rfl | omega | (simp; done) | (simp; omega))) | (with_reducible refine Cel.alloc ?_ _) | (with_reducible refine Cel.drew ?_) | (with_reducible refine Cel.drewN ?_ _) | (with_reducible refine Cel.other ?_ _ _ _ (by omega))))
    · have q9 := B_sy.out
      (repeat (first | (with_reducible assumption) | (with_reducible exact Cel.new _ _ _ _ (by first | rfl | omega | (simp; done) | (simp; omega))) | (with_reducible refine Cel.alloc ?_ _) | (with_reducible refine Cel.drew ?_) | (with_reducible refine Cel.drewN ?_ _) | (with_reducible refine Cel.other ?_ _ _ _ (by omega))))
    · have q9 := B_ey.out
      (repeat (first | (with_reducible assumption) | (with_reducible exact Cel.new _ _ _ _ (by first | rfl | omega | (simp; done) | (simp; omega))) | (with_reducible refine Cel.alloc ?_ _) | (with_reducible refine Cel.drew ?_) | (with_reducible refine Cel.drewN ?_ _) | (with_reducible refine Cel.other ?_ _ _ _ (by omega))))
    · have q9 := (show Cel ((((u.setCell ⟨zz, 0, none⟩ (.int .i64 p)).setCell ⟨zz, 1, none⟩ (.slice (some ⟨z1, 0, none⟩) 8 zr)).setCell ⟨zz, 2, none⟩ (.slice (some ⟨z2, 0, none⟩) 5 zc)).setCell ⟨zz, 3, none⟩ (.slice (some ⟨z3, 0, none⟩) 256 zm)) zz [.int .i64 p, .slice (some ⟨z1, 0, none⟩) 8 zr, .slice (some ⟨z2, 0, none⟩) 5 zc, .slice (some ⟨z3, 0, none⟩) 256 zm] from ((((B_sz.out.set 0 (.int .i64 p) (by simp)).set 1 (.slice (some ⟨z1, 0, none⟩) 8 zr) (by simp)).set 2 (.slice (some ⟨z2, 0, none⟩) 5 zc) (by simp)).set 3 (.slice (some ⟨z3, 0, none⟩) 256 zm) (by simp)))
      (repeat (first | (with_reducible assumption) | (with_reducible exact Cel.new _ _ _ _ (by first | rfl | omega | (simp; done) | (simp; omega))) | (with_reducible refine Cel.alloc ?_ _) | (with_reducible refine Cel.drew ?_) | (with_reducible refine Cel.drewN ?_ _) | (with_reducible refine Cel.other ?_ _ _ _ (by omega))))
    · have q9 := O_g.out
      (repeat (first | (with_reducible assumption) | (with_reducible refine Own.alloc ?_ _) | (with_reducible refine Own.drew ?_) | (with_reducible refine Own.drewN ?_ _) | (with_reducible refine Own.other ?_ _ _ _ (by omega) (by omega) (by omega))))
    · have q9 := O_x.out
      (repeat (first | (with_reducible assumption) | (with_reducible refine Own.alloc ?_ _) | (with_reducible refine Own.drew ?_) | (with_reducible refine Own.drewN ?_ _) | (with_reducible refine Own.other ?_ _ _ _ (by omega) (by omega) (by omega))))
    · have q9 := O_t.out
      (repeat (first | (with_reducible assumption) | (with_reducible refine Own.alloc ?_ _) | (with_reducible refine Own.drew ?_) | (with_reducible refine Own.drewN ?_ _) | (with_reducible refine Own.other ?_ _ _ _ (by omega) (by omega) (by omega))))
    · have q9 := O_y.out
      (repeat (first | (with_reducible assumption) | (with_reducible refine Own.alloc ?_ _) | (with_reducible refine Own.drew ?_) | (with_reducible refine Own.drewN ?_ _) | (with_reducible refine Own.other ?_ _ _ _ (by omega) (by omega) (by omega))))
    · have q9 := O_z.out
      (repeat (first | (with_reducible assumption) | (with_reducible refine Own.alloc ?_ _) | (with_reducible refine Own.drew ?_) | (with_reducible refine Own.drewN ?_ _) | (with_reducible refine Own.other ?_ _ _ _ (by omega) (by omega) (by omega))))
    · refine fr_but (L := [zz]) HF.out ?_ (fun k hk => by first | (cases hk; done) | (simp at hk; omega))
      (repeat (first | (with_reducible exact But.refl _ _) | (with_reducible assumption) | (with_reducible refine But.alloc ?_ _) | (with_reducible refine But.drew ?_) | (with_reducible refine But.drewN ?_ _) | (with_reducible refine But.set ?_ _ _ _ (by first | (left; simp; done) | (right; simp; done) | (right; omega) | (right; simp; omega)))))
    rintro u47 ⟨z0, z1, z2, z3, z4, z5, z6, z7, z8, z9, z10, z11, z12⟩
    replace B_sg := Lib.hid z0
    replace B_sx := Lib.hid z1
    replace B_ex := Lib.hid z2
    replace B_st := Lib.hid z3
    replace B_sy := Lib.hid z4
    replace B_ey := Lib.hid z5
    replace B_sz := Lib.hid z6
    replace O_g := Lib.hid z7
    replace O_x := Lib.hid z8
    replace O_t := Lib.hid z9
    replace O_y := Lib.hid z10
    replace O_z := Lib.hid z11
    replace HF := Lib.hid z12
    clear z0 z1 z2 z3 z4 z5 z6 z7 z8 z9 z10 z11 z12
    clear c39 c40 c41 c42 c43 c44 c45 c46
    generalize zz = zz at *
    have c48 : u47.cell? ⟨zz, 0, none⟩ = some (.int .i64 p) := B_sz.out.cel 0 (by simp)
    have c49 : u47.cell? ⟨zz, 1, none⟩ = some (.slice (some ⟨z1, 0, none⟩) 8 zr) := B_sz.out.cel 1 (by simp)
    have c50 : u47.cell? ⟨zz, 2, none⟩ = some (.slice (some ⟨z2, 0, none⟩) 5 zc) := B_sz.out.cel 2 (by simp)
    have c51 : u47.cell? ⟨zz, 3, none⟩ = some (.slice (some ⟨z3, 0, none⟩) 256 zm) := B_sz.out.cel 3 (by simp)
    go_wp2_with fail
    clear c48 c49 c50 c51
    have m53 := B_sg.out.lt
    have m54 := B_sx.out.lt
    have m55 := B_ex.out.lt
    have m56 := B_st.out.lt
    have m57 := B_sy.out.lt
    have m58 := B_ey.out.lt
    have m59 := B_sz.out.lt
    refine (step_to (s := ⟨p, (hR a b).set 3 101, zeros 5, (hM 100 wd).set p.toNat wd3⟩) (s2 := ⟨101, (hR a b).set 3 101, zeros 5, (hM 100 wd).set p.toNat wd3⟩) (e2 := ⟨p, wd3, 0, 0, 0, -1, 0⟩) O_z.out HK3.out rfl (HT.out.fr HF.out) HST3.out).mono ?_
    rintro e u52 ⟨k1, k2, k3, kr, kc, km, he, ho, hl1, hl2, hl3, f⟩
    replace B_sg := Lib.hid (B_sg.out.fr f)
    replace B_sx := Lib.hid (B_sx.out.fr f)
    replace B_ex := Lib.hid (B_ex.out.fr f)
    replace B_st := Lib.hid (B_st.out.fr f)
    replace B_sy := Lib.hid (B_sy.out.fr f)
    replace B_ey := Lib.hid (B_ey.out.fr f)
    replace B_sz := Lib.hid (B_sz.out.fr f)
    replace O_g := Lib.hid (O_g.out.fr f)
    replace O_x := Lib.hid (O_x.out.fr f)
    replace O_t := Lib.hid (O_t.out.fr f)
    replace O_y := Lib.hid (O_y.out.fr f)
    replace O_z := Lib.hid (O_z.out.fr f)
    replace HF := Lib.hid (Fr.trans HF.out f)
    have O_k := Lib.hid (show Own u52 k1 k2 k3 ⟨101, (hR a b).set 3 101, zeros 5, (hM 100 wd).set p.toNat wd3⟩ from ho)
    have he2 : e = .returned (.tuple #[.agg #[.int .i64 101, .slice (some ⟨k1, 0, none⟩) 8 kr, .slice (some ⟨k2, 0, none⟩) 5 kc, .slice (some ⟨k3, 0, none⟩) 256 km], .agg #[.int .i64 p, .int .i64 wd3, .int .i64 0, .int .i64 0, .int .i64 0, .int .i64 (-1), .int .i64 0]]) := he
    subst he2
    clear he ho f
    have m60a := O_k.out.R.lt
    have m60b := O_k.out.C.lt
    have m60c := O_k.out.M.lt
    go_upto_region 13 with fail
    refine wp_gen (fun v9 => Cel v9 N_x [.int .i64 p, .slice (some ⟨g1, 0, none⟩) 8 gr, .slice (some ⟨g2, 0, none⟩) 5 gc, .slice (some ⟨g3, 0, none⟩) 256 gm] ∧ Cel v9 (N_x + 1) [.int .i64 p, .slice (some ⟨x1, 0, none⟩) 8 xr, .slice (some ⟨x2, 0, none⟩) 5 xc, .slice (some ⟨x3, 0, none⟩) 256 xm] ∧ Cel v9 (N_x + 1 + 1) [.int .i64 100, .int .i64 wd, .int .i64 0, .int .i64 3, .int .i64 101, .int .i64 (-1), .int .i64 0] ∧ Cel v9 N_y [.int .i64 pc2, .slice (some ⟨t1, 0, none⟩) 8 tr, .slice (some ⟨t2, 0, none⟩) 5 tc, .slice (some ⟨t3, 0, none⟩) 256 tm] ∧ Cel v9 (N_y + 1) [.int .i64 pc2, .slice (some ⟨y1, 0, none⟩) 8 yr, .slice (some ⟨y2, 0, none⟩) 5 yc, .slice (some ⟨y3, 0, none⟩) 256 ym] ∧ Cel v9 (N_y + 1 + 1) [.int .i64 100, .int .i64 wd2, .int .i64 0, .int .i64 3, .int .i64 101, .int .i64 (-1), .int .i64 0] ∧ Cel v9 zz [.int .i64 p, .slice (some ⟨z1, 0, none⟩) 8 zr, .slice (some ⟨z2, 0, none⟩) 5 zc, .slice (some ⟨z3, 0, none⟩) 256 zm] ∧ Cel v9 u52.heap.size [.int .i64 101, .slice (some ⟨k1, 0, none⟩) 8 kr, .slice (some ⟨k2, 0, none⟩) 5 kc, .slice (some ⟨k3, 0, none⟩) 256 km] ∧ Cel v9 (u52.heap.size + 1) [.int .i64 p, .int .i64 wd3, .int .i64 0, .int .i64 0, .int .i64 0, .int .i64 (-1), .int .i64 0] ∧ Own v9 g1 g2 g3 ⟨p, (hR a b).set 3 101, zeros 5, hM 100 wd⟩ ∧ Own v9 x1 x2 x3 ⟨p, (hR a b).set 3 101, zeros 5, hM 100 wd⟩ ∧ Own v9 t1 t2 t3 ⟨pc2, (hR a b).set 3 101, zeros 5, hM 100 wd2⟩ ∧ Own v9 y1 y2 y3 ⟨pc2, (hR a b).set 3 101, zeros 5, hM 100 wd2⟩ ∧ Own v9 z1 z2 z3 ⟨p, (hR a b).set 3 101, zeros 5, (hM 100 wd).set p.toNat wd3⟩ ∧ Own v9 k1 k2 k3 ⟨101, (hR a b).set 3 101, zeros 5, (hM 100 wd).set p.toNat wd3⟩ ∧ Fr w v9) ⟨?_, ?_, ?_, ?_, ?_, ?_, ?_, ?_, ?_, ?_, ?_, ?_, ?_, ?_, ?_, ?_⟩ ?_
    · have q9 := B_sg.out
      (repeat (first | (with_reducible assumption) | (with_reducible exact Cel.new _ _ _ _ (by first | rfl | omega | (simp; done) | (simp; omega))) | (with_reducible refine Cel.alloc ?_ _) | (with_reducible refine Cel.drew ?_) | (with_reducible refine Cel.drewN ?_ _) | (with_reducible refine Cel.other ?_ _ _ _ (by omega))))
    · have q9 := B_sx.out
      (repeat (first | (with_reducible assumption) | (with_reducible exact Cel.new _ _ _ _ (by first | rfl | omega | (simp; done) | (simp; omega))) | (with_reducible refine Cel.alloc ?_ _) | (with_reducible refine Cel.drew ?_) | (with_reducible refine Cel.drewN ?_ _) | (with_reducible refine Cel.other ?_ _ _ _ (by omega))))
    · have q9 := B_ex.out
      (repeat (first | (with_reducible assumption) | (with_reducible exact Cel.new _ _ _ _ (by first | rfl | omega | (simp; done) | (simp; omega))) | (with_reducible refine Cel.alloc ?_ _) | (with_reducible refine Cel.drew ?_) | (with_reducible refine Cel.drewN ?_ _) | (with_reducible refine Cel.other ?_ _ _ _ (by omega))))
    · have q9 := B_st.out
      (repeat (first | (with_reducible assumption) | (with_reducible exact Cel.new _ _ _ _ (by first | rfl | omega | (simp; done) | (simp; omega))) | (with_reducible refine Cel.alloc ?_ _) | (with_reducible refine Cel.drew ?_) | (with_reducible refine Cel.drewN ?_ _) | (with_reducible refine Cel.other ?_ _ _ _ (by omega))))
    · have q9 := B_sy.out
      (repeat (first | (with_reducible assumption) | (with_reducible exact Cel.new _ _ _ _ (by first | rfl | omega | (simp; done) | (simp; omega))) | (with_reducible refine Cel.alloc ?_ _) | (with_reducible refine Cel.drew ?_) | (with_reducible refine Cel.drewN ?_ _) | (with_reducible refine Cel.other ?_ _ _ _ (by omega))))
    · have q9 := B_ey.out
      (repeat (first | (with_reducible assumption) | (with_reducible exact Cel.new _ _ _ _ (by first | rfl | omega | (simp; done) | (simp; omega))) | (with_reducible refine Cel.alloc ?_ _) | (with_reducible refine Cel.drew ?_) | (with_reducible refine Cel.drewN ?_ _) | (with_reducible refine Cel.other ?_ _ _ _ (by omega))))
    · have q9 := B_sz.out
      (repeat (first | (with_reducible assumption) | (with_reducible exact Cel.new _ _ _ _ (by first | rfl | omega | (simp; done) | (simp; omega))) | (with_reducible refine Cel.alloc ?_ _) | (with_reducible refine Cel.drew ?_) | (with_reducible refine Cel.drewN ?_ _) | (with_reducible refine Cel.other ?_ _ _ _ (by omega))))
    · (repeat (first | (with_reducible assumption) | (with_reducible exact Cel.new _ _ _ _ (by first | rfl | omega | (simp; done) | (simp; omega))) | (with_reducible refine Cel.alloc ?_ _) | (with_reducible refine Cel.drew ?_) | (with_reducible refine Cel.drewN ?_ _) | (with_reducible refine Cel.other ?_ _ _ _ (by omega))))
    · (repeat (first | (with_reducible assumption) | (with_reducible exact Cel.new _ _ _ _ (by first | rfl | omega | (simp; done) | (simp; omega))) | (with_reducible refine Cel.alloc ?_ _) | (with_reducible refine Cel.drew ?_) | (with_reducible refine Cel.drewN ?_ _) | (with_reducible refine Cel.other ?_ _ _ _ (by omega))))
    · have q9 := O_g.out
      (repeat (first | (with_reducible assumption) | (with_reducible refine Own.alloc ?_ _) | (with_reducible refine Own.drew ?_) | (with_reducible refine Own.drewN ?_ _) | (with_reducible refine Own.other ?_ _ _ _ (by omega) (by omega) (by omega))))
    · have q9 := O_x.out
      (repeat (first | (with_reducible assumption) | (with_reducible refine Own.alloc ?_ _) | (with_reducible refine Own.drew ?_) | (with_reducible refine Own.drewN ?_ _) | (with_reducible refine Own.other ?_ _ _ _ (by omega) (by omega) (by omega))))
    · have q9 := O_t.out
      (repeat (first | (with_reducible assumption) | (with_reducible refine Own.alloc ?_ _) | (with_reducible refine Own.drew ?_) | (with_reducible refine Own.drewN ?_ _) | (with_reducible refine Own.other ?_ _ _ _ (by omega) (by omega) (by omega))))
    · have q9 := O_y.out
      (repeat (first | (with_reducible assumption) | (with_reducible refine Own.alloc ?_ _) | (with_reducible refine Own.drew ?_) | (with_reducible refine Own.drewN ?_ _) | (with_reducible refine Own.other ?_ _ _ _ (by omega) (by omega) (by omega))))
    · have q9 := O_z.out
      (repeat (first | (with_reducible assumption) | (with_reducible refine Own.alloc ?_ _) | (with_reducible refine Own.drew ?_) | (with_reducible refine Own.drewN ?_ _) | (with_reducible refine Own.other ?_ _ _ _ (by omega) (by omega) (by omega))))
    · have q9 := O_k.out
      (repeat (first | (with_reducible assumption) | (with_reducible refine Own.alloc ?_ _) | (with_reducible refine Own.drew ?_) | (with_reducible refine Own.drewN ?_ _) | (with_reducible refine Own.other ?_ _ _ _ (by omega) (by omega) (by omega))))
    · refine fr_but (L := []) HF.out ?_ (fun k hk => by first | (cases hk; done) | (simp at hk; omega))
      (repeat (first | (with_reducible exact But.refl _ _) | (with_reducible assumption) | (with_reducible refine But.alloc ?_ _) | (with_reducible refine But.drew ?_) | (with_reducible refine But.drewN ?_ _) | (with_reducible refine But.set ?_ _ _ _ (by first | (left; simp; done) | (right; simp; done) | (right; omega) | (right; simp; omega)))))
    rintro u61 ⟨z0, z1, z2, z3, z4, z5, z6, z7, z8, z9, z10, z11, z12, z13, z14, z15⟩
    replace B_sg := Lib.hid z0
    replace B_sx := Lib.hid z1
    replace B_ex := Lib.hid z2
    replace B_st := Lib.hid z3
    replace B_sy := Lib.hid z4
    replace B_ey := Lib.hid z5
    replace B_sz := Lib.hid z6
    have B_sk := Lib.hid z7
    have B_ek := Lib.hid z8
    replace O_g := Lib.hid z9
    replace O_x := Lib.hid z10
    replace O_t := Lib.hid z11
    replace O_y := Lib.hid z12
    replace O_z := Lib.hid z13
    replace O_k := Lib.hid z14
    replace HF := Lib.hid z15
    clear z0 z1 z2 z3 z4 z5 z6 z7 z8 z9 z10 z11 z12 z13 z14 z15
    generalize u52.heap.size = N_k at *
    have c62 : u61.cell? ⟨N_x + 1, 0, none⟩ = some (.int .i64 p) := B_sx.out.cel 0 (by simp)
    have c63 : u61.cell? ⟨N_x + 1, 1, none⟩ = some (.slice (some ⟨x1, 0, none⟩) 8 xr) := B_sx.out.cel 1 (by simp)
    have c64 : u61.cell? ⟨N_x + 1, 2, none⟩ = some (.slice (some ⟨x2, 0, none⟩) 5 xc) := B_sx.out.cel 2 (by simp)
    have c65 : u61.cell? ⟨N_x + 1, 3, none⟩ = some (.slice (some ⟨x3, 0, none⟩) 256 xm) := B_sx.out.cel 3 (by simp)
    have c66 : u61.cell? ⟨N_x, 0, none⟩ = some (.int .i64 p) := B_sg.out.cel 0 (by simp)
    have c67 : u61.cell? ⟨N_x, 1, none⟩ = some (.slice (some ⟨g1, 0, none⟩) 8 gr) := B_sg.out.cel 1 (by simp)
    have c68 : u61.cell? ⟨N_x, 2, none⟩ = some (.slice (some ⟨g2, 0, none⟩) 5 gc) := B_sg.out.cel 2 (by simp)
    have c69 : u61.cell? ⟨N_x, 3, none⟩ = some (.slice (some ⟨g3, 0, none⟩) 256 gm) := B_sg.out.cel 3 (by simp)
    go_wp2_with fail
    clear c62 c63 c64 c65 c66 c67 c68 c69
    refine (same_pln O_g.out O_x.out L_x.out.Rl L_x.out.Cl L_x.out.Ml).mono ?_
    rintro e u70 ⟨rfl, f⟩
    replace B_sg := Lib.hid (B_sg.out.fr f)
    replace B_sx := Lib.hid (B_sx.out.fr f)
    replace B_ex := Lib.hid (B_ex.out.fr f)
    replace B_st := Lib.hid (B_st.out.fr f)
    replace B_sy := Lib.hid (B_sy.out.fr f)
    replace B_ey := Lib.hid (B_ey.out.fr f)
    replace B_sz := Lib.hid (B_sz.out.fr f)
    replace B_sk := Lib.hid (B_sk.out.fr f)
    replace B_ek := Lib.hid (B_ek.out.fr f)
    replace O_g := Lib.hid (O_g.out.fr f)
    replace O_x := Lib.hid (O_x.out.fr f)
    replace O_t := Lib.hid (O_t.out.fr f)
    replace O_y := Lib.hid (O_y.out.fr f)
    replace O_z := Lib.hid (O_z.out.fr f)
    replace O_k := Lib.hid (O_k.out.fr f)
    replace HF := Lib.hid (Fr.trans HF.out f)
    clear f
    have c71 : u70.cell? ⟨N_x + 1 + 1, 4, none⟩ = some (.int .i64 101) := B_ex.out.cel 4 (by simp)
    have c72 : u70.cell? ⟨N_y + 1, 0, none⟩ = some (.int .i64 pc2) := B_sy.out.cel 0 (by simp)
    have c73 : u70.cell? ⟨N_y + 1, 1, none⟩ = some (.slice (some ⟨y1, 0, none⟩) 8 yr) := B_sy.out.cel 1 (by simp)
    have c74 : u70.cell? ⟨N_y + 1, 2, none⟩ = some (.slice (some ⟨y2, 0, none⟩) 5 yc) := B_sy.out.cel 2 (by simp)
    have c75 : u70.cell? ⟨N_y + 1, 3, none⟩ = some (.slice (some ⟨y3, 0, none⟩) 256 ym) := B_sy.out.cel 3 (by simp)
    have c76 : u70.cell? ⟨N_y, 0, none⟩ = some (.int .i64 pc2) := B_st.out.cel 0 (by simp)
    have c77 : u70.cell? ⟨N_y, 1, none⟩ = some (.slice (some ⟨t1, 0, none⟩) 8 tr) := B_st.out.cel 1 (by simp)
    have c78 : u70.cell? ⟨N_y, 2, none⟩ = some (.slice (some ⟨t2, 0, none⟩) 5 tc) := B_st.out.cel 2 (by simp)
    have c79 : u70.cell? ⟨N_y, 3, none⟩ = some (.slice (some ⟨t3, 0, none⟩) 256 tm) := B_st.out.cel 3 (by simp)
    go_wp2_with fail
    clear c71 c72 c73 c74 c75 c76 c77 c78 c79
    refine (same_pln O_t.out O_y.out L_y.out.Rl L_y.out.Cl L_y.out.Ml).mono ?_
    rintro e u80 ⟨rfl, f⟩
    replace B_sg := Lib.hid (B_sg.out.fr f)
    replace B_sx := Lib.hid (B_sx.out.fr f)
    replace B_ex := Lib.hid (B_ex.out.fr f)
    replace B_st := Lib.hid (B_st.out.fr f)
    replace B_sy := Lib.hid (B_sy.out.fr f)
    replace B_ey := Lib.hid (B_ey.out.fr f)
    replace B_sz := Lib.hid (B_sz.out.fr f)
    replace B_sk := Lib.hid (B_sk.out.fr f)
    replace B_ek := Lib.hid (B_ek.out.fr f)
    replace O_g := Lib.hid (O_g.out.fr f)
    replace O_x := Lib.hid (O_x.out.fr f)
    replace O_t := Lib.hid (O_t.out.fr f)
    replace O_y := Lib.hid (O_y.out.fr f)
    replace O_z := Lib.hid (O_z.out.fr f)
    replace O_k := Lib.hid (O_k.out.fr f)
    replace HF := Lib.hid (Fr.trans HF.out f)
    clear f
    have c81 : u80.cell? ⟨N_y + 1 + 1, 4, none⟩ = some (.int .i64 101) := B_ey.out.cel 4 (by simp)
    have c82 : u80.cell? ⟨N_k, 0, none⟩ = some (.int .i64 101) := B_sk.out.cel 0 (by simp)
    go_wp2
    go_ret
    exact ⟨rfl, HF.out⟩

set_option maxRecDepth 100000 in
theorem lifted (os : Os) (started : os.Started) (H : Type) (enc : TypeId × Value → H) :
    ReturnsInHanded {} Tryd.checked os 10 .any (fun w args => (Rows.fnDoJumpSpec.pre enc Tryd.prog Tryd.f10 [] false w args ∧ laidMetH Tryd.prog laidAll w) ∧ sizedMet enc Tryd.prog Tryd.f10 (OpenSpec.ofChange Rows.fnDoJumpSpec) false w args)
      (Rows.fnDoJumpSpec.post enc Tryd.prog Tryd.f10 false true false false) := by
  refine returnsInHanded_of_change_and (C := Tryd.checked) (X := fun w _ => laidMetH Tryd.prog laidAll w) (fun _ _ _ hh h => h.of_heap hh) own started (by kernel_rfl) Tryd.func10
    (ChangeSpec.witness_shaped (enc := enc) (C := Tryd.checked) (os := os) (X := fun w _ => laidMetH Tryd.prog laidAll w) false (World.doorLaid Tryd.prog 400 os) #[.slice none 0 0] 8 rfl (World.shaped_of_RefB (by kernel_rfl) (by kernel_rfl)) (by kernel_rfl) (by kernel_rfl) (by kernel_rfl) (door_met os _)) ?_
  intro W base args ds gs before hval0 hW _ _ hL _
  have hval : ∀ (j : Nat) t v, Tryd.f10.params[j]? = some t → args[j]? = some v → Value.okWide Tryd.prog W .any base t v := hval0
  have hW' := hW
  obtain ⟨p, q, hA0, hV0, rfl, hfz, hnd⟩ := hW
  have hA : DataW.TrodAll enc Tryd.prog W 0 (fun _ => true) true Tryd.f10.params.toList args.toList ds p := hA0
  have hV : DataW.TrodVars enc Tryd.prog W (fun _ => true) laidNames gs q := hV0
  rw [Tryd.params10] at hA hval
  obtain ⟨v0, vs0, d0, ds0, p0, q0, hargs, rfl, rfl, h0, r0⟩ := trodAll_cons hA
  obtain ⟨rfl, rfl, rfl⟩ := trodAll_nil r0
  obtain rfl : args = #[v0] := by cases args; simp_all
  have hV1 := hV
  obtain ⟨g0, t0, cs0, f0, e0, s0, g1, t1, cs1, f1, e1, s1, rfl, _⟩ := trodVars_two hV1
  obtain ⟨a0, len0, cap0, rfl⟩ := okWide_slice Tryd.underlying42 (hval 0 42 v0 rfl rfl)
  have k0 := h0
  have lt0 : ∀ x ∈ p0, x.block < W.heap.size := by obtain ⟨m, hm⟩ := k0; exact DataW.trod_lt m _ _ _ hm
  obtain ⟨z0, w0⟩ : ∃ zs, IsRow .u8 W a0 len0 cap0 zs := by
    obtain ⟨fuel, hf⟩ := h0
    rcases open_ints Tryd.underlying42 Tryd.underlying5 (by kernel_rfl) hf with ⟨hcs, _⟩ | ⟨x, l, c, zs, hcs, _, hl, hm, hz, _, hcell, hwz⟩
    · simp [Value.cells] at hcs
      obtain ⟨rfl, rfl, rfl⟩ := hcs
      exact ⟨[], .inl ⟨rfl, rfl, rfl, rfl⟩⟩
    · simp [Value.cells] at hcs
      obtain ⟨rfl, rfl, rfl⟩ := hcs
      exact ⟨zs, .inr ⟨_, rfl, hl, hm, by simpa using hz, hcell, hwz⟩⟩
  clear hA0 hval0 hV1
  refine (walk a0 len0 cap0 z0 W (tabs_of_laid hL) w0).mono fun e W' ⟨he, bel⟩ => ?_
  subst he
  exact ⟨_, rfl, _, _, _, [], _, _, hW', trodAll_mk1 (shut_bool Tryd.underlying4 _), (trodAll_cons_mk (Below.trod laidOut (by kernel_rfl) (of_decide_eq_true (by kernel_rfl)) k0 bel lt0) trodAll_mk0), bel.trodVars laidOut (by kernel_rfl) hV, bel.frame _, fun h => by cases h⟩

theorem over : Rows.fnDoJumpRow.holds Tryd.pinned (OpenSpec.ofChange Rows.fnDoJumpSpec) :=
  OpenClaim.holds_of_wide 10 Tryd.f10 rfl rfl rfl rfl rfl rfl rfl ⟨rfl, rfl, rfl, rfl, rfl⟩ rfl rfl rfl rfl rfl (by kernel_rfl) Tryd.func10 (by kernel_rfl)
    (of_decide_eq_true (by kernel_rfl)) (by unfold Func.isWrapper; first | (rw [if_pos (by decide +kernel)]; kernel_rfl) | (rw [if_neg (by decide +kernel)]; exact ⟨rfl, rfl⟩))
    (fun os started H enc _ => lifted os started H enc)

/-- THE STATEMENT: the tied card. -/
theorem proved : Rows.FnDoJumpCardSaid :=
  Claim7.holds_tied_plain_at .later [] [.wider, .data] true (true, "9dc2e115a97561e3249269897313e148c9c7960c406c87ea32a23191d0e08754") true
    over (fun _ h => by cases h) (by kernel_rfl) (fun _ h => by cases h) fnDoJump_row_tie rfl ⟨rfl, rfl⟩ (by kernel_rfl) rfl
    (fun f fn hf hfn => by
      obtain rfl : f = 10 := Option.some.inj ((show Tryd.prog.funcNamed "loop.example/harbinger/laws.FnDoJump" = some 10 by kernel_rfl).symm.trans hf) |>.symm
      obtain rfl : fn = Tryd.f10 := (Option.some.inj (Tryd.func10.symm.trans hfn)).symm
      exact ⟨by kernel_rfl, fun j t ht => by
        rw [Tryd.params10] at ht
        have hm : t ∈ [42] := by simpa using Array.mem_of_getElem? ht
        have hall : ([42].all fun u => !Tryd.prog.wantsStandIn u) = true := by kernel_rfl
        exact (show Tryd.prog.wantsStandIn t = false by simpa using List.all_eq_true.1 hall t hm)⟩)
    (by kernel_rfl)
#print axioms proved
end Go.Proofs.YtbjapncfgancoaaDoor.fnDoJump
