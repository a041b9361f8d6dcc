/- For every code (any bytes), law FnDoMem returns true and its argument reads as before (no condition; the two tables read as the program's text lays them, which the card ties). -/
import Derived.Test.YtbjapncfgancoaaDoorCards
import Derived.Test.YtbjapncfgancoaaDoorTie
import Derived.Test.YtbjapncfgancoaaDoorLaid
import Derived.Test.YtbjapncfgancoaaDoorSx
import Derived.WalkKit
import Derived.ProofKit
import Derived.OpenShut
import Derived.ShutString
import Derived.SliceStrings
import Derived.ChangeOld
import Derived.Below
import Derived.SevenTiedAt
namespace Go.Proofs.YtbjapncfgancoaaDoor.fnDoMem
open Go.ChangeShapes Go.WideShapes Go.ChangeAt Go.RowKit
set_option linter.unusedVariables false

def IsRow (k : IntKind) (w : World) (a : Option Addr) (len cap : Nat) (zs : List Int) : Prop :=
  (a = none ∧ len = 0 ∧ cap = 0 ∧ zs = []) ∨
  ∃ x, a = some x ∧ len ≤ cap ∧ cap ≤ maxLen ∧ zs.length = cap ∧ (∀ i, i < zs.length → w.cell? (x.add i) = some (.int k (zs.getD i 0))) ∧ ∀ n ∈ zs, (Lit.int k n).wf = true

set_option maxRecDepth 100000 in
set_option maxHeartbeats 8000000 in
theorem walk (a0 : Option Addr) (len0 cap0 : Nat) (z0 : List Int) (w : World) (ht : Tabs w) (w0 : IsRow .u8 w a0 len0 cap0 z0) :
    Calls Tryd.prog 11 #[.slice a0 len0 cap0] w fun e w' => e = .returned (.bool true) ∧ Below w.heap.size w w' := by
  have hc : Code1 w.heap.size w a0 len0 cap0 := by
    rcases w0 with ⟨rfl, rfl, rfl, rfl⟩ | ⟨x, rfl, hl, hm, hz, hcell, hwz⟩
    · exact ⟨Nat.le_refl _, Nat.le_refl _, Nat.zero_le _, .inl rfl, fun _ => rfl⟩
    · exact ⟨Nat.le_refl _, hl, hm, bytes_of_row hl hz hcell hwz, by simp⟩
  clear w0
  by_cases hlen : (1048576 : Int) < (len0 : Int)
  · go_enter Tryd.func11, Tryd.ntmps11
    go_wp2
    go_ret
    exact ⟨rfl, Below.refl _ _⟩
  have HT := Lib.hid ht
  have hl : len0 ≤ 1048576 := by omega
  clear ht
  go_enter Tryd.func11, Tryd.ntmps11
  go_wp2_with fail
  refine (laws_haWords w.heap.size a0 len0 cap0 w hc hl).mono ?_
  rintro e w' ⟨a, b, ha, hb, rfl, rfl⟩
  obtain ⟨a0', a1'⟩ := okB_true ha
  obtain ⟨b0', b1'⟩ := okB_true hb
  clear hc hl
  obtain ⟨ad, had⟩ : ∃ x, 120 + a % 100 = x := ⟨_, rfl⟩
  have ad0 : 120 ≤ ad := by omega
  have ad1 : ad ≤ 219 := by omega
  obtain ⟨n, hn⟩ : ∃ x, b % 20 - 10 = x := ⟨_, rfl⟩
  have n0 : -10 ≤ n := by omega
  have n1 : n ≤ 9 := by omega
  obtain ⟨fa, hfa⟩ : ∃ x, 256 + a % 1000 = x := ⟨_, rfl⟩
  have fa0 : 256 ≤ fa := by omega
  have fa1 : fa < 65536 := by omega
  have HAD := Lib.hid (okB_mk (show 0 ≤ ad by omega) (show ad < 65536 by omega))
  have HFA := Lib.hid (okB_mk (show 0 ≤ fa by omega) (show fa < 65536 by omega))
  have hi1 : iok 4 0 1 2 0 n = true := by simp [iok, okAt, layN, layL, eL, eG, encL]; omega
  have hi2 : iok 3 3 1 0 0 n = true := by simp [iok, okAt, layN, layL, eL, eG, encL]; omega
  have hi3 : iok 4 0 1 2 0 0 = true := by simp [iok, okAt, layN, layL, eL, eG, encL]
  have hi4 : iok 3 3 1 0 0 0 = true := by simp [iok, okAt, layN, layL, eL, eG, encL]
  obtain ⟨wd, hwd⟩ : ∃ x, worD 4 0 1 2 0 n = x := ⟨_, rfl⟩
  obtain ⟨wd2, hwd2⟩ : ∃ x, worD 3 3 1 0 0 n = x := ⟨_, rfl⟩
  obtain ⟨wd3, hwd3⟩ : ∃ x, worD 4 0 1 2 0 0 = x := ⟨_, rfl⟩
  obtain ⟨wd4, hwd4⟩ : ∃ x, worD 3 3 1 0 0 0 = x := ⟨_, rfl⟩
  obtain ⟨q, hq⟩ : ∃ x, ad + n = x := ⟨_, rfl⟩
  have q0 : 100 ≤ q := by omega
  have q1 : q < 256 := by omega
  have hst1 : stepS (hS 40 wd ad b) false = (⟨41, hR ad b, zeros 5, (hM 40 wd).set q.toNat b⟩, ⟨40, wd, 0, 0, 0, q, b⟩) := sup_save (hS_sup (by omega) (by omega)) hi1 hwd (by show (ad + n) % 65536 = q; omega) (by omega) q1
  have hk0 : OkS (hS 40 wd ad b) := hS_ok (by omega) (by omega) (worD_ok hi1 hwd) HAD.out hb
  have hk1 := step_okS hk0 hst1
  have hk2 : OkS ⟨41, hR ad b, zeros 5, ((hM 40 wd).set q.toNat b).set 41 wd2⟩ := lay_okS (a := 41) hk1 (by omega) (by omega) (worD_ok hi2 hwd2)
  have hst2 : stepS ⟨41, hR ad b, zeros 5, ((hM 40 wd).set q.toNat b).set 41 wd2⟩ false = (⟨42, (hR ad b).set 3 b, zeros 5, ((hM 40 wd).set q.toNat b).set 41 wd2⟩, ⟨41, wd2, 0, 3, b, -1, 0⟩) :=
    sup_load (s := ⟨41, hR ad b, zeros 5, ((hM 40 wd).set q.toNat b).set 41 wd2⟩) ⟨by show (0 : Int) ≤ 41; omega, by show (41 : Int) < 256; omega, (hS_sup (pc := 40) (wd := wd) (a := ad) (b := b) (by omega) (by omega)).c, by show (((hM 40 wd).set q.toNat b).set 41 wd2).getD 41 0 = wd2; rw [getD_set, if_pos ⟨rfl, by simp [hM, zeros]⟩]⟩ hi2 hwd2 (by show (ad + n) % 65536 = q; omega) (by omega) q1 (by show (((hM 40 wd).set q.toNat b).set 41 wd2).getD q.toNat 0 = b; rw [getD_set, if_neg (by omega), getD_set, if_pos ⟨rfl, by simp [hM, zeros]; omega⟩])
  have hst3 : stepS (hS 40 wd3 fa b) false = (⟨8, hR fa b, stopC (hS 40 wd3 fa b) 4, hM 40 wd3⟩, ⟨40, wd3, 4, 0, 0, -1, 0⟩) := sup_save_far (hS_sup (by omega) (by omega)) hi3 hwd3 (by show (fa + 0) % 65536 = fa; omega) fa0
  have hst4 : stepS (hS 40 wd4 fa b) false = (⟨8, hR fa b, stopC (hS 40 wd4 fa b) 3, hM 40 wd4⟩, ⟨40, wd4, 3, 0, 0, -1, 0⟩) := sup_load_far (hS_sup (by omega) (by omega)) hi4 hwd4 (by show (fa + 0) % 65536 = fa; omega) fa0
  have HI1 := Lib.hid hi1
  have HI2 := Lib.hid hi2
  have HI3 := Lib.hid hi3
  have HI4 := Lib.hid hi4
  have HWD := Lib.hid hwd
  have HWD2 := Lib.hid hwd2
  have HWD3 := Lib.hid hwd3
  have HWD4 := Lib.hid hwd4
  have HST1 := Lib.hid hst1
  have HST2 := Lib.hid hst2
  have HST3 := Lib.hid hst3
  have HST4 := Lib.hid hst4
  have HK0 := Lib.hid hk0
  have HK1 := Lib.hid hk1
  have HK2 := Lib.hid hk2
  clear hi1 hi2 hi3 hi4 hwd hwd2 hwd3 hwd4 hst1 hst2 hst3 hst4 hk0 hk1 hk2
  have HF : Hid (Fr w w) := Lib.hid (Below.refl _ _)
  go_wp2_with fail
  refine (run_to (s2 := ⟨41, hR ad b, zeros 5, (hM 40 wd).set q.toNat b⟩) (e2 := ⟨40, wd, 0, 0, 0, q, b⟩) HI1.out (by omega) (by omega) HAD.out hb HWD.out HST1.out w (HT.out.fr HF.out)).mono ?_
  rintro e u1 ⟨g1, g2, g3, gr, gc, gm, x1, x2, x3, xr, xc, xm, X0, he, ho, hx, ⟨hl1, hl2, hl3, hl4, hl5, hl6, hl7, hl8, hl9⟩, f⟩
  replace HF := Lib.hid (Fr.trans HF.out f)
  have O_g := Lib.hid (show Own u1 g1 g2 g3 ⟨40, hR ad b, zeros 5, hM 40 wd⟩ from ho)
  have O_x := Lib.hid (show Own u1 x1 x2 x3 ⟨41, hR ad b, zeros 5, (hM 40 wd).set q.toNat b⟩ from hx)
  have he2 : e = .returned (.tuple #[.agg #[.int .i64 40, .slice (some ⟨g1, 0, none⟩) 8 gr, .slice (some ⟨g2, 0, none⟩) 5 gc, .slice (some ⟨g3, 0, none⟩) 256 gm], .agg #[.int .i64 41, .slice (some ⟨x1, 0, none⟩) 8 xr, .slice (some ⟨x2, 0, none⟩) 5 xc, .slice (some ⟨x3, 0, none⟩) 256 xm], .agg #[.int .i64 40, .int .i64 wd, .int .i64 0, .int .i64 0, .int .i64 0, .int .i64 q, .int .i64 b]]) := he
  subst he2
  clear he ho hx f
  have m2a := O_g.out.R.lt
  have m2b := O_g.out.C.lt
  have m2c := O_g.out.M.lt
  have m3a := O_x.out.R.lt
  have m3b := O_x.out.C.lt
  have m3c := O_x.out.M.lt
  go_upto_region 7 with fail
  refine wp_gen (fun v9 => Cel v9 u1.heap.size [.int .i64 40, .slice (some ⟨g1, 0, none⟩) 8 gr, .slice (some ⟨g2, 0, none⟩) 5 gc, .slice (some ⟨g3, 0, none⟩) 256 gm] ∧ Cel v9 (u1.heap.size + 1) [.int .i64 41, .slice (some ⟨x1, 0, none⟩) 8 xr, .slice (some ⟨x2, 0, none⟩) 5 xc, .slice (some ⟨x3, 0, none⟩) 256 xm] ∧ Cel v9 (u1.heap.size + 1 + 1) [.int .i64 40, .int .i64 wd, .int .i64 0, .int .i64 0, .int .i64 0, .int .i64 q, .int .i64 b] ∧ Own v9 g1 g2 g3 ⟨40, hR ad b, zeros 5, hM 40 wd⟩ ∧ Own v9 x1 x2 x3 ⟨41, hR ad b, zeros 5, (hM 40 wd).set q.toNat b⟩ ∧ Fr w v9) ⟨?_, ?_, ?_, ?_, ?_, ?_⟩ ?_
  · (repeat (first | (with_reducible assumption) | (with_reducible exact Cel.new _ _ _ _ (by first | rfl | omega | (simp; done) | (simp; omega))) | (with_reducible refine Cel.alloc ?_ _) | (with_reducible refine Cel.drew ?_) | (with_reducible refine Cel.drewN ?_ _) | (with_reducible refine Cel.other ?_ _ _ _ (by omega))))
  · (repeat (first | (with_reducible assumption) | (with_reducible exact Cel.new _ _ _ _ (by first | rfl | omega | (simp; done) | (simp; omega))) | (with_reducible refine Cel.alloc ?_ _) | (with_reducible refine Cel.drew ?_) | (with_reducible refine Cel.drewN ?_ _) | (with_reducible refine Cel.other ?_ _ _ _ (by omega))))
  · (repeat (first | (with_reducible assumption) | (with_reducible exact Cel.new _ _ _ _ (by first | rfl | omega | (simp; done) | (simp; omega))) | (with_reducible refine Cel.alloc ?_ _) | (with_reducible refine Cel.drew ?_) | (with_reducible refine Cel.drewN ?_ _) | (with_reducible refine Cel.other ?_ _ _ _ (by omega))))
  · have q9 := O_g.out
    (repeat (first | (with_reducible assumption) | (with_reducible refine Own.alloc ?_ _) | (with_reducible refine Own.drew ?_) | (with_reducible refine Own.drewN ?_ _) | (with_reducible refine Own.other ?_ _ _ _ (by omega) (by omega) (by omega))))
  · have q9 := O_x.out
    (repeat (first | (with_reducible assumption) | (with_reducible refine Own.alloc ?_ _) | (with_reducible refine Own.drew ?_) | (with_reducible refine Own.drewN ?_ _) | (with_reducible refine Own.other ?_ _ _ _ (by omega) (by omega) (by omega))))
  · refine fr_but (L := []) HF.out ?_ (fun k hk => by first | (cases hk; done) | (simp at hk; omega))
    (repeat (first | (with_reducible exact But.refl _ _) | (with_reducible assumption) | (with_reducible refine But.alloc ?_ _) | (with_reducible refine But.drew ?_) | (with_reducible refine But.drewN ?_ _) | (with_reducible refine But.set ?_ _ _ _ (by first | (left; simp; done) | (right; simp; done) | (right; omega) | (right; simp; omega)))))
  rintro u4 ⟨z0, z1, z2, z3, z4, z5⟩
  have B_sg := Lib.hid z0
  have B_sx := Lib.hid z1
  have B_ex := Lib.hid z2
  replace O_g := Lib.hid z3
  replace O_x := Lib.hid z4
  replace HF := Lib.hid z5
  clear z0 z1 z2 z3 z4 z5
  generalize u1.heap.size = N_x at *
  have L_g : Hid (Lens ⟨40, hR ad b, zeros 5, hM 40 wd⟩) := Lib.hid ⟨HK0.out.Rl, HK0.out.Cl, HK0.out.Ml⟩
  have L_x : Hid (Lens ⟨41, hR ad b, zeros 5, (hM 40 wd).set q.toNat b⟩) := Lib.hid ⟨HK1.out.Rl, HK1.out.Cl, HK1.out.Ml⟩
  have c5 : u4.cell? ⟨N_x, 3, none⟩ = some (.slice (some ⟨g3, 0, none⟩) 256 gm) := B_sg.out.cel 3 (by simp)
  have ix0 : 0 ≤ q := by omega
  have ix1 : q < 256 := by omega
  have r6 := O_g.out.M.cel q.toNat (by rw [L_g.out.Ml]; omega)
  have r7 : u4.frozen? ⟨g3, q.toNat, none⟩ = false := O_g.out.M.fro q.toNat (by rw [L_g.out.Ml]; omega)
  go_upto_region 8 with fail
  refine wp_gen (fun v9 => Cel v9 N_x [.int .i64 40, .slice (some ⟨g1, 0, none⟩) 8 gr, .slice (some ⟨g2, 0, none⟩) 5 gc, .slice (some ⟨g3, 0, none⟩) 256 gm] ∧ Cel v9 (N_x + 1) [.int .i64 41, .slice (some ⟨x1, 0, none⟩) 8 xr, .slice (some ⟨x2, 0, none⟩) 5 xc, .slice (some ⟨x3, 0, none⟩) 256 xm] ∧ Cel v9 (N_x + 1 + 1) [.int .i64 40, .int .i64 wd, .int .i64 0, .int .i64 0, .int .i64 0, .int .i64 q, .int .i64 b] ∧ Own v9 g1 g2 g3 ⟨40, hR ad b, zeros 5, (hM 40 wd).set q.toNat b⟩ ∧ Own v9 x1 x2 x3 ⟨41, hR ad b, zeros 5, (hM 40 wd).set q.toNat b⟩ ∧ Fr w v9) ⟨?_, ?_, ?_, ?_, ?_, ?_⟩ ?_
  · have q9 := B_sg.out
    (repeat (first | (with_reducible assumption) | (with_reducible exact Cel.new _ _ _ _ (by first | rfl | omega | (simp; done) | (simp; omega))) | (with_reducible refine Cel.alloc ?_ _) | (with_reducible refine Cel.drew ?_) | (with_reducible refine Cel.drewN ?_ _) | (with_reducible refine Cel.other ?_ _ _ _ (by omega))))
  · have q9 := B_sx.out
    (repeat (first | (with_reducible assumption) | (with_reducible exact Cel.new _ _ _ _ (by first | rfl | omega | (simp; done) | (simp; omega))) | (with_reducible refine Cel.alloc ?_ _) | (with_reducible refine Cel.drew ?_) | (with_reducible refine Cel.drewN ?_ _) | (with_reducible refine Cel.other ?_ _ _ _ (by omega))))
  · have q9 := B_ex.out
    (repeat (first | (with_reducible assumption) | (with_reducible exact Cel.new _ _ _ _ (by first | rfl | omega | (simp; done) | (simp; omega))) | (with_reducible refine Cel.alloc ?_ _) | (with_reducible refine Cel.drew ?_) | (with_reducible refine Cel.drewN ?_ _) | (with_reducible refine Cel.other ?_ _ _ _ (by omega))))
  · have q9 := (show Own (u4.setCell ⟨g3, q.toNat, none⟩ (.int .i64 b)) g1 g2 g3 ⟨40, hR ad b, zeros 5, (hM 40 wd).set q.toNat b⟩ from O_g.out.setM q.toNat b (by rw [L_g.out.Ml]; omega) 40)
    (repeat (first | (with_reducible assumption) | (with_reducible refine Own.alloc ?_ _) | (with_reducible refine Own.drew ?_) | (with_reducible refine Own.drewN ?_ _) | (with_reducible refine Own.other ?_ _ _ _ (by omega) (by omega) (by omega))))
  · have q9 := O_x.out
    (repeat (first | (with_reducible assumption) | (with_reducible refine Own.alloc ?_ _) | (with_reducible refine Own.drew ?_) | (with_reducible refine Own.drewN ?_ _) | (with_reducible refine Own.other ?_ _ _ _ (by omega) (by omega) (by omega))))
  · refine fr_but (L := [g3]) HF.out ?_ (fun k hk => by first | (cases hk; done) | (simp at hk; omega))
    (repeat (first | (with_reducible exact But.refl _ _) | (with_reducible assumption) | (with_reducible refine But.alloc ?_ _) | (with_reducible refine But.drew ?_) | (with_reducible refine But.drewN ?_ _) | (with_reducible refine But.set ?_ _ _ _ (by first | (left; simp; done) | (right; simp; done) | (right; omega) | (right; simp; omega)))))
  rintro u8 ⟨z0, z1, z2, z3, z4, z5⟩
  replace B_sg := Lib.hid z0
  replace B_sx := Lib.hid z1
  replace B_ex := Lib.hid z2
  replace O_g := Lib.hid z3
  replace O_x := Lib.hid z4
  replace HF := Lib.hid z5
  clear z0 z1 z2 z3 z4 z5
  clear L_g
  have L_g : Hid (Lens ⟨40, hR ad b, zeros 5, (hM 40 wd).set q.toNat b⟩) := Lib.hid ⟨HK1.out.Rl, HK1.out.Cl, HK1.out.Ml⟩
  clear c5 ix0 ix1 r6 r7
  have c9 : u8.cell? ⟨N_x, 0, none⟩ = some (.int .i64 40) := B_sg.out.cel 0 (by simp)
  have c10 : u8.frozen? ⟨N_x, 0, none⟩ = false := B_sg.out.fro 0 (by simp)
  go_upto_region 9 with fail
  refine wp_gen (fun v9 => Cel v9 N_x [.int .i64 41, .slice (some ⟨g1, 0, none⟩) 8 gr, .slice (some ⟨g2, 0, none⟩) 5 gc, .slice (some ⟨g3, 0, none⟩) 256 gm] ∧ Cel v9 (N_x + 1) [.int .i64 41, .slice (some ⟨x1, 0, none⟩) 8 xr, .slice (some ⟨x2, 0, none⟩) 5 xc, .slice (some ⟨x3, 0, none⟩) 256 xm] ∧ Cel v9 (N_x + 1 + 1) [.int .i64 40, .int .i64 wd, .int .i64 0, .int .i64 0, .int .i64 0, .int .i64 q, .int .i64 b] ∧ Own v9 g1 g2 g3 ⟨40, hR ad b, zeros 5, (hM 40 wd).set q.toNat b⟩ ∧ Own v9 x1 x2 x3 ⟨41, hR ad b, zeros 5, (hM 40 wd).set q.toNat b⟩ ∧ Fr w v9) ⟨?_, ?_, ?_, ?_, ?_, ?_⟩ ?_
  · have q9 := (show Cel (u8.setCell ⟨N_x, 0, none⟩ (.int .i64 41)) N_x [.int .i64 41, .slice (some ⟨g1, 0, none⟩) 8 gr, .slice (some ⟨g2, 0, none⟩) 5 gc, .slice (some ⟨g3, 0, none⟩) 256 gm] from B_sg.out.set 0 _ (by simp))
    (repeat (first | (with_reducible assumption) | (with_reducible exact Cel.new _ _ _ _ (by first | rfl | omega | (simp; done) | (simp; omega))) | (with_reducible refine Cel.alloc ?_ _) | (with_reducible refine Cel.drew ?_) | (with_reducible refine Cel.drewN ?_ _) | (with_reducible refine Cel.other ?_ _ _ _ (by omega))))
  · have q9 := B_sx.out
    (repeat (first | (with_reducible assumption) | (with_reducible exact Cel.new _ _ _ _ (by first | rfl | omega | (simp; done) | (simp; omega))) | (with_reducible refine Cel.alloc ?_ _) | (with_reducible refine Cel.drew ?_) | (with_reducible refine Cel.drewN ?_ _) | (with_reducible refine Cel.other ?_ _ _ _ (by omega))))
  · have q9 := B_ex.out
    (repeat (first | (with_reducible assumption) | (with_reducible exact Cel.new _ _ _ _ (by first | rfl | omega | (simp; done) | (simp; omega))) | (with_reducible refine Cel.alloc ?_ _) | (with_reducible refine Cel.drew ?_) | (with_reducible refine Cel.drewN ?_ _) | (with_reducible refine Cel.other ?_ _ _ _ (by omega))))
  · have q9 := O_g.out
    (repeat (first | (with_reducible assumption) | (with_reducible refine Own.alloc ?_ _) | (with_reducible refine Own.drew ?_) | (with_reducible refine Own.drewN ?_ _) | (with_reducible refine Own.other ?_ _ _ _ (by omega) (by omega) (by omega))))
  · have q9 := O_x.out
    (repeat (first | (with_reducible assumption) | (with_reducible refine Own.alloc ?_ _) | (with_reducible refine Own.drew ?_) | (with_reducible refine Own.drewN ?_ _) | (with_reducible refine Own.other ?_ _ _ _ (by omega) (by omega) (by omega))))
  · refine fr_but (L := [N_x]) HF.out ?_ (fun k hk => by first | (cases hk; done) | (simp at hk; omega))
    (repeat (first | (with_reducible exact But.refl _ _) | (with_reducible assumption) | (with_reducible refine But.alloc ?_ _) | (with_reducible refine But.drew ?_) | (with_reducible refine But.drewN ?_ _) | (with_reducible refine But.set ?_ _ _ _ (by first | (left; simp; done) | (right; simp; done) | (right; omega) | (right; simp; omega)))))
  rintro u11 ⟨z0, z1, z2, z3, z4, z5⟩
  replace B_sg := Lib.hid z0
  replace B_sx := Lib.hid z1
  replace B_ex := Lib.hid z2
  replace O_g := Lib.hid z3
  replace O_x := Lib.hid z4
  replace HF := Lib.hid z5
  clear z0 z1 z2 z3 z4 z5
  clear c9 c10
  replace O_g := Lib.hid (show Own u11 g1 g2 g3 ⟨41, hR ad b, zeros 5, (hM 40 wd).set q.toNat b⟩ from O_g.out.pc 41)
  refine wp_region_rows 137 6 [] (fun _ => []) lb0_in (fun i => false) (fun i v9 u => match i with | 0 => v9 = .agg #[.int .i64 41, .slice (some ⟨x1, 0, none⟩) 8 xr, .slice (some ⟨x2, 0, none⟩) 5 xc, .slice (some ⟨x3, 0, none⟩) 256 xm] | 1 => v9 = .int .i64 n | 2 => v9 = .agg #[.int .i64 3, .int .i64 3, .int .i64 1, .int .i64 0, .int .i64 0, .int .i64 n] | 3 => v9 = .int .i64 wd2 | 4 => ∃ y1 y2 y3 yr yc ym, v9 = .agg #[.int .i64 41, .slice (some ⟨y1, 0, none⟩) 8 yr, .slice (some ⟨y2, 0, none⟩) 5 yc, .slice (some ⟨y3, 0, none⟩) 256 ym] ∧ Own u y1 y2 y3 ⟨41, hR ad b, zeros 5, ((hM 40 wd).set q.toNat b).set 41 wd2⟩ ∧ (u11.heap.size ≤ y1 ∧ u11.heap.size ≤ y2 ∧ u11.heap.size ≤ y3) | 5 => ∃ zz, v9 = .pointer (some ⟨zz, 0, none⟩) ∧ Cel u zz [.int .i64 0, .slice none 0 0, .slice none 0 0, .slice none 0 0] ∧ u11.heap.size ≤ zz | _ => True) ?mono (by kernel_rfl) (by kernel_rfl) rfl (by kernel_rfl) (by kernel_rfl) (by decide) ?step ?fin
  case mono =>
    intro i j v u u' hi hij hdj hsz h hB
    rcases j with _ | _ | _ | _ | _ | _ | _ | j
    · exact h
    · exact h
    · exact h
    · exact h
    · obtain ⟨k1, k2, k3, kr, kc, km, e, ho, hh⟩ := h
      exact ⟨k1, k2, k3, kr, kc, km, e, ho.but hB (by simp) (by simp) (by simp), hh⟩
    · obtain ⟨zz, e, hz, hm⟩ := h
      exact ⟨zz, e, hz.but hB (by simp), hm⟩
    · trivial
    · trivial
  case step =>
    intro i o ho hiz
    rcases i with _ | _ | _ | _ | _ | _ | _ | i
    · clear hiz
      cases ho
      intro act u hB hL hdep hap hnw
      replace hB := hB [] (fun j _ k hk => lb0_in j k hk)
      obtain ⟨ysl, ha, hy⟩ := hL.puts [50, 51, 52, 53, 54, 10] (by kernel_rfl)
      clear hdep hL hy hap hnw
      simp only [List.foldl, List.setIfInBounds_toArray, List.set_cons_succ, List.set_cons_zero] at ha
      subst ha
      have c12 : u.cell? ⟨N_x + 1, 0, none⟩ = some (.int .i64 41) := (B_sx.out.but hB (by first | (simp; done) | (simp; omega))).cel 0 (by simp)
      have c13 : u.cell? ⟨N_x + 1, 1, none⟩ = some (.slice (some ⟨x1, 0, none⟩) 8 xr) := (B_sx.out.but hB (by first | (simp; done) | (simp; omega))).cel 1 (by simp)
      have c14 : u.cell? ⟨N_x + 1, 2, none⟩ = some (.slice (some ⟨x2, 0, none⟩) 5 xc) := (B_sx.out.but hB (by first | (simp; done) | (simp; omega))).cel 2 (by simp)
      have c15 : u.cell? ⟨N_x + 1, 3, none⟩ = some (.slice (some ⟨x3, 0, none⟩) 256 xm) := (B_sx.out.but hB (by first | (simp; done) | (simp; omega))).cel 3 (by simp)
      refine wpOp_step rfl (fun K hK => ?_)
      go_simp
      exact hK _ _ ⟨_, rfl, (fun h => by cases h), (by first | rfl | (exact congrArg (Value.int .i64) (by first | rfl | (rw [IntWalk.i64_left, IntWalk.wrap64_in _ (by omega)]) | omega)) | simp | (simp; omega)), But.refl _ _, (fun h => by cases h)⟩
    · clear hiz
      cases ho
      intro act u hB hL hdep hap hnw
      replace hB := hB [] (fun j _ k hk => lb0_in j k hk)
      obtain ⟨ysl, ha, hy⟩ := hL.puts [50, 51, 52, 53, 54, 10] (by kernel_rfl)
      clear hdep hL hy hap hnw
      simp only [List.foldl, List.setIfInBounds_toArray, List.set_cons_succ, List.set_cons_zero] at ha
      subst ha
      refine wpOp_step rfl (fun K hK => ?_)
      go_simp
      exact hK _ _ ⟨_, rfl, (fun h => by cases h), (by first | rfl | (exact congrArg (Value.int .i64) (by first | rfl | (rw [IntWalk.i64_left, IntWalk.wrap64_in _ (by omega)]) | omega)) | simp | (simp; omega)), But.refl _ _, (fun h => by cases h)⟩
    · clear hiz
      cases ho
      intro act u hB hL hdep hap hnw
      replace hB := hB [] (fun j _ k hk => lb0_in j k hk)
      have d1 := hdep { on := 1, ground := .data } (by simp) rfl _ rfl
      obtain ⟨ysl, ha, hy⟩ := hL.puts [50, 51, 52, 53, 54, 10] (by kernel_rfl)
      have e1 : ysl 51 = _ := (hy 51).symm.trans d1
      clear hdep hL hy hap hnw d1
      simp only [List.foldl, List.setIfInBounds_toArray, List.set_cons_succ, List.set_cons_zero, e1] at ha
      subst ha
      clear e1
      refine wpOp_step rfl (fun K hK => ?_)
      go_simp
      exact hK _ _ ⟨_, rfl, (fun h => by cases h), (by first | rfl | (exact congrArg (Value.int .i64) (by first | rfl | (rw [IntWalk.i64_left, IntWalk.wrap64_in _ (by omega)]) | omega)) | simp | (simp; omega)), But.refl _ _, (fun h => by cases h)⟩
    · clear hiz
      cases ho
      intro act u hB hL hdep hap hnw
      replace hB := hB [] (fun j _ k hk => lb0_in j k hk)
      have d2 := hdep { on := 2, ground := .data } (by simp) rfl _ rfl
      obtain ⟨ysl, ha, hy⟩ := hL.puts [50, 51, 52, 53, 54, 10] (by kernel_rfl)
      have e2 : ysl 52 = _ := (hy 52).symm.trans d2
      clear hdep hL hy hap hnw d2
      simp only [List.foldl, List.setIfInBounds_toArray, List.set_cons_succ, List.set_cons_zero, e2] at ha
      subst ha
      clear e2
      refine wpOp_step rfl (fun K hK => ?_)
      go_simp
      have EW := impl_CodWord 3 3 1 0 0 n u ((HT.out.fr HF.out).fr (fr_but (L := []) (Below.refl u11.heap.size u11) hB (fun k hk => by cases hk)))
      rw [HWD2.out] at EW
      refine EW.mono ?_
      rintro e u' ⟨rfl, f'⟩
      go_simp
      exact hK _ _ ⟨_, rfl, (fun h => by cases h), rfl, But.of f', (fun h => by cases h)⟩
    · clear hiz
      cases ho
      intro act u hB hL hdep hap hnw
      replace hB := hB [] (fun j _ k hk => lb0_in j k hk)
      have d0 := hdep { on := 0, ground := .data } (by simp) rfl _ rfl
      have d3 := hdep { on := 3, ground := .data } (by simp) rfl _ rfl
      obtain ⟨ysl, ha, hy⟩ := hL.puts [50, 51, 52, 53, 54, 10] (by kernel_rfl)
      have e0 : ysl 50 = _ := (hy 50).symm.trans d0
      have e3 : ysl 53 = _ := (hy 53).symm.trans d3
      clear hdep hL hy hap hnw d0 d3
      simp only [List.foldl, List.setIfInBounds_toArray, List.set_cons_succ, List.set_cons_zero, e0, e3] at ha
      subst ha
      clear e0 e3
      refine wpOp_step rfl (fun K hK => ?_)
      go_simp
      refine (lay_to (s := ⟨41, hR ad b, zeros 5, (hM 40 wd).set q.toNat b⟩) (O_x.out.fr (fr_but (L := []) (Below.refl u11.heap.size u11) hB (fun k hk => by cases hk))) HK1.out rfl (by omega) (by omega) (worD_ok HI2.out HWD2.out)).mono ?_
      rintro e u' ⟨k1, k2, k3, kr, kc, km, he, ho, hl1, hl2, hl3, f'⟩
      obtain rfl := he
      go_simp
      exact hK _ _ ⟨_, rfl, (fun h => by cases h), ⟨k1, k2, k3, kr, kc, km, rfl, ho, Nat.le_trans hB.size hl1, Nat.le_trans hB.size hl2, Nat.le_trans hB.size hl3⟩, But.of f', (fun h => by cases h)⟩
    · clear hiz
      cases ho
      intro act u hB hL hdep hap hnw
      replace hB := hB [] (fun j _ k hk => lb0_in j k hk)
      obtain ⟨ysl, ha, hy⟩ := hL.puts [50, 51, 52, 53, 54, 10] (by kernel_rfl)
      clear hdep hL hy hap hnw
      simp only [List.foldl, List.setIfInBounds_toArray, List.set_cons_succ, List.set_cons_zero] at ha
      subst ha
      refine wpOp_step rfl (fun K hK => ?_)
      go_simp
      exact hK _ _ ⟨_, rfl, (fun h => by cases h), ⟨_, rfl, Cel.new _ [.int .i64 0, .slice none 0 0, .slice none 0 0, .slice none 0 0] _ _ rfl, hB.size⟩, But.of (Fr.alloc _ _), (fun h => by cases h)⟩
    · exact absurd rfl hiz
    · exact absurd ho (by simp)
  case fin =>
    intro act u hB hL hsf hap hnw
    have d4 := hsf 4 _ rfl (by decide)
    have d5 := hsf 5 _ rfl (by decide)
    obtain ⟨ysl, ha, hy⟩ := hL.puts [50, 51, 52, 53, 54, 10] (by kernel_rfl)
    obtain ⟨y1, y2, y3, yr, yc, ym, h4, ho4, hl4⟩ := d4
    have e4 : ysl 54 = .agg #[.int .i64 41, .slice (some ⟨y1, 0, none⟩) 8 yr, .slice (some ⟨y2, 0, none⟩) 5 yc, .slice (some ⟨y3, 0, none⟩) 256 ym] := (hy 54).symm.trans h4
    obtain ⟨zz, h5, hz5, hm5⟩ := d5
    have e5 : ysl 10 = .pointer (some ⟨zz, 0, none⟩) := (hy 10).symm.trans h5
    clear hL hsf hy hap hnw h4 h5
    simp only [List.foldl, List.setIfInBounds_toArray, List.set_cons_succ, List.set_cons_zero, e4, e5] at ha
    subst ha
    clear e4 e5
    have m16 := B_sg.out.lt
    have m17 := B_sx.out.lt
    have m18 := B_ex.out.lt
    have fB : Fr u11 u := (fr_but (L := []) (Below.refl u11.heap.size u11) hB (fun k hk => by cases hk))
    replace B_sg := Lib.hid (B_sg.out.fr fB)
    replace B_sx := Lib.hid (B_sx.out.fr fB)
    replace B_ex := Lib.hid (B_ex.out.fr fB)
    replace O_g := Lib.hid (O_g.out.fr fB)
    replace O_x := Lib.hid (O_x.out.fr fB)
    replace HF := Lib.hid (Fr.trans HF.out fB)
    have B_sy := Lib.hid hz5
    have O_y := Lib.hid (show Own u y1 y2 y3 ⟨41, hR ad b, zeros 5, ((hM 40 wd).set q.toNat b).set 41 wd2⟩ from ho4)
    obtain ⟨hl1, hl2, hl3⟩ := hl4
    obtain ⟨nz1, nz2, nz3⟩ := apart_own hz5 ho4 (lay_okS (s := ⟨41, hR ad b, zeros 5, (hM 40 wd).set q.toNat b⟩) (a := 41) HK1.out (by omega) (by omega) (worD_ok HI2.out HWD2.out))
    clear hz5 ho4 hl4 hB fB
    have m19a := O_y.out.R.lt
    have m19b := O_y.out.C.lt
    have m19c := O_y.out.M.lt
    have mzz := B_sy.out.lt
    have c20 : u.cell? ⟨zz, 0, none⟩ = some (.int .i64 0) := B_sy.out.cel 0 (by simp)
    have c21 : u.cell? ⟨zz, 1, none⟩ = some (.slice none 0 0) := B_sy.out.cel 1 (by simp)
    have c22 : u.cell? ⟨zz, 2, none⟩ = some (.slice none 0 0) := B_sy.out.cel 2 (by simp)
    have c23 : u.cell? ⟨zz, 3, none⟩ = some (.slice none 0 0) := B_sy.out.cel 3 (by simp)
    have c24 : u.frozen? ⟨zz, 0, none⟩ = false := B_sy.out.fro 0 (by simp)
    have c25 : u.frozen? ⟨zz, 1, none⟩ = false := B_sy.out.fro 1 (by simp)
    have c26 : u.frozen? ⟨zz, 2, none⟩ = false := B_sy.out.fro 2 (by simp)
    have c27 : u.frozen? ⟨zz, 3, none⟩ = false := B_sy.out.fro 3 (by simp)
    refine wpOp_step rfl (fun K hK => ?_)
    go_simp
    refine hK _ _ ?_
    go_upto_region 10 with fail
    refine wp_gen (fun v9 => Cel v9 N_x [.int .i64 41, .slice (some ⟨g1, 0, none⟩) 8 gr, .slice (some ⟨g2, 0, none⟩) 5 gc, .slice (some ⟨g3, 0, none⟩) 256 gm] ∧ Cel v9 (N_x + 1) [.int .i64 41, .slice (some ⟨x1, 0, none⟩) 8 xr, .slice (some ⟨x2, 0, none⟩) 5 xc, .slice (some ⟨x3, 0, none⟩) 256 xm] ∧ Cel v9 (N_x + 1 + 1) [.int .i64 40, .int .i64 wd, .int .i64 0, .int .i64 0, .int .i64 0, .int .i64 q, .int .i64 b] ∧ Cel v9 zz [.int .i64 41, .slice (some ⟨y1, 0, none⟩) 8 yr, .slice (some ⟨y2, 0, none⟩) 5 yc, .slice (some ⟨y3, 0, none⟩) 256 ym] ∧ Own v9 g1 g2 g3 ⟨41, hR ad b, zeros 5, (hM 40 wd).set q.toNat b⟩ ∧ Own v9 x1 x2 x3 ⟨41, hR ad b, zeros 5, (hM 40 wd).set q.toNat b⟩ ∧ Own v9 y1 y2 y3 ⟨41, hR ad b, zeros 5, ((hM 40 wd).set q.toNat b).set 41 wd2⟩ ∧ Fr w v9) ⟨?_, ?_, ?_, ?_, ?_, ?_, ?_, ?_⟩ ?_
    · have q9 := B_sg.out
      (repeat (first | (with_reducible assumption) | (with_reducible exact Cel.new _ _ _ _ (by first | rfl | omega | (simp; done) | (simp; omega))) | (with_reducible refine Cel.alloc ?_ _) | (with_reducible refine Cel.drew ?_) | (with_reducible refine Cel.drewN ?_ _) | (with_reducible refine Cel.other ?_ _ _ _ (by omega))))
    · have q9 := B_sx.out
      (repeat (first | (with_reducible assumption) | (with_reducible exact Cel.new _ _ _ _ (by first | rfl | omega | (simp; done) | (simp; omega))) | (with_reducible refine Cel.alloc ?_ _) | (with_reducible refine Cel.drew ?_) | (with_reducible refine Cel.drewN ?_ _) | (with_reducible refine Cel.other ?_ _ _ _ (by omega))))
    · have q9 := B_ex.out
      (repeat (first | (with_reducible assumption) | (with_reducible exact Cel.new _ _ _ _ (by first | rfl | omega | (simp; done) | (simp; omega))) | (with_reducible refine Cel.alloc ?_ _) | (with_reducible refine Cel.drew ?_) | (with_reducible refine Cel.drewN ?_ _) | (with_reducible refine Cel.other ?_ _ _ _ (by omega))))
    · have q9 := (show Cel ((((u.setCell ⟨zz, 0, none⟩ (.int .i64 41)).setCell ⟨zz, 1, none⟩ (.slice (some ⟨y1, 0, none⟩) 8 yr)).setCell ⟨zz, 2, none⟩ (.slice (some ⟨y2, 0, none⟩) 5 yc)).setCell ⟨zz, 3, none⟩ (.slice (some ⟨y3, 0, none⟩) 256 ym)) zz [.int .i64 41, .slice (some ⟨y1, 0, none⟩) 8 yr, .slice (some ⟨y2, 0, none⟩) 5 yc, .slice (some ⟨y3, 0, none⟩) 256 ym] from ((((B_sy.out.set 0 (.int .i64 41) (by simp)).set 1 (.slice (some ⟨y1, 0, none⟩) 8 yr) (by simp)).set 2 (.slice (some ⟨y2, 0, none⟩) 5 yc) (by simp)).set 3 (.slice (some ⟨y3, 0, none⟩) 256 ym) (by simp)))
      (repeat (first | (with_reducible assumption) | (with_reducible exact Cel.new _ _ _ _ (by first | rfl | omega | (simp; done) | (simp; omega))) | (with_reducible refine Cel.alloc ?_ _) | (with_reducible refine Cel.drew ?_) | (with_reducible refine Cel.drewN ?_ _) | (with_reducible refine Cel.other ?_ _ _ _ (by omega))))
    · have q9 := O_g.out
      (repeat (first | (with_reducible assumption) | (with_reducible refine Own.alloc ?_ _) | (with_reducible refine Own.drew ?_) | (with_reducible refine Own.drewN ?_ _) | (with_reducible refine Own.other ?_ _ _ _ (by omega) (by omega) (by omega))))
    · have q9 := O_x.out
      (repeat (first | (with_reducible assumption) | (with_reducible refine Own.alloc ?_ _) | (with_reducible refine Own.drew ?_) | (with_reducible refine Own.drewN ?_ _) | (with_reducible refine Own.other ?_ _ _ _ (by omega) (by omega) (by omega))))
    · have q9 := O_y.out
      (repeat (first | (with_reducible assumption) | (with_reducible refine Own.alloc ?_ _) | (with_reducible refine Own.drew ?_) | (with_reducible refine Own.drewN ?_ _) | (with_reducible refine Own.other ?_ _ _ _ (by omega) (by omega) (by omega))))
    · refine fr_but (L := [zz]) HF.out ?_ (fun k hk => by first | (cases hk; done) | (simp at hk; omega))
      (repeat (first | (with_reducible exact But.refl _ _) | (with_reducible assumption) | (with_reducible refine But.alloc ?_ _) | (with_reducible refine But.drew ?_) | (with_reducible refine But.drewN ?_ _) | (with_reducible refine But.set ?_ _ _ _ (by first | (left; simp; done) | (right; simp; done) | (right; omega) | (right; simp; omega)))))
    rintro u28 ⟨z0, z1, z2, z3, z4, z5, z6, z7⟩
    replace B_sg := Lib.hid z0
    replace B_sx := Lib.hid z1
    replace B_ex := Lib.hid z2
    replace B_sy := Lib.hid z3
    replace O_g := Lib.hid z4
    replace O_x := Lib.hid z5
    replace O_y := Lib.hid z6
    replace HF := Lib.hid z7
    clear z0 z1 z2 z3 z4 z5 z6 z7
    clear c20 c21 c22 c23 c24 c25 c26 c27
    generalize zz = zy at *
    have c29 : u28.cell? ⟨zy, 0, none⟩ = some (.int .i64 41) := B_sy.out.cel 0 (by simp)
    have c30 : u28.cell? ⟨zy, 1, none⟩ = some (.slice (some ⟨y1, 0, none⟩) 8 yr) := B_sy.out.cel 1 (by simp)
    have c31 : u28.cell? ⟨zy, 2, none⟩ = some (.slice (some ⟨y2, 0, none⟩) 5 yc) := B_sy.out.cel 2 (by simp)
    have c32 : u28.cell? ⟨zy, 3, none⟩ = some (.slice (some ⟨y3, 0, none⟩) 256 ym) := B_sy.out.cel 3 (by simp)
    go_wp2_with fail
    clear c29 c30 c31 c32
    have m34 := B_sg.out.lt
    have m35 := B_sx.out.lt
    have m36 := B_ex.out.lt
    have m37 := B_sy.out.lt
    refine (step_to (s := ⟨41, hR ad b, zeros 5, ((hM 40 wd).set q.toNat b).set 41 wd2⟩) (s2 := ⟨42, (hR ad b).set 3 b, zeros 5, ((hM 40 wd).set q.toNat b).set 41 wd2⟩) (e2 := ⟨41, wd2, 0, 3, b, -1, 0⟩) O_y.out HK2.out rfl (HT.out.fr HF.out) HST2.out).mono ?_
    rintro e u33 ⟨z1, z2, z3, zr, zc, zm, he, ho, hl1, hl2, hl3, f⟩
    replace B_sg := Lib.hid (B_sg.out.fr f)
    replace B_sx := Lib.hid (B_sx.out.fr f)
    replace B_ex := Lib.hid (B_ex.out.fr f)
    replace B_sy := Lib.hid (B_sy.out.fr f)
    replace O_g := Lib.hid (O_g.out.fr f)
    replace O_x := Lib.hid (O_x.out.fr f)
    replace O_y := Lib.hid (O_y.out.fr f)
    replace HF := Lib.hid (Fr.trans HF.out f)
    have O_z := Lib.hid (show Own u33 z1 z2 z3 ⟨42, (hR ad b).set 3 b, zeros 5, ((hM 40 wd).set q.toNat b).set 41 wd2⟩ from ho)
    have he2 : e = .returned (.tuple #[.agg #[.int .i64 42, .slice (some ⟨z1, 0, none⟩) 8 zr, .slice (some ⟨z2, 0, none⟩) 5 zc, .slice (some ⟨z3, 0, none⟩) 256 zm], .agg #[.int .i64 41, .int .i64 wd2, .int .i64 0, .int .i64 3, .int .i64 b, .int .i64 (-1), .int .i64 0]]) := he
    subst he2
    clear he ho f
    have m38a := O_z.out.R.lt
    have m38b := O_z.out.C.lt
    have m38c := O_z.out.M.lt
    go_upto_region 11 with fail
    refine wp_gen (fun v9 => Cel v9 N_x [.int .i64 41, .slice (some ⟨g1, 0, none⟩) 8 gr, .slice (some ⟨g2, 0, none⟩) 5 gc, .slice (some ⟨g3, 0, none⟩) 256 gm] ∧ Cel v9 (N_x + 1) [.int .i64 41, .slice (some ⟨x1, 0, none⟩) 8 xr, .slice (some ⟨x2, 0, none⟩) 5 xc, .slice (some ⟨x3, 0, none⟩) 256 xm] ∧ Cel v9 (N_x + 1 + 1) [.int .i64 40, .int .i64 wd, .int .i64 0, .int .i64 0, .int .i64 0, .int .i64 q, .int .i64 b] ∧ Cel v9 zy [.int .i64 41, .slice (some ⟨y1, 0, none⟩) 8 yr, .slice (some ⟨y2, 0, none⟩) 5 yc, .slice (some ⟨y3, 0, none⟩) 256 ym] ∧ Cel v9 u33.heap.size [.int .i64 42, .slice (some ⟨z1, 0, none⟩) 8 zr, .slice (some ⟨z2, 0, none⟩) 5 zc, .slice (some ⟨z3, 0, none⟩) 256 zm] ∧ Cel v9 (u33.heap.size + 1) [.int .i64 41, .int .i64 wd2, .int .i64 0, .int .i64 3, .int .i64 b, .int .i64 (-1), .int .i64 0] ∧ Own v9 g1 g2 g3 ⟨41, hR ad b, zeros 5, (hM 40 wd).set q.toNat b⟩ ∧ Own v9 x1 x2 x3 ⟨41, hR ad b, zeros 5, (hM 40 wd).set q.toNat b⟩ ∧ Own v9 y1 y2 y3 ⟨41, hR ad b, zeros 5, ((hM 40 wd).set q.toNat b).set 41 wd2⟩ ∧ Own v9 z1 z2 z3 ⟨42, (hR ad b).set 3 b, zeros 5, ((hM 40 wd).set q.toNat b).set 41 wd2⟩ ∧ Fr w v9) ⟨?_, ?_, ?_, ?_, ?_, ?_, ?_, ?_, ?_, ?_, ?_⟩ ?_
    · have q9 := B_sg.out
      (repeat (first | (with_reducible assumption) | (with_reducible exact Cel.new _ _ _ _ (by first | rfl | omega | (simp; done) | (simp; omega))) | (with_reducible refine Cel.alloc ?_ _) | (with_reducible refine Cel.drew ?_) | (with_reducible refine Cel.drewN ?_ _) | (with_reducible refine Cel.other ?_ _ _ _ (by omega))))
    · have q9 := B_sx.out
      (repeat (first | (with_reducible assumption) | (with_reducible exact Cel.new _ _ _ _ (by first | rfl | omega | (simp; done) | (simp; omega))) | (with_reducible refine Cel.alloc ?_ _) | (with_reducible refine Cel.drew ?_) | (with_reducible refine Cel.drewN ?_ _) | (with_reducible refine Cel.other ?_ _ _ _ (by omega))))
    · have q9 := B_ex.out
      (repeat (first | (with_reducible assumption) | (with_reducible exact Cel.new _ _ _ _ (by first | rfl | omega | (simp; done) | (simp; omega))) | (with_reducible refine Cel.alloc ?_ _) | (with_reducible refine Cel.drew ?_) | (with_reducible refine Cel.drewN ?_ _) | (with_reducible refine Cel.other ?_ _ _ _ (by omega))))
    · have q9 := B_sy.out
      (repeat (first | (with_reducible assumption) | (with_reducible exact Cel.new _ _ _ _ (by first | rfl | omega | (simp; done) | (simp; omega))) | (with_reducible refine Cel.alloc ?_ _) | (with_reducible refine Cel.drew ?_) | (with_reducible refine Cel.drewN ?_ _) | (with_reducible refine Cel.other ?_ _ _ _ (by omega))))
    · (repeat (first | (with_reducible assumption) | (with_reducible exact Cel.new _ _ _ _ (by first | rfl | omega | (simp; done) | (simp; omega))) | (with_reducible refine Cel.alloc ?_ _) | (with_reducible refine Cel.drew ?_) | (with_reducible refine Cel.drewN ?_ _) | (with_reducible refine Cel.other ?_ _ _ _ (by omega))))
    · (repeat (first | (with_reducible assumption) | (with_reducible exact Cel.new _ _ _ _ (by first | rfl | omega | (simp; done) | (simp; omega))) | (with_reducible refine Cel.alloc ?_ _) | (with_reducible refine Cel.drew ?_) | (with_reducible refine Cel.drewN ?_ _) | (with_reducible refine Cel.other ?_ _ _ _ (by omega))))
    · have q9 := O_g.out
      (repeat (first | (with_reducible assumption) | (with_reducible refine Own.alloc ?_ _) | (with_reducible refine Own.drew ?_) | (with_reducible refine Own.drewN ?_ _) | (with_reducible refine Own.other ?_ _ _ _ (by omega) (by omega) (by omega))))
    · have q9 := O_x.out
      (repeat (first | (with_reducible assumption) | (with_reducible refine Own.alloc ?_ _) | (with_reducible refine Own.drew ?_) | (with_reducible refine Own.drewN ?_ _) | (with_reducible refine Own.other ?_ _ _ _ (by omega) (by omega) (by omega))))
    · have q9 := O_y.out
      (repeat (first | (with_reducible assumption) | (with_reducible refine Own.alloc ?_ _) | (with_reducible refine Own.drew ?_) | (with_reducible refine Own.drewN ?_ _) | (with_reducible refine Own.other ?_ _ _ _ (by omega) (by omega) (by omega))))
    · have q9 := O_z.out
      (repeat (first | (with_reducible assumption) | (with_reducible refine Own.alloc ?_ _) | (with_reducible refine Own.drew ?_) | (with_reducible refine Own.drewN ?_ _) | (with_reducible refine Own.other ?_ _ _ _ (by omega) (by omega) (by omega))))
    · refine fr_but (L := []) HF.out ?_ (fun k hk => by first | (cases hk; done) | (simp at hk; omega))
      (repeat (first | (with_reducible exact But.refl _ _) | (with_reducible assumption) | (with_reducible refine But.alloc ?_ _) | (with_reducible refine But.drew ?_) | (with_reducible refine But.drewN ?_ _) | (with_reducible refine But.set ?_ _ _ _ (by first | (left; simp; done) | (right; simp; done) | (right; omega) | (right; simp; omega)))))
    rintro u39 ⟨z0, z1, z2, z3, z4, z5, z6, z7, z8, z9, z10⟩
    replace B_sg := Lib.hid z0
    replace B_sx := Lib.hid z1
    replace B_ex := Lib.hid z2
    replace B_sy := Lib.hid z3
    have B_sz := Lib.hid z4
    have B_ez := Lib.hid z5
    replace O_g := Lib.hid z6
    replace O_x := Lib.hid z7
    replace O_y := Lib.hid z8
    replace O_z := Lib.hid z9
    replace HF := Lib.hid z10
    clear z0 z1 z2 z3 z4 z5 z6 z7 z8 z9 z10
    generalize u33.heap.size = N_z at *
    have hk3 := step_okS HK2.out HST2.out
    have L_z : Hid (Lens ⟨42, (hR ad b).set 3 b, zeros 5, ((hM 40 wd).set q.toNat b).set 41 wd2⟩) := Lib.hid ⟨hk3.Rl, hk3.Cl, hk3.Ml⟩
    clear hk3
    have c40 : u39.cell? ⟨N_x + 1, 0, none⟩ = some (.int .i64 41) := B_sx.out.cel 0 (by simp)
    have c41 : u39.cell? ⟨N_x + 1, 1, none⟩ = some (.slice (some ⟨x1, 0, none⟩) 8 xr) := B_sx.out.cel 1 (by simp)
    have c42 : u39.cell? ⟨N_x + 1, 2, none⟩ = some (.slice (some ⟨x2, 0, none⟩) 5 xc) := B_sx.out.cel 2 (by simp)
    have c43 : u39.cell? ⟨N_x + 1, 3, none⟩ = some (.slice (some ⟨x3, 0, none⟩) 256 xm) := B_sx.out.cel 3 (by simp)
    have c44 : u39.cell? ⟨N_x, 0, none⟩ = some (.int .i64 41) := B_sg.out.cel 0 (by simp)
    have c45 : u39.cell? ⟨N_x, 1, none⟩ = some (.slice (some ⟨g1, 0, none⟩) 8 gr) := B_sg.out.cel 1 (by simp)
    have c46 : u39.cell? ⟨N_x, 2, none⟩ = some (.slice (some ⟨g2, 0, none⟩) 5 gc) := B_sg.out.cel 2 (by simp)
    have c47 : u39.cell? ⟨N_x, 3, none⟩ = some (.slice (some ⟨g3, 0, none⟩) 256 gm) := B_sg.out.cel 3 (by simp)
    go_wp2_with fail
    clear c40 c41 c42 c43 c44 c45 c46 c47
    refine (same_pln O_g.out O_x.out L_x.out.Rl L_x.out.Cl L_x.out.Ml).mono ?_
    rintro e u48 ⟨rfl, f⟩
    replace B_sg := Lib.hid (B_sg.out.fr f)
    replace B_sx := Lib.hid (B_sx.out.fr f)
    replace B_ex := Lib.hid (B_ex.out.fr f)
    replace B_sy := Lib.hid (B_sy.out.fr f)
    replace B_sz := Lib.hid (B_sz.out.fr f)
    replace B_ez := Lib.hid (B_ez.out.fr f)
    replace O_g := Lib.hid (O_g.out.fr f)
    replace O_x := Lib.hid (O_x.out.fr f)
    replace O_y := Lib.hid (O_y.out.fr f)
    replace O_z := Lib.hid (O_z.out.fr f)
    replace HF := Lib.hid (Fr.trans HF.out f)
    clear f
    have c49 : u48.cell? ⟨N_x + 1 + 1, 5, none⟩ = some (.int .i64 q) := B_ex.out.cel 5 (by simp)
    have c50 : u48.cell? ⟨N_x + 1 + 1, 6, none⟩ = some (.int .i64 b) := B_ex.out.cel 6 (by simp)
    have c51 : u48.cell? ⟨N_z, 1, none⟩ = some (.slice (some ⟨z1, 0, none⟩) 8 zr) := B_sz.out.cel 1 (by simp)
    have r52 : u48.cell? ⟨z1, 3, none⟩ = some (.int .i64 b) := (O_z.out.R.cel 3 (by rw [L_z.out.Rl]; omega)).trans (congrArg (fun x => some (Value.int .i64 x)) (show ((hR ad b).set 3 b).getD 3 0 = b from by rw [getD_set, if_pos ⟨rfl, by simp [hR, zeros]⟩]))
    have c53 : u48.cell? ⟨N_z + 1, 4, none⟩ = some (.int .i64 b) := B_ez.out.cel 4 (by simp)
    have c54 : u48.cell? ⟨N_z + 1, 5, none⟩ = some (.int .i64 (-1)) := B_ez.out.cel 5 (by simp)
    go_upto_region 13 with fail
    refine wp_gen (fun v9 => Cel v9 N_x [.int .i64 41, .slice (some ⟨g1, 0, none⟩) 8 gr, .slice (some ⟨g2, 0, none⟩) 5 gc, .slice (some ⟨g3, 0, none⟩) 256 gm] ∧ Cel v9 (N_x + 1) [.int .i64 41, .slice (some ⟨x1, 0, none⟩) 8 xr, .slice (some ⟨x2, 0, none⟩) 5 xc, .slice (some ⟨x3, 0, none⟩) 256 xm] ∧ Cel v9 (N_x + 1 + 1) [.int .i64 40, .int .i64 wd, .int .i64 0, .int .i64 0, .int .i64 0, .int .i64 q, .int .i64 b] ∧ Cel v9 zy [.int .i64 41, .slice (some ⟨y1, 0, none⟩) 8 yr, .slice (some ⟨y2, 0, none⟩) 5 yc, .slice (some ⟨y3, 0, none⟩) 256 ym] ∧ Cel v9 N_z [.int .i64 42, .slice (some ⟨z1, 0, none⟩) 8 zr, .slice (some ⟨z2, 0, none⟩) 5 zc, .slice (some ⟨z3, 0, none⟩) 256 zm] ∧ Cel v9 (N_z + 1) [.int .i64 41, .int .i64 wd2, .int .i64 0, .int .i64 3, .int .i64 b, .int .i64 (-1), .int .i64 0] ∧ Own v9 g1 g2 g3 ⟨41, hR ad b, zeros 5, (hM 40 wd).set q.toNat b⟩ ∧ Own v9 x1 x2 x3 ⟨41, hR ad b, zeros 5, (hM 40 wd).set q.toNat b⟩ ∧ Own v9 y1 y2 y3 ⟨41, hR ad b, zeros 5, ((hM 40 wd).set q.toNat b).set 41 wd2⟩ ∧ Own v9 z1 z2 z3 ⟨42, (hR ad b).set 3 b, zeros 5, ((hM 40 wd).set q.toNat b).set 41 wd2⟩ ∧ Fr w v9) ⟨?_, ?_, ?_, ?_, ?_, ?_, ?_, ?_, ?_, ?_, ?_⟩ ?_
    · have q9 := B_sg.out
      (repeat (first | (with_reducible assumption) | (with_reducible exact Cel.new _ _ _ _ (by first | rfl | omega | (simp; done) | (simp; omega))) | (with_reducible refine Cel.alloc ?_ _) | (with_reducible refine Cel.drew ?_) | (with_reducible refine Cel.drewN ?_ _) | (with_reducible refine Cel.other ?_ _ _ _ (by omega))))
    · have q9 := B_sx.out
      (repeat (first | (with_reducible assumption) | (with_reducible exact Cel.new _ _ _ _ (by first | rfl | omega | (simp; done) | (simp; omega))) | (with_reducible refine Cel.alloc ?_ _) | (with_reducible refine Cel.drew ?_) | (with_reducible refine Cel.drewN ?_ _) | (with_reducible refine Cel.other ?_ _ _ _ (by omega))))
    · have q9 := B_ex.out
      (repeat (first | (with_reducible assumption) | (with_reducible exact Cel.new _ _ _ _ (by first | rfl | omega | (simp; done) | (simp; omega))) | (with_reducible refine Cel.alloc ?_ _) | (with_reducible refine Cel.drew ?_) | (with_reducible refine Cel.drewN ?_ _) | (with_reducible refine Cel.other ?_ _ _ _ (by omega))))
    · have q9 := B_sy.out
      (repeat (first | (with_reducible assumption) | (with_reducible exact Cel.new _ _ _ _ (by first | rfl | omega | (simp; done) | (simp; omega))) | (with_reducible refine Cel.alloc ?_ _) | (with_reducible refine Cel.drew ?_) | (with_reducible refine Cel.drewN ?_ _) | (with_reducible refine Cel.other ?_ _ _ _ (by omega))))
    · have q9 := B_sz.out
      (repeat (first | (with_reducible assumption) | (with_reducible exact Cel.new _ _ _ _ (by first | rfl | omega | (simp; done) | (simp; omega))) | (with_reducible refine Cel.alloc ?_ _) | (with_reducible refine Cel.drew ?_) | (with_reducible refine Cel.drewN ?_ _) | (with_reducible refine Cel.other ?_ _ _ _ (by omega))))
    · have q9 := B_ez.out
      (repeat (first | (with_reducible assumption) | (with_reducible exact Cel.new _ _ _ _ (by first | rfl | omega | (simp; done) | (simp; omega))) | (with_reducible refine Cel.alloc ?_ _) | (with_reducible refine Cel.drew ?_) | (with_reducible refine Cel.drewN ?_ _) | (with_reducible refine Cel.other ?_ _ _ _ (by omega))))
    · have q9 := O_g.out
      (repeat (first | (with_reducible assumption) | (with_reducible refine Own.alloc ?_ _) | (with_reducible refine Own.drew ?_) | (with_reducible refine Own.drewN ?_ _) | (with_reducible refine Own.other ?_ _ _ _ (by omega) (by omega) (by omega))))
    · have q9 := O_x.out
      (repeat (first | (with_reducible assumption) | (with_reducible refine Own.alloc ?_ _) | (with_reducible refine Own.drew ?_) | (with_reducible refine Own.drewN ?_ _) | (with_reducible refine Own.other ?_ _ _ _ (by omega) (by omega) (by omega))))
    · have q9 := O_y.out
      (repeat (first | (with_reducible assumption) | (with_reducible refine Own.alloc ?_ _) | (with_reducible refine Own.drew ?_) | (with_reducible refine Own.drewN ?_ _) | (with_reducible refine Own.other ?_ _ _ _ (by omega) (by omega) (by omega))))
    · have q9 := O_z.out
      (repeat (first | (with_reducible assumption) | (with_reducible refine Own.alloc ?_ _) | (with_reducible refine Own.drew ?_) | (with_reducible refine Own.drewN ?_ _) | (with_reducible refine Own.other ?_ _ _ _ (by omega) (by omega) (by omega))))
    · refine fr_but (L := []) HF.out ?_ (fun k hk => by first | (cases hk; done) | (simp at hk; omega))
      (repeat (first | (with_reducible exact But.refl _ _) | (with_reducible assumption) | (with_reducible refine But.alloc ?_ _) | (with_reducible refine But.drew ?_) | (with_reducible refine But.drewN ?_ _) | (with_reducible refine But.set ?_ _ _ _ (by first | (left; simp; done) | (right; simp; done) | (right; omega) | (right; simp; omega)))))
    rintro u55 ⟨z0, z1, z2, z3, z4, z5, z6, z7, z8, z9, z10⟩
    replace B_sg := Lib.hid z0
    replace B_sx := Lib.hid z1
    replace B_ex := Lib.hid z2
    replace B_sy := Lib.hid z3
    replace B_sz := Lib.hid z4
    replace B_ez := Lib.hid z5
    replace O_g := Lib.hid z6
    replace O_x := Lib.hid z7
    replace O_y := Lib.hid z8
    replace O_z := Lib.hid z9
    replace HF := Lib.hid z10
    clear z0 z1 z2 z3 z4 z5 z6 z7 z8 z9 z10
    clear c49 c50 c51 r52 c53 c54
    go_wp2_with fail
    have m57 := B_sg.out.lt
    have m58 := B_sx.out.lt
    have m59 := B_ex.out.lt
    have m60 := B_sy.out.lt
    have m61 := B_sz.out.lt
    have m62 := B_ez.out.lt
    refine (run_to (s2 := ⟨8, hR fa b, stopC (hS 40 wd3 fa b) 4, hM 40 wd3⟩) (e2 := ⟨40, wd3, 4, 0, 0, -1, 0⟩) HI3.out (by omega) (by omega) HFA.out hb HWD3.out HST3.out u55 (HT.out.fr HF.out)).mono ?_
    rintro e u56 ⟨k1, k2, k3, kr, kc, km, l1, l2, l3, lr, lc, lm, X0, he, ho, hx, ⟨hl1, hl2, hl3, hl4, hl5, hl6, hl7, hl8, hl9⟩, f⟩
    replace B_sg := Lib.hid (B_sg.out.fr f)
    replace B_sx := Lib.hid (B_sx.out.fr f)
    replace B_ex := Lib.hid (B_ex.out.fr f)
    replace B_sy := Lib.hid (B_sy.out.fr f)
    replace B_sz := Lib.hid (B_sz.out.fr f)
    replace B_ez := Lib.hid (B_ez.out.fr f)
    replace O_g := Lib.hid (O_g.out.fr f)
    replace O_x := Lib.hid (O_x.out.fr f)
    replace O_y := Lib.hid (O_y.out.fr f)
    replace O_z := Lib.hid (O_z.out.fr f)
    replace HF := Lib.hid (Fr.trans HF.out f)
    have O_k := Lib.hid (show Own u56 k1 k2 k3 ⟨40, hR fa b, zeros 5, hM 40 wd3⟩ from ho)
    have O_l := Lib.hid (show Own u56 l1 l2 l3 ⟨8, hR fa b, stopC (hS 40 wd3 fa b) 4, hM 40 wd3⟩ from hx)
    have he2 : e = .returned (.tuple #[.agg #[.int .i64 40, .slice (some ⟨k1, 0, none⟩) 8 kr, .slice (some ⟨k2, 0, none⟩) 5 kc, .slice (some ⟨k3, 0, none⟩) 256 km], .agg #[.int .i64 8, .slice (some ⟨l1, 0, none⟩) 8 lr, .slice (some ⟨l2, 0, none⟩) 5 lc, .slice (some ⟨l3, 0, none⟩) 256 lm], .agg #[.int .i64 40, .int .i64 wd3, .int .i64 4, .int .i64 0, .int .i64 0, .int .i64 (-1), .int .i64 0]]) := he
    subst he2
    clear he ho hx f
    have m63a := O_k.out.R.lt
    have m63b := O_k.out.C.lt
    have m63c := O_k.out.M.lt
    have m64a := O_l.out.R.lt
    have m64b := O_l.out.C.lt
    have m64c := O_l.out.M.lt
    go_upto_region 14 with fail
    refine wp_gen (fun v9 => Cel v9 N_x [.int .i64 41, .slice (some ⟨g1, 0, none⟩) 8 gr, .slice (some ⟨g2, 0, none⟩) 5 gc, .slice (some ⟨g3, 0, none⟩) 256 gm] ∧ Cel v9 (N_x + 1) [.int .i64 41, .slice (some ⟨x1, 0, none⟩) 8 xr, .slice (some ⟨x2, 0, none⟩) 5 xc, .slice (some ⟨x3, 0, none⟩) 256 xm] ∧ Cel v9 (N_x + 1 + 1) [.int .i64 40, .int .i64 wd, .int .i64 0, .int .i64 0, .int .i64 0, .int .i64 q, .int .i64 b] ∧ Cel v9 zy [.int .i64 41, .slice (some ⟨y1, 0, none⟩) 8 yr, .slice (some ⟨y2, 0, none⟩) 5 yc, .slice (some ⟨y3, 0, none⟩) 256 ym] ∧ Cel v9 N_z [.int .i64 42, .slice (some ⟨z1, 0, none⟩) 8 zr, .slice (some ⟨z2, 0, none⟩) 5 zc, .slice (some ⟨z3, 0, none⟩) 256 zm] ∧ Cel v9 (N_z + 1) [.int .i64 41, .int .i64 wd2, .int .i64 0, .int .i64 3, .int .i64 b, .int .i64 (-1), .int .i64 0] ∧ Cel v9 u56.heap.size [.int .i64 40, .slice (some ⟨k1, 0, none⟩) 8 kr, .slice (some ⟨k2, 0, none⟩) 5 kc, .slice (some ⟨k3, 0, none⟩) 256 km] ∧ Cel v9 (u56.heap.size + 1) [.int .i64 8, .slice (some ⟨l1, 0, none⟩) 8 lr, .slice (some ⟨l2, 0, none⟩) 5 lc, .slice (some ⟨l3, 0, none⟩) 256 lm] ∧ Cel v9 (u56.heap.size + 1 + 1) [.int .i64 40, .int .i64 wd3, .int .i64 4, .int .i64 0, .int .i64 0, .int .i64 (-1), .int .i64 0] ∧ Own v9 g1 g2 g3 ⟨41, hR ad b, zeros 5, (hM 40 wd).set q.toNat b⟩ ∧ Own v9 x1 x2 x3 ⟨41, hR ad b, zeros 5, (hM 40 wd).set q.toNat b⟩ ∧ Own v9 y1 y2 y3 ⟨41, hR ad b, zeros 5, ((hM 40 wd).set q.toNat b).set 41 wd2⟩ ∧ Own v9 z1 z2 z3 ⟨42, (hR ad b).set 3 b, zeros 5, ((hM 40 wd).set q.toNat b).set 41 wd2⟩ ∧ Own v9 k1 k2 k3 ⟨40, hR fa b, zeros 5, hM 40 wd3⟩ ∧ Own v9 l1 l2 l3 ⟨8, hR fa b, stopC (hS 40 wd3 fa b) 4, hM 40 wd3⟩ ∧ Fr w v9) ⟨?_, ?_, ?_, ?_, ?_, ?_, ?_, ?_, ?_, ?_, ?_, ?_, ?_, ?_, ?_, ?_⟩ ?_
    · have q9 := B_sg.out
      (repeat (first | (with_reducible assumption) | (with_reducible exact Cel.new _ _ _ _ (by first | rfl | omega | (simp; done) | (simp; omega))) | (with_reducible refine Cel.alloc ?_ _) | (with_reducible refine Cel.drew ?_) | (with_reducible refine Cel.drewN ?_ _) | (with_reducible refine Cel.other ?_ _ _ _ (by omega))))
    · have q9 := B_sx.out
      (repeat (first | (with_reducible assumption) | (with_reducible exact Cel.new _ _ _ _ (by first | rfl | omega | (simp; done) | (simp; omega))) | (with_reducible refine Cel.alloc ?_ _) | (with_reducible refine Cel.drew ?_) | (with_reducible refine Cel.drewN ?_ _) | (with_reducible refine Cel.other ?_ _ _ _ (by omega))))
    · have q9 := B_ex.out
      (repeat (first | (with_reducible assumption) | (with_reducible exact Cel.new _ _ _ _ (by first | rfl | omega | (simp; done) | (simp; omega))) | (with_reducible refine Cel.alloc ?_ _) | (with_reducible refine Cel.drew ?_) | (with_reducible refine Cel.drewN ?_ _) | (with_reducible refine Cel.other ?_ _ _ _ (by omega))))
    · have q9 := B_sy.out
      (repeat (first | (with_reducible assumption) | (with_reducible exact Cel.new _ _ _ _ (by first | rfl | omega | (simp; done) | (simp; omega))) | (with_reducible refine Cel.alloc ?_ _) | (with_reducible refine Cel.drew ?_) | (with_reducible refine Cel.drewN ?_ _) | (with_reducible refine Cel.other ?_ _ _ _ (by omega))))
    · have q9 := B_sz.out
      (repeat (first | (with_reducible assumption) | (with_reducible exact Cel.new _ _ _ _ (by first | rfl | omega | (simp; done) | (simp; omega))) | (with_reducible refine Cel.alloc ?_ _) | (with_reducible refine Cel.drew ?_) | (with_reducible refine Cel.drewN ?_ _) | (with_reducible refine Cel.other ?_ _ _ _ (by omega))))
    · have q9 := B_ez.out
      (repeat (first | (with_reducible assumption) | (with_reducible exact Cel.new _ _ _ _ (by first | rfl | omega | (simp; done) | (simp; omega))) | (with_reducible refine Cel.alloc ?_ _) | (with_reducible refine Cel.drew ?_) | (with_reducible refine Cel.drewN ?_ _) | (with_reducible refine Cel.other ?_ _ _ _ (by omega))))
    · (repeat (first | (with_reducible assumption) | (with_reducible exact Cel.new _ _ _ _ (by first | rfl | omega | (simp; done) | (simp; omega))) | (with_reducible refine Cel.alloc ?_ _) | (with_reducible refine Cel.drew ?_) | (with_reducible refine Cel.drewN ?_ _) | (with_reducible refine Cel.other ?_ _ _ _ (by omega))))
    · (repeat (first | (with_reducible assumption) | (with_reducible exact Cel.new _ _ _ _ (by first | rfl | omega | (simp; done) | (simp; omega))) | (with_reducible refine Cel.alloc ?_ _) | (with_reducible refine Cel.drew ?_) | (with_reducible refine Cel.drewN ?_ _) | (with_reducible refine Cel.other ?_ _ _ _ (by omega))))
    · (repeat (first | (with_reducible assumption) | (with_reducible exact Cel.new _ _ _ _ (by first | rfl | omega | (simp; done) | (simp; omega))) | (with_reducible refine Cel.alloc ?_ _) | (with_reducible refine Cel.drew ?_) | (with_reducible refine Cel.drewN ?_ _) | (with_reducible refine Cel.other ?_ _ _ _ (by omega))))
    · have q9 := O_g.out
      (repeat (first | (with_reducible assumption) | (with_reducible refine Own.alloc ?_ _) | (with_reducible refine Own.drew ?_) | (with_reducible refine Own.drewN ?_ _) | (with_reducible refine Own.other ?_ _ _ _ (by omega) (by omega) (by omega))))
    · have q9 := O_x.out
      (repeat (first | (with_reducible assumption) | (with_reducible refine Own.alloc ?_ _) | (with_reducible refine Own.drew ?_) | (with_reducible refine Own.drewN ?_ _) | (with_reducible refine Own.other ?_ _ _ _ (by omega) (by omega) (by omega))))
    · have q9 := O_y.out
      (repeat (first | (with_reducible assumption) | (with_reducible refine Own.alloc ?_ _) | (with_reducible refine Own.drew ?_) | (with_reducible refine Own.drewN ?_ _) | (with_reducible refine Own.other ?_ _ _ _ (by omega) (by omega) (by omega))))
    · have q9 := O_z.out
      (repeat (first | (with_reducible assumption) | (with_reducible refine Own.alloc ?_ _) | (with_reducible refine Own.drew ?_) | (with_reducible refine Own.drewN ?_ _) | (with_reducible refine Own.other ?_ _ _ _ (by omega) (by omega) (by omega))))
    · have q9 := O_k.out
      (repeat (first | (with_reducible assumption) | (with_reducible refine Own.alloc ?_ _) | (with_reducible refine Own.drew ?_) | (with_reducible refine Own.drewN ?_ _) | (with_reducible refine Own.other ?_ _ _ _ (by omega) (by omega) (by omega))))
    · have q9 := O_l.out
      (repeat (first | (with_reducible assumption) | (with_reducible refine Own.alloc ?_ _) | (with_reducible refine Own.drew ?_) | (with_reducible refine Own.drewN ?_ _) | (with_reducible refine Own.other ?_ _ _ _ (by omega) (by omega) (by omega))))
    · refine fr_but (L := []) HF.out ?_ (fun k hk => by first | (cases hk; done) | (simp at hk; omega))
      (repeat (first | (with_reducible exact But.refl _ _) | (with_reducible assumption) | (with_reducible refine But.alloc ?_ _) | (with_reducible refine But.drew ?_) | (with_reducible refine But.drewN ?_ _) | (with_reducible refine But.set ?_ _ _ _ (by first | (left; simp; done) | (right; simp; done) | (right; omega) | (right; simp; omega)))))
    rintro u65 ⟨z0, z1, z2, z3, z4, z5, z6, z7, z8, z9, z10, z11, z12, z13, z14, z15⟩
    replace B_sg := Lib.hid z0
    replace B_sx := Lib.hid z1
    replace B_ex := Lib.hid z2
    replace B_sy := Lib.hid z3
    replace B_sz := Lib.hid z4
    replace B_ez := Lib.hid z5
    have B_sk := Lib.hid z6
    have B_sl := Lib.hid z7
    have B_el := Lib.hid z8
    replace O_g := Lib.hid z9
    replace O_x := Lib.hid z10
    replace O_y := Lib.hid z11
    replace O_z := Lib.hid z12
    replace O_k := Lib.hid z13
    replace O_l := Lib.hid z14
    replace HF := Lib.hid z15
    clear z0 z1 z2 z3 z4 z5 z6 z7 z8 z9 z10 z11 z12 z13 z14 z15
    generalize u56.heap.size = N_l at *
    go_wp2_with fail
    have m67 := B_sg.out.lt
    have m68 := B_sx.out.lt
    have m69 := B_ex.out.lt
    have m70 := B_sy.out.lt
    have m71 := B_sz.out.lt
    have m72 := B_ez.out.lt
    have m73 := B_sk.out.lt
    have m74 := B_sl.out.lt
    have m75 := B_el.out.lt
    refine (run_to (s2 := ⟨8, hR fa b, stopC (hS 40 wd4 fa b) 3, hM 40 wd4⟩) (e2 := ⟨40, wd4, 3, 0, 0, -1, 0⟩) HI4.out (by omega) (by omega) HFA.out hb HWD4.out HST4.out u65 (HT.out.fr HF.out)).mono ?_
    rintro e u66 ⟨p1, p2, p3, pr, pc, pm, v1, v2, v3, vr, vc, vm, X0, he, ho, hx, ⟨hl1, hl2, hl3, hl4, hl5, hl6, hl7, hl8, hl9⟩, f⟩
    replace B_sg := Lib.hid (B_sg.out.fr f)
    replace B_sx := Lib.hid (B_sx.out.fr f)
    replace B_ex := Lib.hid (B_ex.out.fr f)
    replace B_sy := Lib.hid (B_sy.out.fr f)
    replace B_sz := Lib.hid (B_sz.out.fr f)
    replace B_ez := Lib.hid (B_ez.out.fr f)
    replace B_sk := Lib.hid (B_sk.out.fr f)
    replace B_sl := Lib.hid (B_sl.out.fr f)
    replace B_el := Lib.hid (B_el.out.fr f)
    replace O_g := Lib.hid (O_g.out.fr f)
    replace O_x := Lib.hid (O_x.out.fr f)
    replace O_y := Lib.hid (O_y.out.fr f)
    replace O_z := Lib.hid (O_z.out.fr f)
    replace O_k := Lib.hid (O_k.out.fr f)
    replace O_l := Lib.hid (O_l.out.fr f)
    replace HF := Lib.hid (Fr.trans HF.out f)
    have O_p := Lib.hid (show Own u66 p1 p2 p3 ⟨40, hR fa b, zeros 5, hM 40 wd4⟩ from ho)
    have O_v := Lib.hid (show Own u66 v1 v2 v3 ⟨8, hR fa b, stopC (hS 40 wd4 fa b) 3, hM 40 wd4⟩ from hx)
    have he2 : e = .returned (.tuple #[.agg #[.int .i64 40, .slice (some ⟨p1, 0, none⟩) 8 pr, .slice (some ⟨p2, 0, none⟩) 5 pc, .slice (some ⟨p3, 0, none⟩) 256 pm], .agg #[.int .i64 8, .slice (some ⟨v1, 0, none⟩) 8 vr, .slice (some ⟨v2, 0, none⟩) 5 vc, .slice (some ⟨v3, 0, none⟩) 256 vm], .agg #[.int .i64 40, .int .i64 wd4, .int .i64 3, .int .i64 0, .int .i64 0, .int .i64 (-1), .int .i64 0]]) := he
    subst he2
    clear he ho hx f
    have m76a := O_p.out.R.lt
    have m76b := O_p.out.C.lt
    have m76c := O_p.out.M.lt
    have m77a := O_v.out.R.lt
    have m77b := O_v.out.C.lt
    have m77c := O_v.out.M.lt
    go_upto_region 15 with fail
    refine wp_gen (fun v9 => Cel v9 N_x [.int .i64 41, .slice (some ⟨g1, 0, none⟩) 8 gr, .slice (some ⟨g2, 0, none⟩) 5 gc, .slice (some ⟨g3, 0, none⟩) 256 gm] ∧ Cel v9 (N_x + 1) [.int .i64 41, .slice (some ⟨x1, 0, none⟩) 8 xr, .slice (some ⟨x2, 0, none⟩) 5 xc, .slice (some ⟨x3, 0, none⟩) 256 xm] ∧ Cel v9 (N_x + 1 + 1) [.int .i64 40, .int .i64 wd, .int .i64 0, .int .i64 0, .int .i64 0, .int .i64 q, .int .i64 b] ∧ Cel v9 zy [.int .i64 41, .slice (some ⟨y1, 0, none⟩) 8 yr, .slice (some ⟨y2, 0, none⟩) 5 yc, .slice (some ⟨y3, 0, none⟩) 256 ym] ∧ Cel v9 N_z [.int .i64 42, .slice (some ⟨z1, 0, none⟩) 8 zr, .slice (some ⟨z2, 0, none⟩) 5 zc, .slice (some ⟨z3, 0, none⟩) 256 zm] ∧ Cel v9 (N_z + 1) [.int .i64 41, .int .i64 wd2, .int .i64 0, .int .i64 3, .int .i64 b, .int .i64 (-1), .int .i64 0] ∧ Cel v9 N_l [.int .i64 40, .slice (some ⟨k1, 0, none⟩) 8 kr, .slice (some ⟨k2, 0, none⟩) 5 kc, .slice (some ⟨k3, 0, none⟩) 256 km] ∧ Cel v9 (N_l + 1) [.int .i64 8, .slice (some ⟨l1, 0, none⟩) 8 lr, .slice (some ⟨l2, 0, none⟩) 5 lc, .slice (some ⟨l3, 0, none⟩) 256 lm] ∧ Cel v9 (N_l + 1 + 1) [.int .i64 40, .int .i64 wd3, .int .i64 4, .int .i64 0, .int .i64 0, .int .i64 (-1), .int .i64 0] ∧ Cel v9 u66.heap.size [.int .i64 40, .slice (some ⟨p1, 0, none⟩) 8 pr, .slice (some ⟨p2, 0, none⟩) 5 pc, .slice (some ⟨p3, 0, none⟩) 256 pm] ∧ Cel v9 (u66.heap.size + 1) [.int .i64 8, .slice (some ⟨v1, 0, none⟩) 8 vr, .slice (some ⟨v2, 0, none⟩) 5 vc, .slice (some ⟨v3, 0, none⟩) 256 vm] ∧ Cel v9 (u66.heap.size + 1 + 1) [.int .i64 40, .int .i64 wd4, .int .i64 3, .int .i64 0, .int .i64 0, .int .i64 (-1), .int .i64 0] ∧ Own v9 g1 g2 g3 ⟨41, hR ad b, zeros 5, (hM 40 wd).set q.toNat b⟩ ∧ Own v9 x1 x2 x3 ⟨41, hR ad b, zeros 5, (hM 40 wd).set q.toNat b⟩ ∧ Own v9 y1 y2 y3 ⟨41, hR ad b, zeros 5, ((hM 40 wd).set q.toNat b).set 41 wd2⟩ ∧ Own v9 z1 z2 z3 ⟨42, (hR ad b).set 3 b, zeros 5, ((hM 40 wd).set q.toNat b).set 41 wd2⟩ ∧ Own v9 k1 k2 k3 ⟨40, hR fa b, zeros 5, hM 40 wd3⟩ ∧ Own v9 l1 l2 l3 ⟨8, hR fa b, stopC (hS 40 wd3 fa b) 4, hM 40 wd3⟩ ∧ Own v9 p1 p2 p3 ⟨40, hR fa b, zeros 5, hM 40 wd4⟩ ∧ Own v9 v1 v2 v3 ⟨8, hR fa b, stopC (hS 40 wd4 fa b) 3, hM 40 wd4⟩ ∧ Fr w v9) ⟨?_, ?_, ?_, ?_, ?_, ?_, ?_, ?_, ?_, ?_, ?_, ?_, ?_, ?_, ?_, ?_, ?_, ?_, ?_, ?_, ?_⟩ ?_
    · have q9 := B_sg.out
      (repeat (first | (with_reducible assumption) | (with_reducible exact Cel.new _ _ _ _ (by first | rfl | omega | (simp; done) | (simp; omega))) | (with_reducible refine Cel.alloc ?_ _) | (with_reducible refine Cel.drew ?_) | (with_reducible refine Cel.drewN ?_ _) | (with_reducible refine Cel.other ?_ _ _ _ (by omega))))
    · have q9 := B_sx.out
      (repeat (first | (with_reducible assumption) | (with_reducible exact Cel.new _ _ _ _ (by first | rfl | omega | (simp; done) | (simp; omega))) | (with_reducible refine Cel.alloc ?_ _) | (with_reducible refine Cel.drew ?_) | (with_reducible refine Cel.drewN ?_ _) | (with_reducible refine Cel.other ?_ _ _ _ (by omega))))
    · have q9 := B_ex.out
      (repeat (first | (with_reducible assumption) | (with_reducible exact Cel.new _ _ _ _ (by first | rfl | omega | (simp; done) | (simp; omega))) | (with_reducible refine Cel.alloc ?_ _) | (with_reducible refine Cel.drew ?_) | (with_reducible refine Cel.drewN ?_ _) | (with_reducible refine Cel.other ?_ _ _ _ (by omega))))
    · have q9 := B_sy.out
      (repeat (first | (with_reducible assumption) | (with_reducible exact Cel.new _ _ _ _ (by first | rfl | omega | (simp; done) | (simp; omega))) | (with_reducible refine Cel.alloc ?_ _) | (with_reducible refine Cel.drew ?_) | (with_reducible refine Cel.drewN ?_ _) | (with_reducible refine Cel.other ?_ _ _ _ (by omega))))
    · have q9 := B_sz.out
      (repeat (first | (with_reducible assumption) | (with_reducible exact Cel.new _ _ _ _ (by first | rfl | omega | (simp; done) | (simp; omega))) | (with_reducible refine Cel.alloc ?_ _) | (with_reducible refine Cel.drew ?_) | (with_reducible refine Cel.drewN ?_ _) | (with_reducible refine Cel.other ?_ _ _ _ (by omega))))
    · have q9 := B_ez.out
      (repeat (first | (with_reducible assumption) | (with_reducible exact Cel.new _ _ _ _ (by first | rfl | omega | (simp; done) | (simp; omega))) | (with_reducible refine Cel.alloc ?_ _) | (with_reducible refine Cel.drew ?_) | (with_reducible refine Cel.drewN ?_ _) | (with_reducible refine Cel.other ?_ _ _ _ (by omega))))
    · have q9 := B_sk.out
      (repeat (first | (with_reducible assumption) | (with_reducible exact Cel.new _ _ _ _ (by first | rfl | omega | (simp; done) | (simp; omega))) | (with_reducible refine Cel.alloc ?_ _) | (with_reducible refine Cel.drew ?_) | (with_reducible refine Cel.drewN ?_ _) | (with_reducible refine Cel.other ?_ _ _ _ (by omega))))
    · have q9 := B_sl.out
      (repeat (first | (with_reducible assumption) | (with_reducible exact Cel.new _ _ _ _ (by first | rfl | omega | (simp; done) | (simp; omega))) | (with_reducible refine Cel.alloc ?_ _) | (with_reducible refine Cel.drew ?_) | (with_reducible refine Cel.drewN ?_ _) | (with_reducible refine Cel.other ?_ _ _ _ (by omega))))
    · have q9 := B_el.out
      (repeat (first | (with_reducible assumption) | (with_reducible exact Cel.new _ _ _ _ (by first | rfl | omega | (simp; done) | (simp; omega))) | (with_reducible refine Cel.alloc ?_ _) | (with_reducible refine Cel.drew ?_) | (with_reducible refine Cel.drewN ?_ _) | (with_reducible refine Cel.other ?_ _ _ _ (by omega))))
    · (repeat (first | (with_reducible assumption) | (with_reducible exact Cel.new _ _ _ _ (by first | rfl | omega | (simp; done) | (simp; omega))) | (with_reducible refine Cel.alloc ?_ _) | (with_reducible refine Cel.drew ?_) | (with_reducible refine Cel.drewN ?_ _) | (with_reducible refine Cel.other ?_ _ _ _ (by omega))))
    · (repeat (first | (with_reducible assumption) | (with_reducible exact Cel.new _ _ _ _ (by first | rfl | omega | (simp; done) | (simp; omega))) | (with_reducible refine Cel.alloc ?_ _) | (with_reducible refine Cel.drew ?_) | (with_reducible refine Cel.drewN ?_ _) | (with_reducible refine Cel.other ?_ _ _ _ (by omega))))
    · (repeat (first | (with_reducible assumption) | (with_reducible exact Cel.new _ _ _ _ (by first | rfl | omega | (simp; done) | (simp; omega))) | (with_reducible refine Cel.alloc ?_ _) | (with_reducible refine Cel.drew ?_) | (with_reducible refine Cel.drewN ?_ _) | (with_reducible refine Cel.other ?_ _ _ _ (by omega))))
    · have q9 := O_g.out
      (repeat (first | (with_reducible assumption) | (with_reducible refine Own.alloc ?_ _) | (with_reducible refine Own.drew ?_) | (with_reducible refine Own.drewN ?_ _) | (with_reducible refine Own.other ?_ _ _ _ (by omega) (by omega) (by omega))))
    · have q9 := O_x.out
      (repeat (first | (with_reducible assumption) | (with_reducible refine Own.alloc ?_ _) | (with_reducible refine Own.drew ?_) | (with_reducible refine Own.drewN ?_ _) | (with_reducible refine Own.other ?_ _ _ _ (by omega) (by omega) (by omega))))
    · have q9 := O_y.out
      (repeat (first | (with_reducible assumption) | (with_reducible refine Own.alloc ?_ _) | (with_reducible refine Own.drew ?_) | (with_reducible refine Own.drewN ?_ _) | (with_reducible refine Own.other ?_ _ _ _ (by omega) (by omega) (by omega))))
    · have q9 := O_z.out
      (repeat (first | (with_reducible assumption) | (with_reducible refine Own.alloc ?_ _) | (with_reducible refine Own.drew ?_) | (with_reducible refine Own.drewN ?_ _) | (with_reducible refine Own.other ?_ _ _ _ (by omega) (by omega) (by omega))))
    · have q9 := O_k.out
      (repeat (first | (with_reducible assumption) | (with_reducible refine Own.alloc ?_ _) | (with_reducible refine Own.drew ?_) | (with_reducible refine Own.drewN ?_ _) | (with_reducible refine Own.other ?_ _ _ _ (by omega) (by omega) (by omega))))
    · have q9 := O_l.out
      (repeat (first | (with_reducible assumption) | (with_reducible refine Own.alloc ?_ _) | (with_reducible refine Own.drew ?_) | (with_reducible refine Own.drewN ?_ _) | (with_reducible refine Own.other ?_ _ _ _ (by omega) (by omega) (by omega))))
    · have q9 := O_p.out
      (repeat (first | (with_reducible assumption) | (with_reducible refine Own.alloc ?_ _) | (with_reducible refine Own.drew ?_) | (with_reducible refine Own.drewN ?_ _) | (with_reducible refine Own.other ?_ _ _ _ (by omega) (by omega) (by omega))))
    · have q9 := O_v.out
      (repeat (first | (with_reducible assumption) | (with_reducible refine Own.alloc ?_ _) | (with_reducible refine Own.drew ?_) | (with_reducible refine Own.drewN ?_ _) | (with_reducible refine Own.other ?_ _ _ _ (by omega) (by omega) (by omega))))
    · refine fr_but (L := []) HF.out ?_ (fun k hk => by first | (cases hk; done) | (simp at hk; omega))
      (repeat (first | (with_reducible exact But.refl _ _) | (with_reducible assumption) | (with_reducible refine But.alloc ?_ _) | (with_reducible refine But.drew ?_) | (with_reducible refine But.drewN ?_ _) | (with_reducible refine But.set ?_ _ _ _ (by first | (left; simp; done) | (right; simp; done) | (right; omega) | (right; simp; omega)))))
    rintro u78 ⟨z0, z1, z2, z3, z4, z5, z6, z7, z8, z9, z10, z11, z12, z13, z14, z15, z16, z17, z18, z19, z20⟩
    replace B_sg := Lib.hid z0
    replace B_sx := Lib.hid z1
    replace B_ex := Lib.hid z2
    replace B_sy := Lib.hid z3
    replace B_sz := Lib.hid z4
    replace B_ez := Lib.hid z5
    replace B_sk := Lib.hid z6
    replace B_sl := Lib.hid z7
    replace B_el := Lib.hid z8
    have B_sp := Lib.hid z9
    have B_sv := Lib.hid z10
    have B_ev := Lib.hid z11
    replace O_g := Lib.hid z12
    replace O_x := Lib.hid z13
    replace O_y := Lib.hid z14
    replace O_z := Lib.hid z15
    replace O_k := Lib.hid z16
    replace O_l := Lib.hid z17
    replace O_p := Lib.hid z18
    replace O_v := Lib.hid z19
    replace HF := Lib.hid z20
    clear z0 z1 z2 z3 z4 z5 z6 z7 z8 z9 z10 z11 z12 z13 z14 z15 z16 z17 z18 z19 z20
    generalize u66.heap.size = N_v at *
    have hk5 := step_okS (hS_ok (by omega) (by omega) (worD_ok HI4.out HWD4.out) HFA.out hb) HST4.out
    have L_v : Hid (Lens ⟨8, hR fa b, stopC (hS 40 wd4 fa b) 3, hM 40 wd4⟩) := Lib.hid ⟨hk5.Rl, hk5.Cl, hk5.Ml⟩
    clear hk5
    have c79 : u78.cell? ⟨N_l + 1 + 1, 2, none⟩ = some (.int .i64 4) := B_el.out.cel 2 (by simp)
    have c80 : u78.cell? ⟨N_v + 1 + 1, 2, none⟩ = some (.int .i64 3) := B_ev.out.cel 2 (by simp)
    have c81 : u78.cell? ⟨N_l + 1, 0, none⟩ = some (.int .i64 8) := B_sl.out.cel 0 (by simp)
    have c82 : u78.cell? ⟨N_v + 1, 1, none⟩ = some (.slice (some ⟨v1, 0, none⟩) 8 vr) := B_sv.out.cel 1 (by simp)
    have r83 : u78.cell? ⟨v1, 3, none⟩ = some (.int .i64 12345) := (O_v.out.R.cel 3 (by rw [L_v.out.Rl]; omega)).trans (congrArg (fun x => some (Value.int .i64 x)) (show (hR fa b).getD 3 0 = 12345 from rfl))
    go_wp2
    go_ret
    exact ⟨rfl, HF.out⟩

set_option maxRecDepth 100000 in
theorem lifted (os : Os) (started : os.Started) (H : Type) (enc : TypeId × Value → H) :
    ReturnsInHanded {} Tryd.checked os 11 .any (fun w args => (Rows.fnDoMemSpec.pre enc Tryd.prog Tryd.f11 [] false w args ∧ laidMetH Tryd.prog laidAll w) ∧ sizedMet enc Tryd.prog Tryd.f11 (OpenSpec.ofChange Rows.fnDoMemSpec) false w args)
      (Rows.fnDoMemSpec.post enc Tryd.prog Tryd.f11 false true false false) := by
  refine returnsInHanded_of_change_and (C := Tryd.checked) (X := fun w _ => laidMetH Tryd.prog laidAll w) (fun _ _ _ hh h => h.of_heap hh) own started (by kernel_rfl) Tryd.func11
    (ChangeSpec.witness_shaped (enc := enc) (C := Tryd.checked) (os := os) (X := fun w _ => laidMetH Tryd.prog laidAll w) false (World.doorLaid Tryd.prog 400 os) #[.slice none 0 0] 8 rfl (World.shaped_of_RefB (by kernel_rfl) (by kernel_rfl)) (by kernel_rfl) (by kernel_rfl) (by kernel_rfl) (door_met os _)) ?_
  intro W base args ds gs before hval0 hW _ _ hL _
  have hval : ∀ (j : Nat) t v, Tryd.f11.params[j]? = some t → args[j]? = some v → Value.okWide Tryd.prog W .any base t v := hval0
  have hW' := hW
  obtain ⟨p, q, hA0, hV0, rfl, hfz, hnd⟩ := hW
  have hA : DataW.TrodAll enc Tryd.prog W 0 (fun _ => true) true Tryd.f11.params.toList args.toList ds p := hA0
  have hV : DataW.TrodVars enc Tryd.prog W (fun _ => true) laidNames gs q := hV0
  rw [Tryd.params11] at hA hval
  obtain ⟨v0, vs0, d0, ds0, p0, q0, hargs, rfl, rfl, h0, r0⟩ := trodAll_cons hA
  obtain ⟨rfl, rfl, rfl⟩ := trodAll_nil r0
  obtain rfl : args = #[v0] := by cases args; simp_all
  have hV1 := hV
  obtain ⟨g0, t0, cs0, f0, e0, s0, g1, t1, cs1, f1, e1, s1, rfl, _⟩ := trodVars_two hV1
  obtain ⟨a0, len0, cap0, rfl⟩ := okWide_slice Tryd.underlying42 (hval 0 42 v0 rfl rfl)
  have k0 := h0
  have lt0 : ∀ x ∈ p0, x.block < W.heap.size := by obtain ⟨m, hm⟩ := k0; exact DataW.trod_lt m _ _ _ hm
  obtain ⟨z0, w0⟩ : ∃ zs, IsRow .u8 W a0 len0 cap0 zs := by
    obtain ⟨fuel, hf⟩ := h0
    rcases open_ints Tryd.underlying42 Tryd.underlying5 (by kernel_rfl) hf with ⟨hcs, _⟩ | ⟨x, l, c, zs, hcs, _, hl, hm, hz, _, hcell, hwz⟩
    · simp [Value.cells] at hcs
      obtain ⟨rfl, rfl, rfl⟩ := hcs
      exact ⟨[], .inl ⟨rfl, rfl, rfl, rfl⟩⟩
    · simp [Value.cells] at hcs
      obtain ⟨rfl, rfl, rfl⟩ := hcs
      exact ⟨zs, .inr ⟨_, rfl, hl, hm, by simpa using hz, hcell, hwz⟩⟩
  clear hA0 hval0 hV1
  refine (walk a0 len0 cap0 z0 W (tabs_of_laid hL) w0).mono fun e W' ⟨he, bel⟩ => ?_
  subst he
  exact ⟨_, rfl, _, _, _, [], _, _, hW', trodAll_mk1 (shut_bool Tryd.underlying4 _), (trodAll_cons_mk (Below.trod laidOut (by kernel_rfl) (of_decide_eq_true (by kernel_rfl)) k0 bel lt0) trodAll_mk0), bel.trodVars laidOut (by kernel_rfl) hV, bel.frame _, fun h => by cases h⟩

theorem over : Rows.fnDoMemRow.holds Tryd.pinned (OpenSpec.ofChange Rows.fnDoMemSpec) :=
  OpenClaim.holds_of_wide 11 Tryd.f11 rfl rfl rfl rfl rfl rfl rfl ⟨rfl, rfl, rfl, rfl, rfl⟩ rfl rfl rfl rfl rfl (by kernel_rfl) Tryd.func11 (by kernel_rfl)
    (of_decide_eq_true (by kernel_rfl)) (by unfold Func.isWrapper; first | (rw [if_pos (by decide +kernel)]; kernel_rfl) | (rw [if_neg (by decide +kernel)]; exact ⟨rfl, rfl⟩))
    (fun os started H enc _ => lifted os started H enc)

/-- THE STATEMENT: the tied card. -/
theorem proved : Rows.FnDoMemCardSaid :=
  Claim7.holds_tied_plain_at .later [] [.wider, .data] true (true, "9dc2e115a97561e3249269897313e148c9c7960c406c87ea32a23191d0e08754") true
    over (fun _ h => by cases h) (by kernel_rfl) (fun _ h => by cases h) fnDoMem_row_tie rfl ⟨rfl, rfl⟩ (by kernel_rfl) rfl
    (fun f fn hf hfn => by
      obtain rfl : f = 11 := Option.some.inj ((show Tryd.prog.funcNamed "loop.example/harbinger/laws.FnDoMem" = some 11 by kernel_rfl).symm.trans hf) |>.symm
      obtain rfl : fn = Tryd.f11 := (Option.some.inj (Tryd.func11.symm.trans hfn)).symm
      exact ⟨by kernel_rfl, fun j t ht => by
        rw [Tryd.params11] at ht
        have hm : t ∈ [42] := by simpa using Array.mem_of_getElem? ht
        have hall : ([42].all fun u => !Tryd.prog.wantsStandIn u) = true := by kernel_rfl
        exact (show Tryd.prog.wantsStandIn t = false by simpa using List.all_eq_true.1 hall t hm)⟩)
    (by kernel_rfl)
#print axioms proved
end Go.Proofs.YtbjapncfgancoaaDoor.fnDoMem
