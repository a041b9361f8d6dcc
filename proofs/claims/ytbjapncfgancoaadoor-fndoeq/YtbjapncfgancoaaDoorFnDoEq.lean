/- For every code (any bytes), law FnDoEq returns true and its argument reads as before (no condition; the two tables read as the program's text lays them, which the card ties). -/
import Derived.Test.YtbjapncfgancoaaDoorCards
import Derived.Test.YtbjapncfgancoaaDoorTie
import Derived.Test.YtbjapncfgancoaaDoorLaid
import Derived.Test.YtbjapncfgancoaaDoorPe2
import Derived.WalkKit
import Derived.ProofKit
import Derived.OpenShut
import Derived.ShutString
import Derived.SliceStrings
import Derived.ChangeOld
import Derived.Below
import Derived.SevenTiedAt
namespace Go.Proofs.YtbjapncfgancoaaDoor.fnDoEq
open Go.ChangeShapes Go.WideShapes Go.ChangeAt Go.RowKit
set_option linter.unusedVariables false

def IsRow (k : IntKind) (w : World) (a : Option Addr) (len cap : Nat) (zs : List Int) : Prop :=
  (a = none ∧ len = 0 ∧ cap = 0 ∧ zs = []) ∨
  ∃ x, a = some x ∧ len ≤ cap ∧ cap ≤ maxLen ∧ zs.length = cap ∧ (∀ i, i < zs.length → w.cell? (x.add i) = some (.int k (zs.getD i 0))) ∧ ∀ n ∈ zs, (Lit.int k n).wf = true

set_option maxRecDepth 100000 in
set_option maxHeartbeats 8000000 in
theorem walk (a0 : Option Addr) (len0 cap0 : Nat) (z0 : List Int) (w : World) (ht : Tabs w) (w0 : IsRow .u8 w a0 len0 cap0 z0) :
    Calls Tryd.prog 8 #[.slice a0 len0 cap0] w fun e w' => e = .returned (.bool true) ∧ Below w.heap.size w w' := by
  have hc : Code1 w.heap.size w a0 len0 cap0 := by
    rcases w0 with ⟨rfl, rfl, rfl, rfl⟩ | ⟨x, rfl, hl, hm, hz, hcell, hwz⟩
    · exact ⟨Nat.le_refl _, Nat.le_refl _, Nat.zero_le _, .inl rfl, fun _ => rfl⟩
    · exact ⟨Nat.le_refl _, hl, hm, bytes_of_row hl hz hcell hwz, by simp⟩
  clear w0
  by_cases hlen : (1048576 : Int) < (len0 : Int)
  · go_enter Tryd.func8, Tryd.ntmps8
    go_wp2
    go_ret
    exact ⟨rfl, Below.refl _ _⟩
  have HT := Lib.hid ht
  have hl : len0 ≤ 1048576 := by omega
  clear ht
  go_enter Tryd.func8, Tryd.ntmps8
  go_wp2_with fail
  refine (laws_haWords w.heap.size a0 len0 cap0 w hc hl).mono ?_
  rintro e w' ⟨a, b, ha, hb, rfl, rfl⟩
  obtain ⟨a0', a1'⟩ := okB_true ha
  obtain ⟨b0', b1'⟩ := okB_true hb
  clear hc hl
  obtain ⟨n, hn⟩ : ∃ x, b % 64 - 32 = x := ⟨_, rfl⟩
  have n0 : -32 ≤ n := by omega
  have n1 : n ≤ 31 := by omega
  have hi1 : iok 5 0 1 2 0 n = true := by simp [iok, okAt, layN, layL, eL, eG, encL]; omega
  have hi2 : iok 5 0 1 1 0 n = true := by simp [iok, okAt, layN, layL, eL, eG, encL]; omega
  obtain ⟨p, hp⟩ : ∃ x, (if a = b then 101 + n else 101) = x := ⟨_, rfl⟩
  have HP := Lib.hid hp
  have hst := hS_step (pc := 100) a b hi1 (by omega) (by omega)
  rw [eff_5] at hst
  have hst2 := hS_step (pc := 100) a b hi2 (by omega) (by omega)
  rw [eff_5] at hst2
  have HST := Lib.hid hst
  have HST2 := Lib.hid hst2
  have HI := Lib.hid hi1
  have HI2 := Lib.hid hi2
  clear hst hst2 hi1 hi2 hp
  go_wp2_with fail
  clear hn
  refine (laws_haRun 5 0 1 2 0 n 100 a b HI.out (by omega) (by omega) ha hb w HT.out).mono ?_
  rintro e u2 hq
  unfold RunQ at hq
  rw [HST.out] at hq
  obtain ⟨wd, hwd⟩ : ∃ x, worD 5 0 1 2 0 n = x := ⟨_, rfl⟩
  have HWB := Lib.hid (worD_bd HI.out)
  rw [hwd] at hq HWB
  clear hwd HST
  simp only [goto, Out.fin, hE] at hq
  rw [show (if rg (hS 100 wd a b) 1 = rg (hS 100 wd a b) 2 then (nx (hS 100 wd a b) + n) % 65536 else nx (hS 100 wd a b)) = p from by
    rw [← HP.out, show rg (hS 100 wd a b) 1 = a from rfl, show rg (hS 100 wd a b) 2 = b from rfl, show nx (hS 100 wd a b) = 101 from rfl]
    split
    · omega
    · rfl] at hq
  obtain ⟨g1, g2, g3, gr, gc, gm, x1, x2, x3, xr, xc, xm, X0, he, ho, hx, hb9, f2⟩ := hq
  subst he
  have HK := Lib.hid (hS_ok (pc := 100) (wd := wd) (by omega) (by omega) (okB_mk HWB.out.1 HWB.out.2) ha hb)
  have HOG := Lib.hid (show Own u2 g1 g2 g3 ⟨p, hR a b, zeros 5, hM 100 wd⟩ from ho.pc p)
  have HOX := Lib.hid (show Own u2 x1 x2 x3 ⟨p, hR a b, zeros 5, hM 100 wd⟩ from hx)
  have HL1 := Lib.hid (show (hR a b).length = 8 from HK.out.Rl)
  have HL2 := Lib.hid (show (zeros 5).length = 5 from HK.out.Cl)
  have HL3 := Lib.hid (show (hM 100 wd).length = 256 from HK.out.Ml)
  have HF := Lib.hid f2
  have HSEP := Lib.hid (show ¬ u2.heap.size = g1 ∧ ¬ u2.heap.size = g2 ∧ ¬ u2.heap.size = g3 ∧ ¬ u2.heap.size = x1 ∧ ¬ u2.heap.size = x2 ∧ ¬ u2.heap.size = x3 by
    have := ho.R.lt
    have := ho.C.lt
    have := ho.M.lt
    have := hx.R.lt
    have := hx.C.lt
    have := hx.M.lt
    omega)
  clear ho hx f2 hb9
  go_wp2_with fail
  have FW : Fr u2 (((u2.alloc (.cells #[.int .i64 100, .slice (some ⟨g1, 0, none⟩) 8 gr, .slice (some ⟨g2, 0, none⟩) 5 gc, .slice (some ⟨g3, 0, none⟩) 256 gm] 26)).alloc (.cells #[.int .i64 p, .slice (some ⟨x1, 0, none⟩) 8 xr, .slice (some ⟨x2, 0, none⟩) 5 xc, .slice (some ⟨x3, 0, none⟩) 256 xm] 26)).alloc (.cells #[.int .i64 100, .int .i64 wd, .int .i64 0, .int .i64 0, .int .i64 0, .int .i64 (-1), .int .i64 0] 28)) := by
    (repeat' first | (with_reducible exact Below.refl _ _) | (with_reducible assumption) | ((with_reducible refine Below.setCell ?_ ?hb _); (case hb => first | exact Nat.le_refl _ | (simp; done) | (simp; omega) | omega)) | ((with_reducible refine Below.alloc ?_ ?hb _); (case hb => first | exact Nat.le_refl _ | (simp; done) | (simp; omega) | omega)) | (with_reducible refine Below.drew ?_))
  have HF1 := Lib.hid (Fr.trans HF.out FW)
  have HOG1 := Lib.hid (HOG.out.fr FW)
  have HOX1 := Lib.hid (HOX.out.fr FW)
  have HB6 := Lib.hid (((Box4.new u2 (.int .i64 100) (.slice (some ⟨g1, 0, none⟩) 8 gr) (.slice (some ⟨g2, 0, none⟩) 5 gc) (.slice (some ⟨g3, 0, none⟩) 256 gm) 26 _ rfl).alloc (.cells #[.int .i64 p, .slice (some ⟨x1, 0, none⟩) 8 xr, .slice (some ⟨x2, 0, none⟩) 5 xc, .slice (some ⟨x3, 0, none⟩) 256 xm] 26)).alloc (.cells #[.int .i64 100, .int .i64 wd, .int .i64 0, .int .i64 0, .int .i64 0, .int .i64 (-1), .int .i64 0] 28))
  have HB7 := Lib.hid ((Box4.new (u2.alloc (.cells #[.int .i64 100, .slice (some ⟨g1, 0, none⟩) 8 gr, .slice (some ⟨g2, 0, none⟩) 5 gc, .slice (some ⟨g3, 0, none⟩) 256 gm] 26)) (.int .i64 p) (.slice (some ⟨x1, 0, none⟩) 8 xr) (.slice (some ⟨x2, 0, none⟩) 5 xc) (.slice (some ⟨x3, 0, none⟩) 256 xm) 26 (u2.heap.size + 1) (by simp)).alloc (.cells #[.int .i64 100, .int .i64 wd, .int .i64 0, .int .i64 0, .int .i64 0, .int .i64 (-1), .int .i64 0] 28))
  have HB8 := Lib.hid (Box7.new ((u2.alloc (.cells #[.int .i64 100, .slice (some ⟨g1, 0, none⟩) 8 gr, .slice (some ⟨g2, 0, none⟩) 5 gc, .slice (some ⟨g3, 0, none⟩) 256 gm] 26)).alloc (.cells #[.int .i64 p, .slice (some ⟨x1, 0, none⟩) 8 xr, .slice (some ⟨x2, 0, none⟩) 5 xc, .slice (some ⟨x3, 0, none⟩) 256 xm] 26)) ⟨100, wd, 0, 0, 0, -1, 0⟩ 28 (u2.heap.size + 1 + 1) (by simp))
  have hv1 : u2.heap.size + 3 ≤ (((u2.alloc (.cells #[.int .i64 100, .slice (some ⟨g1, 0, none⟩) 8 gr, .slice (some ⟨g2, 0, none⟩) 5 gc, .slice (some ⟨g3, 0, none⟩) 256 gm] 26)).alloc (.cells #[.int .i64 p, .slice (some ⟨x1, 0, none⟩) 8 xr, .slice (some ⟨x2, 0, none⟩) 5 xc, .slice (some ⟨x3, 0, none⟩) 256 xm] 26)).alloc (.cells #[.int .i64 100, .int .i64 wd, .int .i64 0, .int .i64 0, .int .i64 0, .int .i64 (-1), .int .i64 0] 28)).heap.size := by simp
  generalize (((u2.alloc (.cells #[.int .i64 100, .slice (some ⟨g1, 0, none⟩) 8 gr, .slice (some ⟨g2, 0, none⟩) 5 gc, .slice (some ⟨g3, 0, none⟩) 256 gm] 26)).alloc (.cells #[.int .i64 p, .slice (some ⟨x1, 0, none⟩) 8 xr, .slice (some ⟨x2, 0, none⟩) 5 xc, .slice (some ⟨x3, 0, none⟩) 256 xm] 26)).alloc (.cells #[.int .i64 100, .int .i64 wd, .int .i64 0, .int .i64 0, .int .i64 0, .int .i64 (-1), .int .i64 0] 28)) = v1 at *
  have hsu := HF.out.size
  clear FW HF HOG HOX
  refine (laws_haRun 5 0 1 1 0 n 100 a b HI2.out (by omega) (by omega) ha hb v1 (HT.out.fr HF1.out)).mono ?_
  rintro e u3 hq
  unfold RunQ at hq
  rw [HST2.out] at hq
  obtain ⟨wd2, hwd2⟩ : ∃ x, worD 5 0 1 1 0 n = x := ⟨_, rfl⟩
  rw [hwd2] at hq
  clear hwd2 HST2
  simp only [goto, Out.fin, hE] at hq
  rw [show (nx (hS 100 wd2 a b) + n) % 65536 = 101 + n from by rw [show nx (hS 100 wd2 a b) = 101 from rfl]; omega] at hq
  obtain ⟨k1, k2, k3, kr, kc, km, y1, y2, y3, yr, yc, ym, X1, he, ho2, hx2, hb9, f3⟩ := hq
  subst he
  have HF3 := Lib.hid (Fr.trans HF1.out f3)
  have HOG3 := Lib.hid (HOG1.out.fr f3)
  have HOX3 := Lib.hid (HOX1.out.fr f3)
  have HB63 := Lib.hid (HB6.out.fr f3)
  have HB73 := Lib.hid (HB7.out.fr f3)
  have HB83 := Lib.hid (HB8.out.fr f3)
  have hv3 := f3.size
  have m1 := HOG3.out.R.lt
  have m2 := HOG3.out.C.lt
  have m3 := HOG3.out.M.lt
  have m4 := HOX3.out.R.lt
  have m5 := HOX3.out.C.lt
  have m6 := HOX3.out.M.lt
  have q1 := HOG1.out.R.lt
  clear f3 HF1 HB6 HB7 HB8 ho2 hx2 hb9
  have hsep : ¬ u2.heap.size = g1 ∧ ¬ u2.heap.size = g2 ∧ ¬ u2.heap.size = g3 ∧ ¬ u2.heap.size = x1 ∧ ¬ u2.heap.size = x2 ∧ ¬ u2.heap.size = x3 := HSEP.out
  obtain ⟨s1, s2, s3, s4, s5, s6⟩ := hsep
  have HP2 := Lib.hid HP.out
  go_upto_region 7 with fail
  refine wp_gen (fun v => Box4 v u2.heap.size (.int .i64 100) (.slice (some ⟨g1, 0, none⟩) 8 gr) (.slice (some ⟨g2, 0, none⟩) 5 gc) (.slice (some ⟨g3, 0, none⟩) 256 gm) ∧ Box4 v (u2.heap.size + 1) (.int .i64 p) (.slice (some ⟨x1, 0, none⟩) 8 xr) (.slice (some ⟨x2, 0, none⟩) 5 xc) (.slice (some ⟨x3, 0, none⟩) 256 xm) ∧ Box7 v (u2.heap.size + 1 + 1) ⟨100, wd, 0, 0, 0, -1, 0⟩ ∧ Box4 v (u3.heap.size + 1) (.int .i64 (101 + n)) (.slice (some ⟨y1, 0, none⟩) 8 yr) (.slice (some ⟨y2, 0, none⟩) 5 yc) (.slice (some ⟨y3, 0, none⟩) 256 ym) ∧ Own v g1 g2 g3 ⟨p, hR a b, zeros 5, hM 100 wd⟩ ∧ Own v x1 x2 x3 ⟨p, hR a b, zeros 5, hM 100 wd⟩ ∧ Fr w v) ⟨?_, ?_, ?_, ?_, ?_, ?_, ?_⟩ ?_
  · exact ((HB63.out.alloc _).alloc _).alloc _
  · exact ((HB73.out.alloc _).alloc _).alloc _
  · exact ((HB83.out.alloc _).alloc _).alloc _
  · (repeat (first | (with_reducible assumption) | (with_reducible exact Box4.new _ _ _ _ _ _ _ (by first | rfl | simp | (simp; omega))) | (with_reducible refine Box4.alloc ?_ _) | (with_reducible refine Box4.drew ?_) | (with_reducible refine Box4.drewN ?_ _) | (with_reducible refine Box4.other ?_ _ _ _ (by omega))))
  · have q := HOG3.out
    (repeat (first | (with_reducible refine Own.alloc ?_ _) | (with_reducible refine Own.drew ?_) | (with_reducible refine Own.drewN ?_ _) | (with_reducible refine Own.other ?_ _ _ _ (by omega) (by omega) (by omega))))
    exact q
  · have q := HOX3.out
    (repeat (first | (with_reducible refine Own.alloc ?_ _) | (with_reducible refine Own.drew ?_) | (with_reducible refine Own.drewN ?_ _) | (with_reducible refine Own.other ?_ _ _ _ (by omega) (by omega) (by omega))))
    exact q
  · have q := HF3.out
    (repeat' first | (with_reducible exact Below.refl _ _) | (with_reducible assumption) | ((with_reducible refine Below.setCell ?_ ?hb _); (case hb => first | exact Nat.le_refl _ | (simp; done) | (simp; omega) | omega)) | ((with_reducible refine Below.alloc ?_ ?hb _); (case hb => first | exact Nat.le_refl _ | (simp; done) | (simp; omega) | omega)) | (with_reducible refine Below.drew ?_))
  rintro t ⟨w6, w7, w8, w10, wg, wx, wf⟩
  have HB64 := Lib.hid w6
  have HB74 := Lib.hid w7
  have HB84 := Lib.hid w8
  have HB104 := Lib.hid w10
  have HOG4 := Lib.hid wg
  have HOX4 := Lib.hid wx
  have HF5 := Lib.hid wf
  have n7 : ¬ u2.heap.size = u3.heap.size + 1 := by omega
  clear w6 w7 w8 w10 wg wx wf HB63 HB73 HB83 HOG3 HOX3 HF3
  obtain ⟨_, c0, c1, c2, c3, d0, d1, d2, d3⟩ := HB64.out
  by_cases hab : a = b
  · have hb1 : (a == b) = true := by simp [hab]
    obtain rfl : p = 101 + n := by rw [← HP2.out, if_pos hab]
    clear hab HP HP2
    go_upto_region 10 with fail
    refine wp_gen (fun v => Box4 v u2.heap.size (.int .i64 (101 + n)) (.slice (some ⟨g1, 0, none⟩) 8 gr) (.slice (some ⟨g2, 0, none⟩) 5 gc) (.slice (some ⟨g3, 0, none⟩) 256 gm) ∧ Box4 v (u2.heap.size + 1) (.int .i64 (101 + n)) (.slice (some ⟨x1, 0, none⟩) 8 xr) (.slice (some ⟨x2, 0, none⟩) 5 xc) (.slice (some ⟨x3, 0, none⟩) 256 xm) ∧ Box7 v (u2.heap.size + 1 + 1) ⟨100, wd, 0, 0, 0, -1, 0⟩ ∧ Box4 v (u3.heap.size + 1) (.int .i64 (101 + n)) (.slice (some ⟨y1, 0, none⟩) 8 yr) (.slice (some ⟨y2, 0, none⟩) 5 yc) (.slice (some ⟨y3, 0, none⟩) 256 ym) ∧ Own v g1 g2 g3 ⟨(101 + n), hR a b, zeros 5, hM 100 wd⟩ ∧ Own v x1 x2 x3 ⟨(101 + n), hR a b, zeros 5, hM 100 wd⟩ ∧ Fr w v) ⟨?_, ?_, ?_, ?_, ?_, ?_, ?_⟩ ?_
    · have q := HB64.out
      first | exact (q.set0 _).set0 _ | exact q.set0 _
    · have q := HB74.out
      (repeat (first | (with_reducible assumption) | (with_reducible exact Box4.new _ _ _ _ _ _ _ (by first | rfl | simp | (simp; omega))) | (with_reducible refine Box4.alloc ?_ _) | (with_reducible refine Box4.drew ?_) | (with_reducible refine Box4.drewN ?_ _) | (with_reducible refine Box4.other ?_ _ _ _ (by omega))))
    · have q := HB84.out
      (repeat (first | (with_reducible assumption) | (with_reducible exact Box7.new _ _ _ _ (by first | rfl | simp | (simp; omega))) | (with_reducible exact Box7.newv _ _ _ _ _ _ _ _ _ _ (by first | rfl | simp | (simp; omega))) | (with_reducible refine Box7.alloc ?_ _) | (with_reducible refine Box7.drew ?_) | (with_reducible refine Box7.drewN ?_ _) | (with_reducible refine Box7.other ?_ _ _ _ (by omega))))
    · have q := HB104.out
      (repeat (first | (with_reducible assumption) | (with_reducible exact Box4.new _ _ _ _ _ _ _ (by first | rfl | simp | (simp; omega))) | (with_reducible refine Box4.alloc ?_ _) | (with_reducible refine Box4.drew ?_) | (with_reducible refine Box4.drewN ?_ _) | (with_reducible refine Box4.other ?_ _ _ _ (by omega))))
    · have q := HOG4.out
      (repeat (first | (with_reducible refine Own.alloc ?_ _) | (with_reducible refine Own.drew ?_) | (with_reducible refine Own.drewN ?_ _) | (with_reducible refine Own.other ?_ _ _ _ (by omega) (by omega) (by omega))))
      exact q
    · have q := HOX4.out
      (repeat (first | (with_reducible refine Own.alloc ?_ _) | (with_reducible refine Own.drew ?_) | (with_reducible refine Own.drewN ?_ _) | (with_reducible refine Own.other ?_ _ _ _ (by omega) (by omega) (by omega))))
      exact q
    · refine fr_but (L := [u2.heap.size]) HF5.out ?_ (fun k hk => by simp at hk; omega)
      (repeat (first | (with_reducible exact But.refl _ _) | (with_reducible assumption) | (with_reducible refine But.alloc ?_ _) | (with_reducible refine But.drew ?_) | (with_reducible refine But.drewN ?_ _) | (with_reducible refine But.set ?_ _ _ _ (by first | (left; simp; done) | (right; simp; done) | (right; omega) | (right; simp; omega)))))
    rintro v ⟨w6, w7, w8, w10, wg, wx, wf⟩
    have H6 := Lib.hid w6
    have H8 := Lib.hid w8
    have H10 := Lib.hid w10
    have HWF := Lib.hid wf
    have HWG := Lib.hid wg
    have HWX := Lib.hid wx
    clear c0 c1 c2 c3 d0 d1 d2 d3 n7 w6 w8 w10 wf wg wx HB64 HB74 HB84 HB104 HOG4 HOX4 HF5
    obtain ⟨_, a0, a1, a2, a3, _, _, _, _⟩ := H6.out
    obtain ⟨_, b0, b1, b2, b3, _, _, _, _⟩ := w7
    go_wp2_with fail
    refine (same_pln HWG.out HWX.out HL1.out HL2.out HL3.out).mono ?_
    rintro e v2 ⟨rfl, f4⟩
    have HF4 := Lib.hid (Fr.trans HWF.out f4)
    clear a0 a1 a2 a3 b0 b1 b2 b3
    obtain ⟨_, v0, v1', v2', v3, v4, v5, v6, _, _, _, _, _, _, _⟩ := H8.out.fr f4
    obtain ⟨_, z0, z1, z2, z3, _, _, _, _⟩ := H10.out.fr f4
    clear f4
    have e2 : (101 + n == 101 + n) = true := by simp
    go_wp2_with fail
    go_ret
    exact ⟨rfl, HF4.out⟩
  · have hb1 : (a == b) = false := by simp [hab]
    obtain rfl : p = 101 := by rw [← HP2.out, if_neg hab]
    clear hab HP HP2
    go_upto_region 10 with fail
    refine wp_gen (fun v => Box4 v u2.heap.size (.int .i64 101) (.slice (some ⟨g1, 0, none⟩) 8 gr) (.slice (some ⟨g2, 0, none⟩) 5 gc) (.slice (some ⟨g3, 0, none⟩) 256 gm) ∧ Box4 v (u2.heap.size + 1) (.int .i64 101) (.slice (some ⟨x1, 0, none⟩) 8 xr) (.slice (some ⟨x2, 0, none⟩) 5 xc) (.slice (some ⟨x3, 0, none⟩) 256 xm) ∧ Box7 v (u2.heap.size + 1 + 1) ⟨100, wd, 0, 0, 0, -1, 0⟩ ∧ Box4 v (u3.heap.size + 1) (.int .i64 (101 + n)) (.slice (some ⟨y1, 0, none⟩) 8 yr) (.slice (some ⟨y2, 0, none⟩) 5 yc) (.slice (some ⟨y3, 0, none⟩) 256 ym) ∧ Own v g1 g2 g3 ⟨101, hR a b, zeros 5, hM 100 wd⟩ ∧ Own v x1 x2 x3 ⟨101, hR a b, zeros 5, hM 100 wd⟩ ∧ Fr w v) ⟨?_, ?_, ?_, ?_, ?_, ?_, ?_⟩ ?_
    · have q := HB64.out
      first | exact (q.set0 _).set0 _ | exact q.set0 _
    · have q := HB74.out
      (repeat (first | (with_reducible assumption) | (with_reducible exact Box4.new _ _ _ _ _ _ _ (by first | rfl | simp | (simp; omega))) | (with_reducible refine Box4.alloc ?_ _) | (with_reducible refine Box4.drew ?_) | (with_reducible refine Box4.drewN ?_ _) | (with_reducible refine Box4.other ?_ _ _ _ (by omega))))
    · have q := HB84.out
      (repeat (first | (with_reducible assumption) | (with_reducible exact Box7.new _ _ _ _ (by first | rfl | simp | (simp; omega))) | (with_reducible exact Box7.newv _ _ _ _ _ _ _ _ _ _ (by first | rfl | simp | (simp; omega))) | (with_reducible refine Box7.alloc ?_ _) | (with_reducible refine Box7.drew ?_) | (with_reducible refine Box7.drewN ?_ _) | (with_reducible refine Box7.other ?_ _ _ _ (by omega))))
    · have q := HB104.out
      (repeat (first | (with_reducible assumption) | (with_reducible exact Box4.new _ _ _ _ _ _ _ (by first | rfl | simp | (simp; omega))) | (with_reducible refine Box4.alloc ?_ _) | (with_reducible refine Box4.drew ?_) | (with_reducible refine Box4.drewN ?_ _) | (with_reducible refine Box4.other ?_ _ _ _ (by omega))))
    · have q := HOG4.out
      (repeat (first | (with_reducible refine Own.alloc ?_ _) | (with_reducible refine Own.drew ?_) | (with_reducible refine Own.drewN ?_ _) | (with_reducible refine Own.other ?_ _ _ _ (by omega) (by omega) (by omega))))
      exact q
    · have q := HOX4.out
      (repeat (first | (with_reducible refine Own.alloc ?_ _) | (with_reducible refine Own.drew ?_) | (with_reducible refine Own.drewN ?_ _) | (with_reducible refine Own.other ?_ _ _ _ (by omega) (by omega) (by omega))))
      exact q
    · refine fr_but (L := [u2.heap.size]) HF5.out ?_ (fun k hk => by simp at hk; omega)
      (repeat (first | (with_reducible exact But.refl _ _) | (with_reducible assumption) | (with_reducible refine But.alloc ?_ _) | (with_reducible refine But.drew ?_) | (with_reducible refine But.drewN ?_ _) | (with_reducible refine But.set ?_ _ _ _ (by first | (left; simp; done) | (right; simp; done) | (right; omega) | (right; simp; omega)))))
    rintro v ⟨w6, w7, w8, w10, wg, wx, wf⟩
    have H6 := Lib.hid w6
    have H8 := Lib.hid w8
    have H10 := Lib.hid w10
    have HWF := Lib.hid wf
    have HWG := Lib.hid wg
    have HWX := Lib.hid wx
    clear c0 c1 c2 c3 d0 d1 d2 d3 n7 w6 w8 w10 wf wg wx HB64 HB74 HB84 HB104 HOG4 HOX4 HF5
    obtain ⟨_, a0, a1, a2, a3, _, _, _, _⟩ := H6.out
    obtain ⟨_, b0, b1, b2, b3, _, _, _, _⟩ := w7
    go_wp2_with fail
    refine (same_pln HWG.out HWX.out HL1.out HL2.out HL3.out).mono ?_
    rintro e v2 ⟨rfl, f4⟩
    have HF4 := Lib.hid (Fr.trans HWF.out f4)
    clear a0 a1 a2 a3 b0 b1 b2 b3
    obtain ⟨_, v0, v1', v2', v3, v4, v5, v6, _, _, _, _, _, _, _⟩ := H8.out.fr f4
    obtain ⟨_, z0, z1, z2, z3, _, _, _, _⟩ := H10.out.fr f4
    clear f4
    have e2 : (101 + n == 101 + n) = true := by simp
    go_wp2_with fail
    go_ret
    exact ⟨rfl, HF4.out⟩

set_option maxRecDepth 100000 in
theorem lifted (os : Os) (started : os.Started) (H : Type) (enc : TypeId × Value → H) :
    ReturnsInHanded {} Tryd.checked os 8 .any (fun w args => (Rows.fnDoEqSpec.pre enc Tryd.prog Tryd.f8 [] false w args ∧ laidMetH Tryd.prog laidAll w) ∧ sizedMet enc Tryd.prog Tryd.f8 (OpenSpec.ofChange Rows.fnDoEqSpec) false w args)
      (Rows.fnDoEqSpec.post enc Tryd.prog Tryd.f8 false true false false) := by
  refine returnsInHanded_of_change_and (C := Tryd.checked) (X := fun w _ => laidMetH Tryd.prog laidAll w) (fun _ _ _ hh h => h.of_heap hh) own started (by kernel_rfl) Tryd.func8
    (ChangeSpec.witness_shaped (enc := enc) (C := Tryd.checked) (os := os) (X := fun w _ => laidMetH Tryd.prog laidAll w) false (World.doorLaid Tryd.prog 400 os) #[.slice none 0 0] 8 rfl (World.shaped_of_RefB (by kernel_rfl) (by kernel_rfl)) (by kernel_rfl) (by kernel_rfl) (by kernel_rfl) (door_met os _)) ?_
  intro W base args ds gs before hval0 hW _ _ hL _
  have hval : ∀ (j : Nat) t v, Tryd.f8.params[j]? = some t → args[j]? = some v → Value.okWide Tryd.prog W .any base t v := hval0
  have hW' := hW
  obtain ⟨p, q, hA0, hV0, rfl, hfz, hnd⟩ := hW
  have hA : DataW.TrodAll enc Tryd.prog W 0 (fun _ => true) true Tryd.f8.params.toList args.toList ds p := hA0
  have hV : DataW.TrodVars enc Tryd.prog W (fun _ => true) laidNames gs q := hV0
  rw [Tryd.params8] at hA hval
  obtain ⟨v0, vs0, d0, ds0, p0, q0, hargs, rfl, rfl, h0, r0⟩ := trodAll_cons hA
  obtain ⟨rfl, rfl, rfl⟩ := trodAll_nil r0
  obtain rfl : args = #[v0] := by cases args; simp_all
  have hV1 := hV
  obtain ⟨g0, t0, cs0, f0, e0, s0, g1, t1, cs1, f1, e1, s1, rfl, _⟩ := trodVars_two hV1
  obtain ⟨a0, len0, cap0, rfl⟩ := okWide_slice Tryd.underlying42 (hval 0 42 v0 rfl rfl)
  have k0 := h0
  have lt0 : ∀ x ∈ p0, x.block < W.heap.size := by obtain ⟨m, hm⟩ := k0; exact DataW.trod_lt m _ _ _ hm
  obtain ⟨z0, w0⟩ : ∃ zs, IsRow .u8 W a0 len0 cap0 zs := by
    obtain ⟨fuel, hf⟩ := h0
    rcases open_ints Tryd.underlying42 Tryd.underlying5 (by kernel_rfl) hf with ⟨hcs, _⟩ | ⟨x, l, c, zs, hcs, _, hl, hm, hz, _, hcell, hwz⟩
    · simp [Value.cells] at hcs
      obtain ⟨rfl, rfl, rfl⟩ := hcs
      exact ⟨[], .inl ⟨rfl, rfl, rfl, rfl⟩⟩
    · simp [Value.cells] at hcs
      obtain ⟨rfl, rfl, rfl⟩ := hcs
      exact ⟨zs, .inr ⟨_, rfl, hl, hm, by simpa using hz, hcell, hwz⟩⟩
  clear hA0 hval0 hV1
  refine (walk a0 len0 cap0 z0 W (tabs_of_laid hL) w0).mono fun e W' ⟨he, bel⟩ => ?_
  subst he
  exact ⟨_, rfl, _, _, _, [], _, _, hW', trodAll_mk1 (shut_bool Tryd.underlying4 _), (trodAll_cons_mk (Below.trod laidOut (by kernel_rfl) (of_decide_eq_true (by kernel_rfl)) k0 bel lt0) trodAll_mk0), bel.trodVars laidOut (by kernel_rfl) hV, bel.frame _, fun h => by cases h⟩

theorem over : Rows.fnDoEqRow.holds Tryd.pinned (OpenSpec.ofChange Rows.fnDoEqSpec) :=
  OpenClaim.holds_of_wide 8 Tryd.f8 rfl rfl rfl rfl rfl rfl rfl ⟨rfl, rfl, rfl, rfl, rfl⟩ rfl rfl rfl rfl rfl (by kernel_rfl) Tryd.func8 (by kernel_rfl)
    (of_decide_eq_true (by kernel_rfl)) (by unfold Func.isWrapper; first | (rw [if_pos (by decide +kernel)]; kernel_rfl) | (rw [if_neg (by decide +kernel)]; exact ⟨rfl, rfl⟩))
    (fun os started H enc _ => lifted os started H enc)

/-- THE STATEMENT: the tied card. -/
theorem proved : Rows.FnDoEqCardSaid :=
  Claim7.holds_tied_plain_at .later [] [.wider, .data] true (true, "9dc2e115a97561e3249269897313e148c9c7960c406c87ea32a23191d0e08754") true
    over (fun _ h => by cases h) (by kernel_rfl) (fun _ h => by cases h) fnDoEq_row_tie rfl ⟨rfl, rfl⟩ (by kernel_rfl) rfl
    (fun f fn hf hfn => by
      obtain rfl : f = 8 := Option.some.inj ((show Tryd.prog.funcNamed "loop.example/harbinger/laws.FnDoEq" = some 8 by kernel_rfl).symm.trans hf) |>.symm
      obtain rfl : fn = Tryd.f8 := (Option.some.inj (Tryd.func8.symm.trans hfn)).symm
      exact ⟨by kernel_rfl, fun j t ht => by
        rw [Tryd.params8] at ht
        have hm : t ∈ [42] := by simpa using Array.mem_of_getElem? ht
        have hall : ([42].all fun u => !Tryd.prog.wantsStandIn u) = true := by kernel_rfl
        exact (show Tryd.prog.wantsStandIn t = false by simpa using List.all_eq_true.1 hall t hm)⟩)
    (by kernel_rfl)
#print axioms proved
end Go.Proofs.YtbjapncfgancoaaDoor.fnDoEq
