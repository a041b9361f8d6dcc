/- For every code (any bytes), law FnDoFar returns true and its argument reads as before (no condition; the two tables read as the program's text lays them, which the card ties). -/
import Derived.Test.YtbjapncfgancoaaDoorCards
import Derived.Test.YtbjapncfgancoaaDoorTie
import Derived.Test.YtbjapncfgancoaaDoorLaid
import Derived.Test.YtbjapncfgancoaaDoorSx2
import Derived.WalkKit
import Derived.ProofKit
import Derived.OpenShut
import Derived.ShutString
import Derived.SliceStrings
import Derived.ChangeOld
import Derived.Below
import Derived.SevenTiedAt
namespace Go.Proofs.YtbjapncfgancoaaDoor.fnDoFar
open Go.ChangeShapes Go.WideShapes Go.ChangeAt Go.RowKit
set_option linter.unusedVariables false

def IsRow (k : IntKind) (w : World) (a : Option Addr) (len cap : Nat) (zs : List Int) : Prop :=
  (a = none ∧ len = 0 ∧ cap = 0 ∧ zs = []) ∨
  ∃ x, a = some x ∧ len ≤ cap ∧ cap ≤ maxLen ∧ zs.length = cap ∧ (∀ i, i < zs.length → w.cell? (x.add i) = some (.int k (zs.getD i 0))) ∧ ∀ n ∈ zs, (Lit.int k n).wf = true

set_option maxRecDepth 100000 in
set_option maxHeartbeats 8000000 in
theorem walk (a0 : Option Addr) (len0 cap0 : Nat) (z0 : List Int) (w : World) (ht : Tabs w) (w0 : IsRow .u8 w a0 len0 cap0 z0) :
    Calls Tryd.prog 17 #[.slice a0 len0 cap0] w fun e w' => e = .returned (.bool true) ∧ Below w.heap.size w w' := by
  have hc : Code1 w.heap.size w a0 len0 cap0 := by
    rcases w0 with ⟨rfl, rfl, rfl, rfl⟩ | ⟨x, rfl, hl, hm, hz, hcell, hwz⟩
    · exact ⟨Nat.le_refl _, Nat.le_refl _, Nat.zero_le _, .inl rfl, fun _ => rfl⟩
    · exact ⟨Nat.le_refl _, hl, hm, bytes_of_row hl hz hcell hwz, by simp⟩
  clear w0
  by_cases hlen : (1048576 : Int) < (len0 : Int)
  · go_enter Tryd.func17, Tryd.ntmps17
    go_wp2
    go_ret
    exact ⟨rfl, Below.refl _ _⟩
  have HT := Lib.hid ht
  have hl : len0 ≤ 1048576 := by omega
  clear ht
  go_enter Tryd.func17, Tryd.ntmps17
  go_wp2_with fail
  refine (laws_haWords w.heap.size a0 len0 cap0 w hc hl).mono ?_
  rintro e w' ⟨a, b, ha, hb, rfl, rfl⟩
  obtain ⟨a0', a1'⟩ := okB_true ha
  obtain ⟨b0', b1'⟩ := okB_true hb
  clear hc hl
  obtain ⟨p, hp⟩ : ∃ x, 65535 - a % 1000 = x := ⟨_, rfl⟩
  have p0 : 256 ≤ p := by omega
  have p1 : p < 65536 := by omega
  have hi1 : iok 8 0 1 0 0 9 = true := by simp [iok, okAt, layN, layL, eL, eG, encL]
  obtain ⟨wd, hwd⟩ : ∃ x, worD 8 0 1 0 0 9 = x := ⟨_, rfl⟩
  have h3 : okB 65533 = true := rfl
  have hk0 : OkS ⟨p, zeros 8, zeros 5, zeros 256⟩ := zS_ok (okB_mk (by omega) p1)
  have hst1 : stepS ⟨p, zeros 8, zeros 5, zeros 256⟩ false = (⟨8, zeros 8, stopC ⟨p, zeros 8, zeros 5, zeros 256⟩ 2, zeros 256⟩, ⟨p, -1, 2, 0, 0, -1, 0⟩) := by
    rw [step_take (s := ⟨p, zeros 8, zeros 5, zeros 256⟩) (by simp) (by rw [show see (⟨p, zeros 8, zeros 5, zeros 256⟩ : St).C (⟨p, zeros 8, zeros 5, zeros 256⟩ : St).M (⟨p, zeros 8, zeros 5, zeros 256⟩ : St).pc false = -1 from see_far (by show (zeros 5).getD 3 0 % 2 = 0; rw [zeros_get]; rfl) (by show 256 ≤ p; exact p0)]; decide)]
    rfl
  have hc0 : (stopC ⟨p, zeros 8, zeros 5, zeros 256⟩ 2).getD 0 0 = p := stopC_0 hk0.Cl
  have hk1 := step_okS hk0 hst1
  have hst2 : stepS (hS 40 wd 65533 b) false = (⟨6, hR 65533 b, zeros 5, hM 40 wd⟩, ⟨40, wd, 0, 0, 0, -1, 0⟩) := by
    rw [sup_call (hS_sup (by omega) (by omega)) hi1 hwd]
    rfl
  have HI1 := Lib.hid hi1
  have HWD := Lib.hid hwd
  have HST1 := Lib.hid hst1
  have HST2 := Lib.hid hst2
  have HK0 := Lib.hid hk0
  have HK1 := Lib.hid hk1
  have HC0 := Lib.hid hc0
  have H3 := Lib.hid h3
  clear hi1 hwd hst1 hst2 hk0 hk1 hc0 h3
  have HF : Hid (Fr w w) := Lib.hid (Below.refl _ _)
  obtain ⟨C1, hC1⟩ : ∃ x, stopC ⟨p, zeros 8, zeros 5, zeros 256⟩ 2 = x := ⟨_, rfl⟩
  rw [hC1] at HST1 HK1 HC0
  clear hC1
  go_wp2_with fail
  have m2 := HF.out.size
  have f0 : Fr w (w.alloc (.cells #[] 3)) := Fr.alloc _ _
  replace HF := Lib.hid (Fr.trans HF.out f0)
  have m3 := HF.out.size
  clear f0
  refine (new_to [] _ 0 _ _ (src_none _ _) rfl rfl).mono ?_
  rintro e u1 ⟨s1, s2, s3, sr, sc, sm, he, ho, hl1, hl2, hl3, f⟩
  replace HF := Lib.hid (Fr.trans HF.out f)
  have O_s := Lib.hid (show Own u1 s1 s2 s3 ⟨0, zeros 8, zeros 5, zeros 256⟩ from ho)
  have he2 : e = .returned (.agg #[.int .i64 0, .slice (some ⟨s1, 0, none⟩) 8 sr, .slice (some ⟨s2, 0, none⟩) 5 sc, .slice (some ⟨s3, 0, none⟩) 256 sm]) := he
  subst he2
  clear he ho f
  have m4a := O_s.out.R.lt
  have m4b := O_s.out.C.lt
  have m4c := O_s.out.M.lt
  go_upto_region 5 with fail
  refine wp_gen (fun v9 => Cel v9 u1.heap.size [.int .i64 0, .slice (some ⟨s1, 0, none⟩) 8 sr, .slice (some ⟨s2, 0, none⟩) 5 sc, .slice (some ⟨s3, 0, none⟩) 256 sm] ∧ Own v9 s1 s2 s3 ⟨0, zeros 8, zeros 5, zeros 256⟩ ∧ Fr w v9) ⟨?_, ?_, ?_⟩ ?_
  · (repeat (first | (with_reducible assumption) | (with_reducible exact Cel.new _ _ _ _ (by first | rfl | omega | (simp; done) | (simp; omega))) | (with_reducible refine Cel.alloc ?_ _) | (with_reducible refine Cel.drew ?_) | (with_reducible refine Cel.drewN ?_ _) | (with_reducible refine Cel.other ?_ _ _ _ (by omega))))
  · have q9 := O_s.out
    (repeat (first | (with_reducible assumption) | (with_reducible refine Own.alloc ?_ _) | (with_reducible refine Own.drew ?_) | (with_reducible refine Own.drewN ?_ _) | (with_reducible refine Own.other ?_ _ _ _ (by omega) (by omega) (by omega))))
  · refine fr_but (L := []) HF.out ?_ (fun k hk => by first | (cases hk; done) | (simp at hk; omega))
    (repeat (first | (with_reducible exact But.refl _ _) | (with_reducible assumption) | (with_reducible refine But.alloc ?_ _) | (with_reducible refine But.drew ?_) | (with_reducible refine But.drewN ?_ _) | (with_reducible refine But.set ?_ _ _ _ (by first | (left; simp; done) | (right; simp; done) | (right; omega) | (right; simp; omega)))))
  rintro u5 ⟨z0, z1, z2⟩
  have B_ss := Lib.hid z0
  replace O_s := Lib.hid z1
  replace HF := Lib.hid z2
  clear z0 z1 z2
  generalize u1.heap.size = N_s at *
  have c6 : u5.cell? ⟨N_s, 0, none⟩ = some (.int .i64 0) := B_ss.out.cel 0 (by simp)
  have c7 : u5.frozen? ⟨N_s, 0, none⟩ = false := B_ss.out.fro 0 (by simp)
  go_upto_region 6 with fail
  refine wp_gen (fun v9 => Cel v9 N_s [.int .i64 p, .slice (some ⟨s1, 0, none⟩) 8 sr, .slice (some ⟨s2, 0, none⟩) 5 sc, .slice (some ⟨s3, 0, none⟩) 256 sm] ∧ Own v9 s1 s2 s3 ⟨0, zeros 8, zeros 5, zeros 256⟩ ∧ Fr w v9) ⟨?_, ?_, ?_⟩ ?_
  · have q9 := (show Cel (u5.setCell ⟨N_s, 0, none⟩ (.int .i64 p)) N_s [.int .i64 p, .slice (some ⟨s1, 0, none⟩) 8 sr, .slice (some ⟨s2, 0, none⟩) 5 sc, .slice (some ⟨s3, 0, none⟩) 256 sm] from B_ss.out.set 0 _ (by simp))
    (repeat (first | (with_reducible assumption) | (with_reducible exact Cel.new _ _ _ _ (by first | rfl | omega | (simp; done) | (simp; omega))) | (with_reducible refine Cel.alloc ?_ _) | (with_reducible refine Cel.drew ?_) | (with_reducible refine Cel.drewN ?_ _) | (with_reducible refine Cel.other ?_ _ _ _ (by omega))))
  · have q9 := O_s.out
    (repeat (first | (with_reducible assumption) | (with_reducible refine Own.alloc ?_ _) | (with_reducible refine Own.drew ?_) | (with_reducible refine Own.drewN ?_ _) | (with_reducible refine Own.other ?_ _ _ _ (by omega) (by omega) (by omega))))
  · refine fr_but (L := [N_s]) HF.out ?_ (fun k hk => by first | (cases hk; done) | (simp at hk; omega))
    (repeat (first | (with_reducible exact But.refl _ _) | (with_reducible assumption) | (with_reducible refine But.alloc ?_ _) | (with_reducible refine But.drew ?_) | (with_reducible refine But.drewN ?_ _) | (with_reducible refine But.set ?_ _ _ _ (by first | (left; simp; done) | (right; simp; done) | (right; omega) | (right; simp; omega)))))
  rintro u8 ⟨z0, z1, z2⟩
  replace B_ss := Lib.hid z0
  replace O_s := Lib.hid z1
  replace HF := Lib.hid z2
  clear z0 z1 z2
  clear c6 c7
  replace O_s := Lib.hid (show Own u8 s1 s2 s3 ⟨p, zeros 8, zeros 5, zeros 256⟩ from O_s.out.pc p)
  have c9 : u8.cell? ⟨N_s, 0, none⟩ = some (.int .i64 p) := B_ss.out.cel 0 (by simp)
  have c10 : u8.cell? ⟨N_s, 1, none⟩ = some (.slice (some ⟨s1, 0, none⟩) 8 sr) := B_ss.out.cel 1 (by simp)
  have c11 : u8.cell? ⟨N_s, 2, none⟩ = some (.slice (some ⟨s2, 0, none⟩) 5 sc) := B_ss.out.cel 2 (by simp)
  have c12 : u8.cell? ⟨N_s, 3, none⟩ = some (.slice (some ⟨s3, 0, none⟩) 256 sm) := B_ss.out.cel 3 (by simp)
  go_wp2_with fail
  clear c9 c10 c11 c12
  have m14 := B_ss.out.lt
  have m15 := HF.out.size
  refine (step_to (s := ⟨p, zeros 8, zeros 5, zeros 256⟩) (s2 := ⟨8, zeros 8, C1, zeros 256⟩) (e2 := ⟨p, -1, 2, 0, 0, -1, 0⟩) O_s.out HK0.out rfl (HT.out.fr HF.out) HST1.out).mono ?_
  rintro e u13 ⟨x1, x2, x3, xr, xc, xm, he, ho, hl1, hl2, hl3, f⟩
  replace B_ss := Lib.hid (B_ss.out.fr f)
  replace O_s := Lib.hid (O_s.out.fr f)
  replace HF := Lib.hid (Fr.trans HF.out f)
  have O_x := Lib.hid (show Own u13 x1 x2 x3 ⟨8, zeros 8, C1, zeros 256⟩ from ho)
  have he2 : e = .returned (.tuple #[.agg #[.int .i64 8, .slice (some ⟨x1, 0, none⟩) 8 xr, .slice (some ⟨x2, 0, none⟩) 5 xc, .slice (some ⟨x3, 0, none⟩) 256 xm], .agg #[.int .i64 p, .int .i64 (-1), .int .i64 2, .int .i64 0, .int .i64 0, .int .i64 (-1), .int .i64 0]]) := he
  subst he2
  clear he ho f
  have m16a := O_x.out.R.lt
  have m16b := O_x.out.C.lt
  have m16c := O_x.out.M.lt
  go_upto_region 7 with fail
  refine wp_gen (fun v9 => Cel v9 N_s [.int .i64 p, .slice (some ⟨s1, 0, none⟩) 8 sr, .slice (some ⟨s2, 0, none⟩) 5 sc, .slice (some ⟨s3, 0, none⟩) 256 sm] ∧ Cel v9 u13.heap.size [.int .i64 8, .slice (some ⟨x1, 0, none⟩) 8 xr, .slice (some ⟨x2, 0, none⟩) 5 xc, .slice (some ⟨x3, 0, none⟩) 256 xm] ∧ Cel v9 (u13.heap.size + 1) [.int .i64 p, .int .i64 (-1), .int .i64 2, .int .i64 0, .int .i64 0, .int .i64 (-1), .int .i64 0] ∧ Own v9 s1 s2 s3 ⟨p, zeros 8, zeros 5, zeros 256⟩ ∧ Own v9 x1 x2 x3 ⟨8, zeros 8, C1, zeros 256⟩ ∧ Fr w v9) ⟨?_, ?_, ?_, ?_, ?_, ?_⟩ ?_
  · have q9 := B_ss.out
    (repeat (first | (with_reducible assumption) | (with_reducible exact Cel.new _ _ _ _ (by first | rfl | omega | (simp; done) | (simp; omega))) | (with_reducible refine Cel.alloc ?_ _) | (with_reducible refine Cel.drew ?_) | (with_reducible refine Cel.drewN ?_ _) | (with_reducible refine Cel.other ?_ _ _ _ (by omega))))
  · (repeat (first | (with_reducible assumption) | (with_reducible exact Cel.new _ _ _ _ (by first | rfl | omega | (simp; done) | (simp; omega))) | (with_reducible refine Cel.alloc ?_ _) | (with_reducible refine Cel.drew ?_) | (with_reducible refine Cel.drewN ?_ _) | (with_reducible refine Cel.other ?_ _ _ _ (by omega))))
  · (repeat (first | (with_reducible assumption) | (with_reducible exact Cel.new _ _ _ _ (by first | rfl | omega | (simp; done) | (simp; omega))) | (with_reducible refine Cel.alloc ?_ _) | (with_reducible refine Cel.drew ?_) | (with_reducible refine Cel.drewN ?_ _) | (with_reducible refine Cel.other ?_ _ _ _ (by omega))))
  · have q9 := O_s.out
    (repeat (first | (with_reducible assumption) | (with_reducible refine Own.alloc ?_ _) | (with_reducible refine Own.drew ?_) | (with_reducible refine Own.drewN ?_ _) | (with_reducible refine Own.other ?_ _ _ _ (by omega) (by omega) (by omega))))
  · have q9 := O_x.out
    (repeat (first | (with_reducible assumption) | (with_reducible refine Own.alloc ?_ _) | (with_reducible refine Own.drew ?_) | (with_reducible refine Own.drewN ?_ _) | (with_reducible refine Own.other ?_ _ _ _ (by omega) (by omega) (by omega))))
  · refine fr_but (L := []) HF.out ?_ (fun k hk => by first | (cases hk; done) | (simp at hk; omega))
    (repeat (first | (with_reducible exact But.refl _ _) | (with_reducible assumption) | (with_reducible refine But.alloc ?_ _) | (with_reducible refine But.drew ?_) | (with_reducible refine But.drewN ?_ _) | (with_reducible refine But.set ?_ _ _ _ (by first | (left; simp; done) | (right; simp; done) | (right; omega) | (right; simp; omega)))))
  rintro u17 ⟨z0, z1, z2, z3, z4, z5⟩
  replace B_ss := Lib.hid z0
  have B_sx := Lib.hid z1
  have B_ex := Lib.hid z2
  replace O_s := Lib.hid z3
  replace O_x := Lib.hid z4
  replace HF := Lib.hid z5
  clear z0 z1 z2 z3 z4 z5
  generalize u13.heap.size = N_x at *
  have L_x : Hid (Lens ⟨8, zeros 8, C1, zeros 256⟩) := Lib.hid ⟨HK1.out.Rl, HK1.out.Cl, HK1.out.Ml⟩
  go_wp2_with fail
  have m19 := B_ss.out.lt
  have m20 := B_sx.out.lt
  have m21 := B_ex.out.lt
  have m22 := HF.out.size
  refine (run_to (s2 := ⟨6, hR 65533 b, zeros 5, hM 40 wd⟩) (e2 := ⟨40, wd, 0, 0, 0, -1, 0⟩) HI1.out (by omega) (by omega) H3.out hb HWD.out HST2.out u17 (HT.out.fr HF.out)).mono ?_
  rintro e u18 ⟨g1, g2, g3, gr, gc, gm, y1, y2, y3, yr, yc, ym, X0, he, ho, hx, ⟨hl1, hl2, hl3, hl4, hl5, hl6, hl7, hl8, hl9⟩, f⟩
  replace B_ss := Lib.hid (B_ss.out.fr f)
  replace B_sx := Lib.hid (B_sx.out.fr f)
  replace B_ex := Lib.hid (B_ex.out.fr f)
  replace O_s := Lib.hid (O_s.out.fr f)
  replace O_x := Lib.hid (O_x.out.fr f)
  replace HF := Lib.hid (Fr.trans HF.out f)
  have O_g := Lib.hid (show Own u18 g1 g2 g3 ⟨40, hR 65533 b, zeros 5, hM 40 wd⟩ from ho)
  have O_y := Lib.hid (show Own u18 y1 y2 y3 ⟨6, hR 65533 b, zeros 5, hM 40 wd⟩ from hx)
  have he2 : e = .returned (.tuple #[.agg #[.int .i64 40, .slice (some ⟨g1, 0, none⟩) 8 gr, .slice (some ⟨g2, 0, none⟩) 5 gc, .slice (some ⟨g3, 0, none⟩) 256 gm], .agg #[.int .i64 6, .slice (some ⟨y1, 0, none⟩) 8 yr, .slice (some ⟨y2, 0, none⟩) 5 yc, .slice (some ⟨y3, 0, none⟩) 256 ym], .agg #[.int .i64 40, .int .i64 wd, .int .i64 0, .int .i64 0, .int .i64 0, .int .i64 (-1), .int .i64 0]]) := he
  subst he2
  clear he ho hx f
  have m23a := O_g.out.R.lt
  have m23b := O_g.out.C.lt
  have m23c := O_g.out.M.lt
  have m24a := O_y.out.R.lt
  have m24b := O_y.out.C.lt
  have m24c := O_y.out.M.lt
  go_upto_region 8 with fail
  refine wp_gen (fun v9 => Cel v9 N_s [.int .i64 p, .slice (some ⟨s1, 0, none⟩) 8 sr, .slice (some ⟨s2, 0, none⟩) 5 sc, .slice (some ⟨s3, 0, none⟩) 256 sm] ∧ Cel v9 N_x [.int .i64 8, .slice (some ⟨x1, 0, none⟩) 8 xr, .slice (some ⟨x2, 0, none⟩) 5 xc, .slice (some ⟨x3, 0, none⟩) 256 xm] ∧ Cel v9 (N_x + 1) [.int .i64 p, .int .i64 (-1), .int .i64 2, .int .i64 0, .int .i64 0, .int .i64 (-1), .int .i64 0] ∧ Cel v9 u18.heap.size [.int .i64 40, .slice (some ⟨g1, 0, none⟩) 8 gr, .slice (some ⟨g2, 0, none⟩) 5 gc, .slice (some ⟨g3, 0, none⟩) 256 gm] ∧ Cel v9 (u18.heap.size + 1) [.int .i64 6, .slice (some ⟨y1, 0, none⟩) 8 yr, .slice (some ⟨y2, 0, none⟩) 5 yc, .slice (some ⟨y3, 0, none⟩) 256 ym] ∧ Cel v9 (u18.heap.size + 1 + 1) [.int .i64 40, .int .i64 wd, .int .i64 0, .int .i64 0, .int .i64 0, .int .i64 (-1), .int .i64 0] ∧ Own v9 s1 s2 s3 ⟨p, zeros 8, zeros 5, zeros 256⟩ ∧ Own v9 x1 x2 x3 ⟨8, zeros 8, C1, zeros 256⟩ ∧ Own v9 g1 g2 g3 ⟨40, hR 65533 b, zeros 5, hM 40 wd⟩ ∧ Own v9 y1 y2 y3 ⟨6, hR 65533 b, zeros 5, hM 40 wd⟩ ∧ Fr w v9) ⟨?_, ?_, ?_, ?_, ?_, ?_, ?_, ?_, ?_, ?_, ?_⟩ ?_
  · have q9 := B_ss.out
    (repeat (first | (with_reducible assumption) | (with_reducible exact Cel.new _ _ _ _ (by first | rfl | omega | (simp; done) | (simp; omega))) | (with_reducible refine Cel.alloc ?_ _) | (with_reducible refine Cel.drew ?_) | (with_reducible refine Cel.drewN ?_ _) | (with_reducible refine Cel.other ?_ _ _ _ (by omega))))
  · have q9 := B_sx.out
    (repeat (first | (with_reducible assumption) | (with_reducible exact Cel.new _ _ _ _ (by first | rfl | omega | (simp; done) | (simp; omega))) | (with_reducible refine Cel.alloc ?_ _) | (with_reducible refine Cel.drew ?_) | (with_reducible refine Cel.drewN ?_ _) | (with_reducible refine Cel.other ?_ _ _ _ (by omega))))
  · have q9 := B_ex.out
    (repeat (first | (with_reducible assumption) | (with_reducible exact Cel.new _ _ _ _ (by first | rfl | omega | (simp; done) | (simp; omega))) | (with_reducible refine Cel.alloc ?_ _) | (with_reducible refine Cel.drew ?_) | (with_reducible refine Cel.drewN ?_ _) | (with_reducible refine Cel.other ?_ _ _ _ (by omega))))
  · (repeat (first | (with_reducible assumption) | (with_reducible exact Cel.new _ _ _ _ (by first | rfl | omega | (simp; done) | (simp; omega))) | (with_reducible refine Cel.alloc ?_ _) | (with_reducible refine Cel.drew ?_) | (with_reducible refine Cel.drewN ?_ _) | (with_reducible refine Cel.other ?_ _ _ _ (by omega))))
  · (repeat (first | (with_reducible assumption) | (with_reducible exact Cel.new _ _ _ _ (by first | rfl | omega | (simp; done) | (simp; omega))) | (with_reducible refine Cel.alloc ?_ _) | (with_reducible refine Cel.drew ?_) | (with_reducible refine Cel.drewN ?_ _) | (with_reducible refine Cel.other ?_ _ _ _ (by omega))))
  · (repeat (first | (with_reducible assumption) | (with_reducible exact Cel.new _ _ _ _ (by first | rfl | omega | (simp; done) | (simp; omega))) | (with_reducible refine Cel.alloc ?_ _) | (with_reducible refine Cel.drew ?_) | (with_reducible refine Cel.drewN ?_ _) | (with_reducible refine Cel.other ?_ _ _ _ (by omega))))
  · have q9 := O_s.out
    (repeat (first | (with_reducible assumption) | (with_reducible refine Own.alloc ?_ _) | (with_reducible refine Own.drew ?_) | (with_reducible refine Own.drewN ?_ _) | (with_reducible refine Own.other ?_ _ _ _ (by omega) (by omega) (by omega))))
  · have q9 := O_x.out
    (repeat (first | (with_reducible assumption) | (with_reducible refine Own.alloc ?_ _) | (with_reducible refine Own.drew ?_) | (with_reducible refine Own.drewN ?_ _) | (with_reducible refine Own.other ?_ _ _ _ (by omega) (by omega) (by omega))))
  · have q9 := O_g.out
    (repeat (first | (with_reducible assumption) | (with_reducible refine Own.alloc ?_ _) | (with_reducible refine Own.drew ?_) | (with_reducible refine Own.drewN ?_ _) | (with_reducible refine Own.other ?_ _ _ _ (by omega) (by omega) (by omega))))
  · have q9 := O_y.out
    (repeat (first | (with_reducible assumption) | (with_reducible refine Own.alloc ?_ _) | (with_reducible refine Own.drew ?_) | (with_reducible refine Own.drewN ?_ _) | (with_reducible refine Own.other ?_ _ _ _ (by omega) (by omega) (by omega))))
  · refine fr_but (L := []) HF.out ?_ (fun k hk => by first | (cases hk; done) | (simp at hk; omega))
    (repeat (first | (with_reducible exact But.refl _ _) | (with_reducible assumption) | (with_reducible refine But.alloc ?_ _) | (with_reducible refine But.drew ?_) | (with_reducible refine But.drewN ?_ _) | (with_reducible refine But.set ?_ _ _ _ (by first | (left; simp; done) | (right; simp; done) | (right; omega) | (right; simp; omega)))))
  rintro u25 ⟨z0, z1, z2, z3, z4, z5, z6, z7, z8, z9, z10⟩
  replace B_ss := Lib.hid z0
  replace B_sx := Lib.hid z1
  replace B_ex := Lib.hid z2
  have B_sg := Lib.hid z3
  have B_sy := Lib.hid z4
  have B_ey := Lib.hid z5
  replace O_s := Lib.hid z6
  replace O_x := Lib.hid z7
  replace O_g := Lib.hid z8
  replace O_y := Lib.hid z9
  replace HF := Lib.hid z10
  clear z0 z1 z2 z3 z4 z5 z6 z7 z8 z9 z10
  generalize u18.heap.size = N_y at *
  refine wp_region_lots 64 (fun i => []) (fun _ _ => True) (fun i v9 u => match i with | 0 => v9 = .pointer (some ⟨N_x + 1, 2, none⟩) | 1 => v9 = .int .i64 2 | 2 => v9 = .bool true | 3 => v9 = .bool true | 4 => v9 = .pointer (some ⟨N_x + 1, 1, none⟩) | 5 => v9 = .int .i64 (-1) | 6 => v9 = .bool true | 7 => v9 = .bool true | 8 => v9 = .bool true | 9 => v9 = .pointer (some ⟨N_x, 0, none⟩) | 10 => v9 = .int .i64 8 | 11 => v9 = .bool true | 12 => v9 = .bool true | 13 => v9 = .bool true | 14 => v9 = .pointer (some ⟨N_x, 2, none⟩) | 15 => v9 = .slice (some ⟨x2, 0, none⟩) 5 xc | 16 => v9 = .pointer (some ⟨x2, 0, none⟩) | 17 => v9 = .int .i64 p | 18 => v9 = .pointer (some ⟨N_s, 0, none⟩) | 19 => v9 = .int .i64 p | 20 => v9 = .bool true | 21 => v9 = .bool true | 22 => v9 = .bool true | 23 => v9 = .pointer (some ⟨N_y + 1, 0, none⟩) | 24 => v9 = .int .i64 6 | 25 => v9 = .bool true | 26 => v9 = .bool true | 27 => v9 = .bool true | _ => True) ?mono (by kernel_rfl) (by kernel_rfl) rfl (by kernel_rfl) trivial ?step ?fin
  case mono =>
    intro i j v9 u u' hij hsz h hB
    rcases j with _ | _ | _ | _ | _ | _ | _ | _ | _ | _ | _ | _ | _ | _ | _ | _ | _ | _ | _ | _ | _ | _ | _ | _ | _ | _ | _ | _ | j
    · exact h
    · exact h
    · exact h
    · exact h
    · exact h
    · exact h
    · exact h
    · exact h
    · exact h
    · exact h
    · exact h
    · exact h
    · exact h
    · exact h
    · exact h
    · exact h
    · exact h
    · exact h
    · exact h
    · exact h
    · exact h
    · exact h
    · exact h
    · exact h
    · exact h
    · exact h
    · exact h
    · exact h
    · trivial
  case step =>
    intro i o ho
    rcases i with _ | _ | _ | _ | _ | _ | _ | _ | _ | _ | _ | _ | _ | _ | _ | _ | _ | _ | _ | _ | _ | _ | _ | _ | _ | _ | _ | _ | i
    · cases ho
      intro fu act u hW hB hsz hL hdep
      replace hB := hB [] (fun j hj hd k hk => by
        cases hk)
      have x7 : act.tmps.getD 7 undef = (.pointer (some ⟨N_x + 1, 0, none⟩) : Value) := (hL.2.2 7 (no_dst (by kernel_rfl))).trans rfl
      clear hdep hL
      refine wpOp_step rfl (fun K hK => ?_)
      go_simp
      exact hK _ _ ⟨_, rfl, (fun h => by cases h), (by first | rfl | (exact congrArg (Value.int .i64) (by first | rfl | (rw [IntWalk.i64_left, IntWalk.wrap64_in _ (by omega)]) | omega)) | (simp; done) | (simp; omega) | (simp; rw [Int.tmod_eq_emod_of_nonneg (by omega)]; omega)), But.refl _ _, trivial⟩
    · cases ho
      intro fu act u hW hB hsz hL hdep
      replace hB := hB [] (fun j hj hd k hk => by
        cases hk)
      have e0 : act.tmps.getD 37 undef = (.pointer (some ⟨N_x + 1, 2, none⟩) : Value) := hdep { on := 0, ground := .data } (by simp) rfl _ rfl
      clear hdep hL
      have c26 : u.cell? ⟨N_x + 1, 2, none⟩ = some (.int .i64 2) := (B_ex.out.but hB (by first | (simp; done) | (simp; omega))).cel 2 (by simp)
      refine wpOp_step rfl (fun K hK => ?_)
      go_simp
      exact hK _ _ ⟨_, rfl, (fun h => by cases h), (by first | rfl | (exact congrArg (Value.int .i64) (by first | rfl | (rw [IntWalk.i64_left, IntWalk.wrap64_in _ (by omega)]) | omega)) | (simp; done) | (simp; omega) | (simp; rw [Int.tmod_eq_emod_of_nonneg (by omega)]; omega)), But.refl _ _, trivial⟩
    · cases ho
      intro fu act u hW hB hsz hL hdep
      replace hB := hB [] (fun j hj hd k hk => by
        cases hk)
      have e1 : act.tmps.getD 38 undef = (.int .i64 2 : Value) := hdep { on := 1, ground := .data } (by simp) rfl _ rfl
      clear hdep hL
      refine wpOp_step rfl (fun K hK => ?_)
      go_simp
      exact hK _ _ ⟨_, rfl, (fun h => by cases h), (by first | rfl | (exact congrArg (Value.int .i64) (by first | rfl | (rw [IntWalk.i64_left, IntWalk.wrap64_in _ (by omega)]) | omega)) | (simp; done) | (simp; omega) | (simp; rw [Int.tmod_eq_emod_of_nonneg (by omega)]; omega)), But.refl _ _, trivial⟩
    · cases ho
      intro fu act u hW hB hsz hL hdep
      replace hB := hB [] (fun j hj hd k hk => by
        cases hk)
      have e2 : act.tmps.getD 39 undef = (.bool true : Value) := hdep { on := 2, ground := .data } (by simp) rfl _ rfl
      clear hdep hL
      refine wpOp_step rfl (fun K hK => ?_)
      go_simp
      exact hK _ _ ⟨_, rfl, (fun h => by cases h), (by first | rfl | (exact congrArg (Value.int .i64) (by first | rfl | (rw [IntWalk.i64_left, IntWalk.wrap64_in _ (by omega)]) | omega)) | (simp; done) | (simp; omega) | (simp; rw [Int.tmod_eq_emod_of_nonneg (by omega)]; omega)), But.refl _ _, trivial⟩
    · cases ho
      intro fu act u hW hB hsz hL hdep
      replace hB := hB [] (fun j hj hd k hk => by
        cases hk)
      have e3 : act.tmps.getD 40 undef = (.bool true : Value) := hdep { on := 3, ground := .guard } (by simp) rfl _ rfl
      have e3' := get_some e3 (by simp [undef])
      have x7 : act.tmps.getD 7 undef = (.pointer (some ⟨N_x + 1, 0, none⟩) : Value) := (hL.2.2 7 (no_dst (by kernel_rfl))).trans rfl
      clear hdep hL
      refine wpOp_step rfl (fun K hK => ?_)
      go_simp
      exact hK _ _ ⟨_, rfl, (fun h => by cases h), (by first | rfl | (exact congrArg (Value.int .i64) (by first | rfl | (rw [IntWalk.i64_left, IntWalk.wrap64_in _ (by omega)]) | omega)) | (simp; done) | (simp; omega) | (simp; rw [Int.tmod_eq_emod_of_nonneg (by omega)]; omega)), But.refl _ _, trivial⟩
    · cases ho
      intro fu act u hW hB hsz hL hdep
      replace hB := hB [] (fun j hj hd k hk => by
        cases hk)
      have e3 : act.tmps.getD 40 undef = (.bool true : Value) := hdep { on := 3, ground := .guard } (by simp) rfl _ rfl
      have e3' := get_some e3 (by simp [undef])
      have e4 : act.tmps.getD 41 undef = (.pointer (some ⟨N_x + 1, 1, none⟩) : Value) := hdep { on := 4, ground := .data } (by simp) rfl _ rfl
      clear hdep hL
      have c27 : u.cell? ⟨N_x + 1, 1, none⟩ = some (.int .i64 (-1)) := (B_ex.out.but hB (by first | (simp; done) | (simp; omega))).cel 1 (by simp)
      refine wpOp_step rfl (fun K hK => ?_)
      go_simp
      exact hK _ _ ⟨_, rfl, (fun h => by cases h), (by first | rfl | (exact congrArg (Value.int .i64) (by first | rfl | (rw [IntWalk.i64_left, IntWalk.wrap64_in _ (by omega)]) | omega)) | (simp; done) | (simp; omega) | (simp; rw [Int.tmod_eq_emod_of_nonneg (by omega)]; omega)), But.refl _ _, trivial⟩
    · cases ho
      intro fu act u hW hB hsz hL hdep
      replace hB := hB [] (fun j hj hd k hk => by
        cases hk)
      have e3 : act.tmps.getD 40 undef = (.bool true : Value) := hdep { on := 3, ground := .guard } (by simp) rfl _ rfl
      have e3' := get_some e3 (by simp [undef])
      have e5 : act.tmps.getD 42 undef = (.int .i64 (-1) : Value) := hdep { on := 5, ground := .data } (by simp) rfl _ rfl
      clear hdep hL
      refine wpOp_step rfl (fun K hK => ?_)
      go_simp
      exact hK _ _ ⟨_, rfl, (fun h => by cases h), (by first | rfl | (exact congrArg (Value.int .i64) (by first | rfl | (rw [IntWalk.i64_left, IntWalk.wrap64_in _ (by omega)]) | omega)) | (simp; done) | (simp; omega) | (simp; rw [Int.tmod_eq_emod_of_nonneg (by omega)]; omega)), But.refl _ _, trivial⟩
    · cases ho
      intro fu act u hW hB hsz hL hdep
      replace hB := hB [] (fun j hj hd k hk => by
        cases hk)
      have e3 : act.tmps.getD 40 undef = (.bool true : Value) := hdep { on := 3, ground := .data } (by simp) rfl _ rfl
      have e6 : act.tmps.getD 43 undef = (.bool true : Value) := hdep { on := 6, ground := .data } (by simp) rfl _ rfl
      clear hdep hL
      refine wpOp_step rfl (fun K hK => ?_)
      go_simp
      exact hK _ _ ⟨_, rfl, (fun h => by cases h), (by first | rfl | (exact congrArg (Value.int .i64) (by first | rfl | (rw [IntWalk.i64_left, IntWalk.wrap64_in _ (by omega)]) | omega)) | (simp; done) | (simp; omega) | (simp; rw [Int.tmod_eq_emod_of_nonneg (by omega)]; omega)), But.refl _ _, trivial⟩
    · cases ho
      intro fu act u hW hB hsz hL hdep
      replace hB := hB [] (fun j hj hd k hk => by
        cases hk)
      have e7 : act.tmps.getD 44 undef = (.bool true : Value) := hdep { on := 7, ground := .data } (by simp) rfl _ rfl
      clear hdep hL
      refine wpOp_step rfl (fun K hK => ?_)
      go_simp
      exact hK _ _ ⟨_, rfl, (fun h => by cases h), (by first | rfl | (exact congrArg (Value.int .i64) (by first | rfl | (rw [IntWalk.i64_left, IntWalk.wrap64_in _ (by omega)]) | omega)) | (simp; done) | (simp; omega) | (simp; rw [Int.tmod_eq_emod_of_nonneg (by omega)]; omega)), But.refl _ _, trivial⟩
    · cases ho
      intro fu act u hW hB hsz hL hdep
      replace hB := hB [] (fun j hj hd k hk => by
        cases hk)
      have e8 : act.tmps.getD 45 undef = (.bool true : Value) := hdep { on := 8, ground := .guard } (by simp) rfl _ rfl
      have e8' := get_some e8 (by simp [undef])
      have x6 : act.tmps.getD 6 undef = (.pointer (some ⟨N_x, 0, none⟩) : Value) := (hL.2.2 6 (no_dst (by kernel_rfl))).trans rfl
      clear hdep hL
      refine wpOp_step rfl (fun K hK => ?_)
      go_simp
      exact hK _ _ ⟨_, rfl, (fun h => by cases h), (by first | rfl | (exact congrArg (Value.int .i64) (by first | rfl | (rw [IntWalk.i64_left, IntWalk.wrap64_in _ (by omega)]) | omega)) | (simp; done) | (simp; omega) | (simp; rw [Int.tmod_eq_emod_of_nonneg (by omega)]; omega)), But.refl _ _, trivial⟩
    · cases ho
      intro fu act u hW hB hsz hL hdep
      replace hB := hB [] (fun j hj hd k hk => by
        cases hk)
      have e8 : act.tmps.getD 45 undef = (.bool true : Value) := hdep { on := 8, ground := .guard } (by simp) rfl _ rfl
      have e8' := get_some e8 (by simp [undef])
      have e9 : act.tmps.getD 46 undef = (.pointer (some ⟨N_x, 0, none⟩) : Value) := hdep { on := 9, ground := .data } (by simp) rfl _ rfl
      clear hdep hL
      have c28 : u.cell? ⟨N_x, 0, none⟩ = some (.int .i64 8) := (B_sx.out.but hB (by first | (simp; done) | (simp; omega))).cel 0 (by simp)
      refine wpOp_step rfl (fun K hK => ?_)
      go_simp
      exact hK _ _ ⟨_, rfl, (fun h => by cases h), (by first | rfl | (exact congrArg (Value.int .i64) (by first | rfl | (rw [IntWalk.i64_left, IntWalk.wrap64_in _ (by omega)]) | omega)) | (simp; done) | (simp; omega) | (simp; rw [Int.tmod_eq_emod_of_nonneg (by omega)]; omega)), But.refl _ _, trivial⟩
    · cases ho
      intro fu act u hW hB hsz hL hdep
      replace hB := hB [] (fun j hj hd k hk => by
        cases hk)
      have e8 : act.tmps.getD 45 undef = (.bool true : Value) := hdep { on := 8, ground := .guard } (by simp) rfl _ rfl
      have e8' := get_some e8 (by simp [undef])
      have e10 : act.tmps.getD 47 undef = (.int .i64 8 : Value) := hdep { on := 10, ground := .data } (by simp) rfl _ rfl
      clear hdep hL
      refine wpOp_step rfl (fun K hK => ?_)
      go_simp
      exact hK _ _ ⟨_, rfl, (fun h => by cases h), (by first | rfl | (exact congrArg (Value.int .i64) (by first | rfl | (rw [IntWalk.i64_left, IntWalk.wrap64_in _ (by omega)]) | omega)) | (simp; done) | (simp; omega) | (simp; rw [Int.tmod_eq_emod_of_nonneg (by omega)]; omega)), But.refl _ _, trivial⟩
    · cases ho
      intro fu act u hW hB hsz hL hdep
      replace hB := hB [] (fun j hj hd k hk => by
        cases hk)
      have e8 : act.tmps.getD 45 undef = (.bool true : Value) := hdep { on := 8, ground := .data } (by simp) rfl _ rfl
      have e11 : act.tmps.getD 48 undef = (.bool true : Value) := hdep { on := 11, ground := .data } (by simp) rfl _ rfl
      clear hdep hL
      refine wpOp_step rfl (fun K hK => ?_)
      go_simp
      exact hK _ _ ⟨_, rfl, (fun h => by cases h), (by first | rfl | (exact congrArg (Value.int .i64) (by first | rfl | (rw [IntWalk.i64_left, IntWalk.wrap64_in _ (by omega)]) | omega)) | (simp; done) | (simp; omega) | (simp; rw [Int.tmod_eq_emod_of_nonneg (by omega)]; omega)), But.refl _ _, trivial⟩
    · cases ho
      intro fu act u hW hB hsz hL hdep
      replace hB := hB [] (fun j hj hd k hk => by
        cases hk)
      have e12 : act.tmps.getD 49 undef = (.bool true : Value) := hdep { on := 12, ground := .data } (by simp) rfl _ rfl
      clear hdep hL
      refine wpOp_step rfl (fun K hK => ?_)
      go_simp
      exact hK _ _ ⟨_, rfl, (fun h => by cases h), (by first | rfl | (exact congrArg (Value.int .i64) (by first | rfl | (rw [IntWalk.i64_left, IntWalk.wrap64_in _ (by omega)]) | omega)) | (simp; done) | (simp; omega) | (simp; rw [Int.tmod_eq_emod_of_nonneg (by omega)]; omega)), But.refl _ _, trivial⟩
    · cases ho
      intro fu act u hW hB hsz hL hdep
      replace hB := hB [] (fun j hj hd k hk => by
        cases hk)
      have e13 : act.tmps.getD 50 undef = (.bool true : Value) := hdep { on := 13, ground := .guard } (by simp) rfl _ rfl
      have e13' := get_some e13 (by simp [undef])
      have x6 : act.tmps.getD 6 undef = (.pointer (some ⟨N_x, 0, none⟩) : Value) := (hL.2.2 6 (no_dst (by kernel_rfl))).trans rfl
      clear hdep hL
      refine wpOp_step rfl (fun K hK => ?_)
      go_simp
      exact hK _ _ ⟨_, rfl, (fun h => by cases h), (by first | rfl | (exact congrArg (Value.int .i64) (by first | rfl | (rw [IntWalk.i64_left, IntWalk.wrap64_in _ (by omega)]) | omega)) | (simp; done) | (simp; omega) | (simp; rw [Int.tmod_eq_emod_of_nonneg (by omega)]; omega)), But.refl _ _, trivial⟩
    · cases ho
      intro fu act u hW hB hsz hL hdep
      replace hB := hB [] (fun j hj hd k hk => by
        cases hk)
      have e13 : act.tmps.getD 50 undef = (.bool true : Value) := hdep { on := 13, ground := .guard } (by simp) rfl _ rfl
      have e13' := get_some e13 (by simp [undef])
      have e14 : act.tmps.getD 51 undef = (.pointer (some ⟨N_x, 2, none⟩) : Value) := hdep { on := 14, ground := .data } (by simp) rfl _ rfl
      clear hdep hL
      have c29 : u.cell? ⟨N_x, 2, none⟩ = some (.slice (some ⟨x2, 0, none⟩) 5 xc) := (B_sx.out.but hB (by first | (simp; done) | (simp; omega))).cel 2 (by simp)
      refine wpOp_step rfl (fun K hK => ?_)
      go_simp
      exact hK _ _ ⟨_, rfl, (fun h => by cases h), (by first | rfl | (exact congrArg (Value.int .i64) (by first | rfl | (rw [IntWalk.i64_left, IntWalk.wrap64_in _ (by omega)]) | omega)) | (simp; done) | (simp; omega) | (simp; rw [Int.tmod_eq_emod_of_nonneg (by omega)]; omega)), But.refl _ _, trivial⟩
    · cases ho
      intro fu act u hW hB hsz hL hdep
      replace hB := hB [] (fun j hj hd k hk => by
        cases hk)
      have e13 : act.tmps.getD 50 undef = (.bool true : Value) := hdep { on := 13, ground := .guard } (by simp) rfl _ rfl
      have e13' := get_some e13 (by simp [undef])
      have e15 : act.tmps.getD 52 undef = (.slice (some ⟨x2, 0, none⟩) 5 xc : Value) := hdep { on := 15, ground := .data } (by simp) rfl _ rfl
      clear hdep hL
      refine wpOp_step rfl (fun K hK => ?_)
      go_simp
      exact hK _ _ ⟨_, rfl, (fun h => by cases h), (by first | rfl | (exact congrArg (Value.int .i64) (by first | rfl | (rw [IntWalk.i64_left, IntWalk.wrap64_in _ (by omega)]) | omega)) | (simp; done) | (simp; omega) | (simp; rw [Int.tmod_eq_emod_of_nonneg (by omega)]; omega)), But.refl _ _, trivial⟩
    · cases ho
      intro fu act u hW hB hsz hL hdep
      replace hB := hB [] (fun j hj hd k hk => by
        cases hk)
      have e13 : act.tmps.getD 50 undef = (.bool true : Value) := hdep { on := 13, ground := .guard } (by simp) rfl _ rfl
      have e13' := get_some e13 (by simp [undef])
      have e16 : act.tmps.getD 53 undef = (.pointer (some ⟨x2, 0, none⟩) : Value) := hdep { on := 16, ground := .data } (by simp) rfl _ rfl
      clear hdep hL
      have r30 : u.cell? ⟨x2, 0, none⟩ = some (.int .i64 p) := ((O_x.out.but hB (by first | (simp; done) | (simp; omega)) (by first | (simp; done) | (simp; omega)) (by first | (simp; done) | (simp; omega))).C.cel 0 (by rw [L_x.out.Cl]; omega)).trans (congrArg (fun x => some (Value.int .i64 x)) (HC0.out))
      refine wpOp_step rfl (fun K hK => ?_)
      go_simp
      exact hK _ _ ⟨_, rfl, (fun h => by cases h), (by first | rfl | (exact congrArg (Value.int .i64) (by first | rfl | (rw [IntWalk.i64_left, IntWalk.wrap64_in _ (by omega)]) | omega)) | (simp; done) | (simp; omega) | (simp; rw [Int.tmod_eq_emod_of_nonneg (by omega)]; omega)), But.refl _ _, trivial⟩
    · cases ho
      intro fu act u hW hB hsz hL hdep
      replace hB := hB [] (fun j hj hd k hk => by
        cases hk)
      have e13 : act.tmps.getD 50 undef = (.bool true : Value) := hdep { on := 13, ground := .guard } (by simp) rfl _ rfl
      have e13' := get_some e13 (by simp [undef])
      have x5 : act.tmps.getD 5 undef = (.pointer (some ⟨N_s, 0, none⟩) : Value) := (hL.2.2 5 (no_dst (by kernel_rfl))).trans rfl
      clear hdep hL
      refine wpOp_step rfl (fun K hK => ?_)
      go_simp
      exact hK _ _ ⟨_, rfl, (fun h => by cases h), (by first | rfl | (exact congrArg (Value.int .i64) (by first | rfl | (rw [IntWalk.i64_left, IntWalk.wrap64_in _ (by omega)]) | omega)) | (simp; done) | (simp; omega) | (simp; rw [Int.tmod_eq_emod_of_nonneg (by omega)]; omega)), But.refl _ _, trivial⟩
    · cases ho
      intro fu act u hW hB hsz hL hdep
      replace hB := hB [] (fun j hj hd k hk => by
        cases hk)
      have e13 : act.tmps.getD 50 undef = (.bool true : Value) := hdep { on := 13, ground := .guard } (by simp) rfl _ rfl
      have e13' := get_some e13 (by simp [undef])
      have e18 : act.tmps.getD 55 undef = (.pointer (some ⟨N_s, 0, none⟩) : Value) := hdep { on := 18, ground := .data } (by simp) rfl _ rfl
      clear hdep hL
      have c31 : u.cell? ⟨N_s, 0, none⟩ = some (.int .i64 p) := (B_ss.out.but hB (by first | (simp; done) | (simp; omega))).cel 0 (by simp)
      refine wpOp_step rfl (fun K hK => ?_)
      go_simp
      exact hK _ _ ⟨_, rfl, (fun h => by cases h), (by first | rfl | (exact congrArg (Value.int .i64) (by first | rfl | (rw [IntWalk.i64_left, IntWalk.wrap64_in _ (by omega)]) | omega)) | (simp; done) | (simp; omega) | (simp; rw [Int.tmod_eq_emod_of_nonneg (by omega)]; omega)), But.refl _ _, trivial⟩
    · cases ho
      intro fu act u hW hB hsz hL hdep
      replace hB := hB [] (fun j hj hd k hk => by
        cases hk)
      have e13 : act.tmps.getD 50 undef = (.bool true : Value) := hdep { on := 13, ground := .guard } (by simp) rfl _ rfl
      have e13' := get_some e13 (by simp [undef])
      have e17 : act.tmps.getD 54 undef = (.int .i64 p : Value) := hdep { on := 17, ground := .data } (by simp) rfl _ rfl
      have e19 : act.tmps.getD 56 undef = (.int .i64 p : Value) := hdep { on := 19, ground := .data } (by simp) rfl _ rfl
      clear hdep hL
      refine wpOp_step rfl (fun K hK => ?_)
      go_simp
      exact hK _ _ ⟨_, rfl, (fun h => by cases h), (by first | rfl | (exact congrArg (Value.int .i64) (by first | rfl | (rw [IntWalk.i64_left, IntWalk.wrap64_in _ (by omega)]) | omega)) | (simp; done) | (simp; omega) | (simp; rw [Int.tmod_eq_emod_of_nonneg (by omega)]; omega)), But.refl _ _, trivial⟩
    · cases ho
      intro fu act u hW hB hsz hL hdep
      replace hB := hB [] (fun j hj hd k hk => by
        cases hk)
      have e13 : act.tmps.getD 50 undef = (.bool true : Value) := hdep { on := 13, ground := .data } (by simp) rfl _ rfl
      have e20 : act.tmps.getD 57 undef = (.bool true : Value) := hdep { on := 20, ground := .data } (by simp) rfl _ rfl
      clear hdep hL
      refine wpOp_step rfl (fun K hK => ?_)
      go_simp
      exact hK _ _ ⟨_, rfl, (fun h => by cases h), (by first | rfl | (exact congrArg (Value.int .i64) (by first | rfl | (rw [IntWalk.i64_left, IntWalk.wrap64_in _ (by omega)]) | omega)) | (simp; done) | (simp; omega) | (simp; rw [Int.tmod_eq_emod_of_nonneg (by omega)]; omega)), But.refl _ _, trivial⟩
    · cases ho
      intro fu act u hW hB hsz hL hdep
      replace hB := hB [] (fun j hj hd k hk => by
        cases hk)
      have e21 : act.tmps.getD 58 undef = (.bool true : Value) := hdep { on := 21, ground := .data } (by simp) rfl _ rfl
      clear hdep hL
      refine wpOp_step rfl (fun K hK => ?_)
      go_simp
      exact hK _ _ ⟨_, rfl, (fun h => by cases h), (by first | rfl | (exact congrArg (Value.int .i64) (by first | rfl | (rw [IntWalk.i64_left, IntWalk.wrap64_in _ (by omega)]) | omega)) | (simp; done) | (simp; omega) | (simp; rw [Int.tmod_eq_emod_of_nonneg (by omega)]; omega)), But.refl _ _, trivial⟩
    · cases ho
      intro fu act u hW hB hsz hL hdep
      replace hB := hB [] (fun j hj hd k hk => by
        cases hk)
      have e22 : act.tmps.getD 59 undef = (.bool true : Value) := hdep { on := 22, ground := .guard } (by simp) rfl _ rfl
      have e22' := get_some e22 (by simp [undef])
      have x9 : act.tmps.getD 9 undef = (.pointer (some ⟨N_y + 1, 0, none⟩) : Value) := (hL.2.2 9 (no_dst (by kernel_rfl))).trans rfl
      clear hdep hL
      refine wpOp_step rfl (fun K hK => ?_)
      go_simp
      exact hK _ _ ⟨_, rfl, (fun h => by cases h), (by first | rfl | (exact congrArg (Value.int .i64) (by first | rfl | (rw [IntWalk.i64_left, IntWalk.wrap64_in _ (by omega)]) | omega)) | (simp; done) | (simp; omega) | (simp; rw [Int.tmod_eq_emod_of_nonneg (by omega)]; omega)), But.refl _ _, trivial⟩
    · cases ho
      intro fu act u hW hB hsz hL hdep
      replace hB := hB [] (fun j hj hd k hk => by
        cases hk)
      have e22 : act.tmps.getD 59 undef = (.bool true : Value) := hdep { on := 22, ground := .guard } (by simp) rfl _ rfl
      have e22' := get_some e22 (by simp [undef])
      have e23 : act.tmps.getD 60 undef = (.pointer (some ⟨N_y + 1, 0, none⟩) : Value) := hdep { on := 23, ground := .data } (by simp) rfl _ rfl
      clear hdep hL
      have c32 : u.cell? ⟨N_y + 1, 0, none⟩ = some (.int .i64 6) := (B_sy.out.but hB (by first | (simp; done) | (simp; omega))).cel 0 (by simp)
      refine wpOp_step rfl (fun K hK => ?_)
      go_simp
      exact hK _ _ ⟨_, rfl, (fun h => by cases h), (by first | rfl | (exact congrArg (Value.int .i64) (by first | rfl | (rw [IntWalk.i64_left, IntWalk.wrap64_in _ (by omega)]) | omega)) | (simp; done) | (simp; omega) | (simp; rw [Int.tmod_eq_emod_of_nonneg (by omega)]; omega)), But.refl _ _, trivial⟩
    · cases ho
      intro fu act u hW hB hsz hL hdep
      replace hB := hB [] (fun j hj hd k hk => by
        cases hk)
      have e22 : act.tmps.getD 59 undef = (.bool true : Value) := hdep { on := 22, ground := .guard } (by simp) rfl _ rfl
      have e22' := get_some e22 (by simp [undef])
      have e24 : act.tmps.getD 61 undef = (.int .i64 6 : Value) := hdep { on := 24, ground := .data } (by simp) rfl _ rfl
      clear hdep hL
      refine wpOp_step rfl (fun K hK => ?_)
      go_simp
      exact hK _ _ ⟨_, rfl, (fun h => by cases h), (by first | rfl | (exact congrArg (Value.int .i64) (by first | rfl | (rw [IntWalk.i64_left, IntWalk.wrap64_in _ (by omega)]) | omega)) | (simp; done) | (simp; omega) | (simp; rw [Int.tmod_eq_emod_of_nonneg (by omega)]; omega)), But.refl _ _, trivial⟩
    · cases ho
      intro fu act u hW hB hsz hL hdep
      replace hB := hB [] (fun j hj hd k hk => by
        cases hk)
      have e22 : act.tmps.getD 59 undef = (.bool true : Value) := hdep { on := 22, ground := .data } (by simp) rfl _ rfl
      have e25 : act.tmps.getD 62 undef = (.bool true : Value) := hdep { on := 25, ground := .data } (by simp) rfl _ rfl
      clear hdep hL
      refine wpOp_step rfl (fun K hK => ?_)
      go_simp
      exact hK _ _ ⟨_, rfl, (fun h => by cases h), (by first | rfl | (exact congrArg (Value.int .i64) (by first | rfl | (rw [IntWalk.i64_left, IntWalk.wrap64_in _ (by omega)]) | omega)) | (simp; done) | (simp; omega) | (simp; rw [Int.tmod_eq_emod_of_nonneg (by omega)]; omega)), But.refl _ _, trivial⟩
    · cases ho
      intro fu act u hW hB hsz hL hdep
      replace hB := hB [] (fun j hj hd k hk => by
        cases hk)
      have e26 : act.tmps.getD 63 undef = (.bool true : Value) := hdep { on := 26, ground := .data } (by simp) rfl _ rfl
      clear hdep hL
      refine wpOp_step rfl (fun K hK => ?_)
      go_simp
      exact hK _ _ ⟨_, rfl, (fun h => by cases h), (by first | rfl | (exact congrArg (Value.int .i64) (by first | rfl | (rw [IntWalk.i64_left, IntWalk.wrap64_in _ (by omega)]) | omega)) | (simp; done) | (simp; omega) | (simp; rw [Int.tmod_eq_emod_of_nonneg (by omega)]; omega)), But.refl _ _, trivial⟩
    · exact absurd ho (by simp)
  case fin =>
    intro act u hW hsz hB hL hsf
    replace hB := hB [] (fun j k hk => by
      cases hk)
    have d27 := hsf 27 _ rfl
    obtain ⟨ysl, ha, hy⟩ := hL.puts [37, 38, 39, 40, 41, 42, 43, 44, 45, 46, 47, 48, 49, 50, 51, 52, 53, 54, 55, 56, 57, 58, 59, 60, 61, 62, 63, 2] (by kernel_rfl)
    have e27 : ysl 2 = _ := (hy 2).symm.trans d27
    clear hL hsf hy d27
    simp only [List.foldl, List.setIfInBounds_toArray, List.set_cons_succ, List.set_cons_zero, e27] at ha
    subst ha
    clear e27
    have fB : Fr u25 u := (fr_but (L := []) (Below.refl u25.heap.size u25) hB (fun k hk => by cases hk))
    go_wp2
    go_ret
    exact ⟨rfl, Fr.trans HF.out fB⟩

set_option maxRecDepth 100000 in
theorem lifted (os : Os) (started : os.Started) (H : Type) (enc : TypeId × Value → H) :
    ReturnsInHanded {} Tryd.checked os 17 .any (fun w args => (Rows.fnDoFarSpec.pre enc Tryd.prog Tryd.f17 [] false w args ∧ laidMetH Tryd.prog laidAll w) ∧ sizedMet enc Tryd.prog Tryd.f17 (OpenSpec.ofChange Rows.fnDoFarSpec) false w args)
      (Rows.fnDoFarSpec.post enc Tryd.prog Tryd.f17 false true false false) := by
  refine returnsInHanded_of_change_and (C := Tryd.checked) (X := fun w _ => laidMetH Tryd.prog laidAll w) (fun _ _ _ hh h => h.of_heap hh) own started (by kernel_rfl) Tryd.func17
    (ChangeSpec.witness_shaped (enc := enc) (C := Tryd.checked) (os := os) (X := fun w _ => laidMetH Tryd.prog laidAll w) false (World.doorLaid Tryd.prog 400 os) #[.slice none 0 0] 8 rfl (World.shaped_of_RefB (by kernel_rfl) (by kernel_rfl)) (by kernel_rfl) (by kernel_rfl) (by kernel_rfl) (door_met os _)) ?_
  intro W base args ds gs before hval0 hW _ _ hL _
  have hval : ∀ (j : Nat) t v, Tryd.f17.params[j]? = some t → args[j]? = some v → Value.okWide Tryd.prog W .any base t v := hval0
  have hW' := hW
  obtain ⟨p, q, hA0, hV0, rfl, hfz, hnd⟩ := hW
  have hA : DataW.TrodAll enc Tryd.prog W 0 (fun _ => true) true Tryd.f17.params.toList args.toList ds p := hA0
  have hV : DataW.TrodVars enc Tryd.prog W (fun _ => true) laidNames gs q := hV0
  rw [Tryd.params17] at hA hval
  obtain ⟨v0, vs0, d0, ds0, p0, q0, hargs, rfl, rfl, h0, r0⟩ := trodAll_cons hA
  obtain ⟨rfl, rfl, rfl⟩ := trodAll_nil r0
  obtain rfl : args = #[v0] := by cases args; simp_all
  have hV1 := hV
  obtain ⟨g0, t0, cs0, f0, e0, s0, g1, t1, cs1, f1, e1, s1, rfl, _⟩ := trodVars_two hV1
  obtain ⟨a0, len0, cap0, rfl⟩ := okWide_slice Tryd.underlying42 (hval 0 42 v0 rfl rfl)
  have k0 := h0
  have lt0 : ∀ x ∈ p0, x.block < W.heap.size := by obtain ⟨m, hm⟩ := k0; exact DataW.trod_lt m _ _ _ hm
  obtain ⟨z0, w0⟩ : ∃ zs, IsRow .u8 W a0 len0 cap0 zs := by
    obtain ⟨fuel, hf⟩ := h0
    rcases open_ints Tryd.underlying42 Tryd.underlying5 (by kernel_rfl) hf with ⟨hcs, _⟩ | ⟨x, l, c, zs, hcs, _, hl, hm, hz, _, hcell, hwz⟩
    · simp [Value.cells] at hcs
      obtain ⟨rfl, rfl, rfl⟩ := hcs
      exact ⟨[], .inl ⟨rfl, rfl, rfl, rfl⟩⟩
    · simp [Value.cells] at hcs
      obtain ⟨rfl, rfl, rfl⟩ := hcs
      exact ⟨zs, .inr ⟨_, rfl, hl, hm, by simpa using hz, hcell, hwz⟩⟩
  clear hA0 hval0 hV1
  refine (walk a0 len0 cap0 z0 W (tabs_of_laid hL) w0).mono fun e W' ⟨he, bel⟩ => ?_
  subst he
  exact ⟨_, rfl, _, _, _, [], _, _, hW', trodAll_mk1 (shut_bool Tryd.underlying4 _), (trodAll_cons_mk (Below.trod laidOut (by kernel_rfl) (of_decide_eq_true (by kernel_rfl)) k0 bel lt0) trodAll_mk0), bel.trodVars laidOut (by kernel_rfl) hV, bel.frame _, fun h => by cases h⟩

theorem over : Rows.fnDoFarRow.holds Tryd.pinned (OpenSpec.ofChange Rows.fnDoFarSpec) :=
  OpenClaim.holds_of_wide 17 Tryd.f17 rfl rfl rfl rfl rfl rfl rfl ⟨rfl, rfl, rfl, rfl, rfl⟩ rfl rfl rfl rfl rfl (by kernel_rfl) Tryd.func17 (by kernel_rfl)
    (of_decide_eq_true (by kernel_rfl)) (by unfold Func.isWrapper; first | (rw [if_pos (by decide +kernel)]; kernel_rfl) | (rw [if_neg (by decide +kernel)]; exact ⟨rfl, rfl⟩))
    (fun os started H enc _ => lifted os started H enc)

/-- THE STATEMENT: the tied card. -/
theorem proved : Rows.FnDoFarCardSaid :=
  Claim7.holds_tied_plain_at .later [] [.wider, .data] true (true, "9dc2e115a97561e3249269897313e148c9c7960c406c87ea32a23191d0e08754") true
    over (fun _ h => by cases h) (by kernel_rfl) (fun _ h => by cases h) fnDoFar_row_tie rfl ⟨rfl, rfl⟩ (by kernel_rfl) rfl
    (fun f fn hf hfn => by
      obtain rfl : f = 17 := Option.some.inj ((show Tryd.prog.funcNamed "loop.example/harbinger/laws.FnDoFar" = some 17 by kernel_rfl).symm.trans hf) |>.symm
      obtain rfl : fn = Tryd.f17 := (Option.some.inj (Tryd.func17.symm.trans hfn)).symm
      exact ⟨by kernel_rfl, fun j t ht => by
        rw [Tryd.params17] at ht
        have hm : t ∈ [42] := by simpa using Array.mem_of_getElem? ht
        have hall : ([42].all fun u => !Tryd.prog.wantsStandIn u) = true := by kernel_rfl
        exact (show Tryd.prog.wantsStandIn t = false by simpa using List.all_eq_true.1 hall t hm)⟩)
    (by kernel_rfl)
#print axioms proved
end Go.Proofs.YtbjapncfgancoaaDoor.fnDoFar
