/- For every code (any bytes), law FnDoAlu returns true and its argument reads as before (no condition; the two tables read as the program's text lays them, which the card ties). -/
import Derived.Test.YtbjapncfgancoaaDoorCards
import Derived.Test.YtbjapncfgancoaaDoorTie
import Derived.Test.YtbjapncfgancoaaDoorLaid
import Derived.Test.YtbjapncfgancoaaDoorPe2
import Derived.Test.YtbjapncfgancoaaDoorWords
import Derived.WalkKit
import Derived.ProofKit
import Derived.OpenShut
import Derived.ShutString
import Derived.SliceStrings
import Derived.ChangeOld
import Derived.Below
import Derived.SevenTiedAt
namespace Go.Proofs.YtbjapncfgancoaaDoor.fnDoAlu
open Go.ChangeShapes Go.WideShapes Go.ChangeAt Go.RowKit
set_option linter.unusedVariables false

def IsRow (k : IntKind) (w : World) (a : Option Addr) (len cap : Nat) (zs : List Int) : Prop :=
  (a = none ∧ len = 0 ∧ cap = 0 ∧ zs = []) ∨
  ∃ x, a = some x ∧ len ≤ cap ∧ cap ≤ maxLen ∧ zs.length = cap ∧ (∀ i, i < zs.length → w.cell? (x.add i) = some (.int k (zs.getD i 0))) ∧ ∀ n ∈ zs, (Lit.int k n).wf = true

set_option maxRecDepth 100000 in
set_option maxHeartbeats 8000000 in
theorem walk (a0 : Option Addr) (len0 cap0 : Nat) (z0 : List Int) (w : World) (ht : Tabs w) (w0 : IsRow .u8 w a0 len0 cap0 z0) :
    Calls Tryd.prog 5 #[.slice a0 len0 cap0] w fun e w' => e = .returned (.bool true) ∧ Below w.heap.size w w' := by
  have hc : Code1 w.heap.size w a0 len0 cap0 := by
    rcases w0 with ⟨rfl, rfl, rfl, rfl⟩ | ⟨x, rfl, hl, hm, hz, hcell, hwz⟩
    · exact ⟨Nat.le_refl _, Nat.le_refl _, Nat.zero_le _, .inl rfl, fun _ => rfl⟩
    · exact ⟨Nat.le_refl _, hl, hm, bytes_of_row hl hz hcell hwz, by simp⟩
  clear w0
  by_cases hlen : (1048576 : Int) < (len0 : Int)
  · go_enter Tryd.func5, Tryd.ntmps5
    go_wp2
    go_ret
    exact ⟨rfl, Below.refl _ _⟩
  have HT := Lib.hid ht
  have hl : len0 ≤ 1048576 := by omega
  clear ht
  go_enter Tryd.func5, Tryd.ntmps5
  go_wp2_with fail
  refine (laws_haWords w.heap.size a0 len0 cap0 w hc hl).mono ?_
  rintro e w' ⟨a, b, ha, hb, rfl, rfl⟩
  obtain ⟨a0', a1'⟩ := okB_true ha
  obtain ⟨b0', b1'⟩ := okB_true hb
  clear hc hl
  go_wp2_with fail
  go_loopw [5, 6, 7, 8] (fun fv _ _ _ wr => ∃ f : Int, 0 ≤ f ∧ f ≤ 8 ∧ fv = .int .i64 f ∧ Fr w wr) (fun fv _ _ _ _ => 8 - (intOf fv).toNat)
  case atStart => exact ⟨0, by omega, by omega, rfl, Below.refl _ _⟩
  case round =>
    obtain ⟨f, f0, f8, rfl, hFr⟩ := hrel
    by_cases hf : f < 8
    · obtain ⟨v, hv⟩ : ∃ x, aluD f a b = x := ⟨_, rfl⟩
      have HV := Lib.hid hv
      have hi1 : iok 0 3 1 2 f 0 = true := by simp [iok, okAt, layN, layL, eL, eG, encL]; omega
      have hst1 := hS_step (pc := 40) a b hi1 (by omega) (by omega)
      rw [eff_0] at hst1
      have HST1 := Lib.hid hst1
      have HI1 := Lib.hid hi1
      have HFR := Lib.hid hFr
      have HTR := Lib.hid (HT.out.fr hFr)
      clear hst1 hi1 hv hFr
      go_wp2_with fail
      refine (laws_haRun 0 3 1 2 f 0 40 a b HI1.out (by omega) (by omega) ha hb wr HTR.out).mono ?_
      rintro e u2 hq
      unfold RunQ at hq
      rw [HST1.out] at hq
      obtain ⟨wd, hwd⟩ : ∃ x, worD 0 3 1 2 f 0 = x := ⟨_, rfl⟩
      have HWB1 := Lib.hid (worD_bd HI1.out)
      rw [hwd] at hq HWB1
      clear hwd HST1
      have hrv : aluD f (rg (hS 40 wd a b) 1) (rg (hS 40 wd a b) 2) = v := by rw [← HV.out]; rfl
      rw [hrv] at hq
      simp only [put, putR, putE, Out.fin, hE] at hq
      rw [if_neg (by decide), if_neg (by decide)] at hq
      obtain ⟨g1, g2, g3, gr, gc, gm, x1, x2, x3, xr, xc, xm, X0, he, ho, hx, hb9, f2⟩ := hq
      have he2 : e = .returned (.tuple #[.agg #[.int .i64 40, .slice (some ⟨g1, 0, none⟩) 8 gr, .slice (some ⟨g2, 0, none⟩) 5 gc, .slice (some ⟨g3, 0, none⟩) 256 gm], .agg #[.int .i64 41, .slice (some ⟨x1, 0, none⟩) 8 xr, .slice (some ⟨x2, 0, none⟩) 5 xc, .slice (some ⟨x3, 0, none⟩) 256 xm], .agg #[.int .i64 40, .int .i64 wd, .int .i64 0, .int .i64 3, .int .i64 v, .int .i64 (-1), .int .i64 0]]) := he
      subst he2
      clear he hrv
      have HK := Lib.hid (hS_ok (pc := 40) (wd := wd) (by omega) (by omega) (okB_mk HWB1.out.1 HWB1.out.2) ha hb)
      have HL1 := Lib.hid (show (hR a b).length = 8 from HK.out.Rl)
      have HL2 := Lib.hid (show (zeros 5).length = 5 from HK.out.Cl)
      have HL3 := Lib.hid (show (hM 40 wd).length = 256 from HK.out.Ml)
      have m1 := ho.R.lt
      have m2 := ho.C.lt
      have m3 := ho.M.lt
      have m4 := hx.R.lt
      have m5 := hx.C.lt
      have m6 := hx.M.lt
      have G1 : Fr u2 (((u2.alloc (.cells #[.int .i64 40, .slice (some ⟨g1, 0, none⟩) 8 gr, .slice (some ⟨g2, 0, none⟩) 5 gc, .slice (some ⟨g3, 0, none⟩) 256 gm] 26)).alloc (.cells #[.int .i64 41, .slice (some ⟨x1, 0, none⟩) 8 xr, .slice (some ⟨x2, 0, none⟩) 5 xc, .slice (some ⟨x3, 0, none⟩) 256 xm] 26)).alloc (.cells #[.int .i64 40, .int .i64 wd, .int .i64 0, .int .i64 3, .int .i64 v, .int .i64 (-1), .int .i64 0] 28)) := by
        (repeat' first | (with_reducible exact Below.refl _ _) | (with_reducible assumption) | ((with_reducible refine Below.setCell ?_ ?hb _); (case hb => first | exact Nat.le_refl _ | (simp; done) | (simp; omega) | omega)) | ((with_reducible refine Below.alloc ?_ ?hb _); (case hb => first | exact Nat.le_refl _ | (simp; done) | (simp; omega) | omega)) | (with_reducible refine Below.drew ?_))
      have HOG1 := Lib.hid (show Own (((u2.alloc (.cells #[.int .i64 40, .slice (some ⟨g1, 0, none⟩) 8 gr, .slice (some ⟨g2, 0, none⟩) 5 gc, .slice (some ⟨g3, 0, none⟩) 256 gm] 26)).alloc (.cells #[.int .i64 41, .slice (some ⟨x1, 0, none⟩) 8 xr, .slice (some ⟨x2, 0, none⟩) 5 xc, .slice (some ⟨x3, 0, none⟩) 256 xm] 26)).alloc (.cells #[.int .i64 40, .int .i64 wd, .int .i64 0, .int .i64 3, .int .i64 v, .int .i64 (-1), .int .i64 0] 28)) g1 g2 g3 ⟨40, hR a b, zeros 5, hM 40 wd⟩ from ho.fr G1)
      have HOX1 := Lib.hid (show Own (((u2.alloc (.cells #[.int .i64 40, .slice (some ⟨g1, 0, none⟩) 8 gr, .slice (some ⟨g2, 0, none⟩) 5 gc, .slice (some ⟨g3, 0, none⟩) 256 gm] 26)).alloc (.cells #[.int .i64 41, .slice (some ⟨x1, 0, none⟩) 8 xr, .slice (some ⟨x2, 0, none⟩) 5 xc, .slice (some ⟨x3, 0, none⟩) 256 xm] 26)).alloc (.cells #[.int .i64 40, .int .i64 wd, .int .i64 0, .int .i64 3, .int .i64 v, .int .i64 (-1), .int .i64 0] 28)) x1 x2 x3 ⟨41, (hR a b).set 3 v, zeros 5, hM 40 wd⟩ from hx.fr G1)
      have HF1 := Lib.hid (Fr.trans f2 G1)
      have HB5 := Lib.hid (((Box4.new u2 (.int .i64 40) (.slice (some ⟨g1, 0, none⟩) 8 gr) (.slice (some ⟨g2, 0, none⟩) 5 gc) (.slice (some ⟨g3, 0, none⟩) 256 gm) 26 _ rfl).alloc (.cells #[.int .i64 41, .slice (some ⟨x1, 0, none⟩) 8 xr, .slice (some ⟨x2, 0, none⟩) 5 xc, .slice (some ⟨x3, 0, none⟩) 256 xm] 26)).alloc (.cells #[.int .i64 40, .int .i64 wd, .int .i64 0, .int .i64 3, .int .i64 v, .int .i64 (-1), .int .i64 0] 28))
      have HB6 := Lib.hid ((Box4.new (u2.alloc (.cells #[.int .i64 40, .slice (some ⟨g1, 0, none⟩) 8 gr, .slice (some ⟨g2, 0, none⟩) 5 gc, .slice (some ⟨g3, 0, none⟩) 256 gm] 26)) (.int .i64 41) (.slice (some ⟨x1, 0, none⟩) 8 xr) (.slice (some ⟨x2, 0, none⟩) 5 xc) (.slice (some ⟨x3, 0, none⟩) 256 xm) 26 (u2.heap.size + 1) (by simp)).alloc (.cells #[.int .i64 40, .int .i64 wd, .int .i64 0, .int .i64 3, .int .i64 v, .int .i64 (-1), .int .i64 0] 28))
      have HB7 := Lib.hid (Box7.new ((u2.alloc (.cells #[.int .i64 40, .slice (some ⟨g1, 0, none⟩) 8 gr, .slice (some ⟨g2, 0, none⟩) 5 gc, .slice (some ⟨g3, 0, none⟩) 256 gm] 26)).alloc (.cells #[.int .i64 41, .slice (some ⟨x1, 0, none⟩) 8 xr, .slice (some ⟨x2, 0, none⟩) 5 xc, .slice (some ⟨x3, 0, none⟩) 256 xm] 26)) ⟨40, wd, 0, 3, v, -1, 0⟩ 28 (u2.heap.size + 1 + 1) (by simp))
      have hW1 : u2.heap.size + 3 ≤ (((u2.alloc (.cells #[.int .i64 40, .slice (some ⟨g1, 0, none⟩) 8 gr, .slice (some ⟨g2, 0, none⟩) 5 gc, .slice (some ⟨g3, 0, none⟩) 256 gm] 26)).alloc (.cells #[.int .i64 41, .slice (some ⟨x1, 0, none⟩) 8 xr, .slice (some ⟨x2, 0, none⟩) 5 xc, .slice (some ⟨x3, 0, none⟩) 256 xm] 26)).alloc (.cells #[.int .i64 40, .int .i64 wd, .int .i64 0, .int .i64 3, .int .i64 v, .int .i64 (-1), .int .i64 0] 28)).heap.size := by simp
      have hwu := f2.size
      clear ho hx f2 G1
      go_wp2_with fail
      generalize (((u2.alloc (.cells #[.int .i64 40, .slice (some ⟨g1, 0, none⟩) 8 gr, .slice (some ⟨g2, 0, none⟩) 5 gc, .slice (some ⟨g3, 0, none⟩) 256 gm] 26)).alloc (.cells #[.int .i64 41, .slice (some ⟨x1, 0, none⟩) 8 xr, .slice (some ⟨x2, 0, none⟩) 5 xc, .slice (some ⟨x3, 0, none⟩) 256 xm] 26)).alloc (.cells #[.int .i64 40, .int .i64 wd, .int .i64 0, .int .i64 3, .int .i64 v, .int .i64 (-1), .int .i64 0] 28)) = t1 at *
      refine wp_region_lots 66 (fun i => if i = 7 then [g1] else []) (fun _ _ => True) (fun i v9 u => match i with | 0 => v9 = .pointer (some ⟨u2.heap.size, 1, none⟩) | 1 => v9 = .slice (some ⟨g1, 0, none⟩) 8 gr | 2 => v9 = .int .i64 f | 3 => v9 = .int .i64 a | 4 => v9 = .int .i64 b | 5 => v9 = .int .i64 v | 6 => v9 = .pointer (some ⟨g1, 3, none⟩) | 7 => Own u g1 g2 g3 ⟨41, (hR a b).set 3 v, zeros 5, hM 40 wd⟩ | _ => True) ?mono (by kernel_rfl) (by kernel_rfl) rfl (by kernel_rfl) trivial ?step ?fin
      case mono =>
        intro i j v9 u u' hij hsz h hB
        rcases j with _ | _ | _ | _ | _ | _ | _ | _ | j
        · exact h
        · exact h
        · exact h
        · exact h
        · exact h
        · exact h
        · exact h
        · exact h.but (L := []) (by have hx := hB; simp only [if_neg hij] at hx; exact hx) (by simp) (by simp) (by simp)
        · trivial
      case step =>
        intro i o ho
        rcases i with _ | _ | _ | _ | _ | _ | _ | _ | i
        · cases ho
          intro fu act u hW hB hsz hL hdep
          replace hB := hB [g1] (fun j hj hd k hk => by
            by_cases y7 : j = 7
            · rw [if_pos y7] at hk; simp at hk; simp [hk]
            rw [if_neg y7] at hk
            cases hk)
          obtain ⟨ysl, ha, hy⟩ := hL.puts [30, 31, 32, 33, 34, 35, 36] (by kernel_rfl)
          clear hdep hL hy
          simp only [List.foldl, List.setIfInBounds_toArray, List.set_cons_succ, List.set_cons_zero] at ha
          subst ha
          refine wpOp_step rfl (fun K hK => ?_)
          go_simp
          exact hK _ _ ⟨_, rfl, (fun h => by cases h), rfl, But.refl _ _, trivial⟩
        · cases ho
          intro fu act u hW hB hsz hL hdep
          replace hB := hB [g1] (fun j hj hd k hk => by
            by_cases y7 : j = 7
            · rw [if_pos y7] at hk; simp at hk; simp [hk]
            rw [if_neg y7] at hk
            cases hk)
          have d0 := hdep { on := 0, ground := .data } (by simp) rfl _ rfl
          obtain ⟨ysl, ha, hy⟩ := hL.puts [30, 31, 32, 33, 34, 35, 36] (by kernel_rfl)
          have e0 : ysl 30 = _ := (hy 30).symm.trans d0
          clear hdep hL hy d0
          simp only [List.foldl, List.setIfInBounds_toArray, List.set_cons_succ, List.set_cons_zero, e0] at ha
          subst ha
          clear e0
          obtain ⟨_, c0, c1, c2, c3, _, _, _, _⟩ := HB5.out.but hB (by simp; omega)
          refine wpOp_step rfl (fun K hK => ?_)
          go_simp
          exact hK _ _ ⟨_, rfl, (fun h => by cases h), rfl, But.refl _ _, trivial⟩
        · cases ho
          intro fu act u hW hB hsz hL hdep
          replace hB := hB [g1] (fun j hj hd k hk => by
            by_cases y7 : j = 7
            · rw [if_pos y7] at hk; simp at hk; simp [hk]
            rw [if_neg y7] at hk
            cases hk)
          obtain ⟨ysl, ha, hy⟩ := hL.puts [30, 31, 32, 33, 34, 35, 36] (by kernel_rfl)
          clear hdep hL hy
          simp only [List.foldl, List.setIfInBounds_toArray, List.set_cons_succ, List.set_cons_zero] at ha
          subst ha
          refine wpOp_step rfl (fun K hK => ?_)
          go_simp
          exact hK _ _ ⟨_, rfl, (fun h => by cases h), rfl, But.refl _ _, trivial⟩
        · cases ho
          intro fu act u hW hB hsz hL hdep
          replace hB := hB [g1] (fun j hj hd k hk => by
            by_cases y7 : j = 7
            · rw [if_pos y7] at hk; simp at hk; simp [hk]
            rw [if_neg y7] at hk
            cases hk)
          obtain ⟨ysl, ha, hy⟩ := hL.puts [30, 31, 32, 33, 34, 35, 36] (by kernel_rfl)
          clear hdep hL hy
          simp only [List.foldl, List.setIfInBounds_toArray, List.set_cons_succ, List.set_cons_zero] at ha
          subst ha
          refine wpOp_step rfl (fun K hK => ?_)
          go_simp
          exact hK _ _ ⟨_, rfl, (fun h => by cases h), rfl, But.refl _ _, trivial⟩
        · cases ho
          intro fu act u hW hB hsz hL hdep
          replace hB := hB [g1] (fun j hj hd k hk => by
            by_cases y7 : j = 7
            · rw [if_pos y7] at hk; simp at hk; simp [hk]
            rw [if_neg y7] at hk
            cases hk)
          obtain ⟨ysl, ha, hy⟩ := hL.puts [30, 31, 32, 33, 34, 35, 36] (by kernel_rfl)
          clear hdep hL hy
          simp only [List.foldl, List.setIfInBounds_toArray, List.set_cons_succ, List.set_cons_zero] at ha
          subst ha
          refine wpOp_step rfl (fun K hK => ?_)
          go_simp
          exact hK _ _ ⟨_, rfl, (fun h => by cases h), rfl, But.refl _ _, trivial⟩
        · cases ho
          intro fu act u hW hB hsz hL hdep
          replace hB := hB [g1] (fun j hj hd k hk => by
            by_cases y7 : j = 7
            · rw [if_pos y7] at hk; simp at hk; simp [hk]
            rw [if_neg y7] at hk
            cases hk)
          have d2 := hdep { on := 2, ground := .data } (by simp) rfl _ rfl
          have d3 := hdep { on := 3, ground := .data } (by simp) rfl _ rfl
          have d4 := hdep { on := 4, ground := .data } (by simp) rfl _ rfl
          obtain ⟨ysl, ha, hy⟩ := hL.puts [30, 31, 32, 33, 34, 35, 36] (by kernel_rfl)
          have e2 : ysl 32 = _ := (hy 32).symm.trans d2
          have e3 : ysl 33 = _ := (hy 33).symm.trans d3
          have e4 : ysl 34 = _ := (hy 34).symm.trans d4
          clear hdep hL hy d2 d3 d4
          simp only [List.foldl, List.setIfInBounds_toArray, List.set_cons_succ, List.set_cons_zero, e2, e3, e4] at ha
          subst ha
          clear e2 e3 e4
          refine wpOp_step rfl (fun K hK => ?_)
          go_simp
          have EM := impl_AluDo f a b u
          rw [HV.out] at EM
          refine EM.mono ?_
          rintro e u' ⟨rfl, rfl⟩
          go_simp
          exact hK _ _ ⟨_, rfl, (fun h => by cases h), rfl, But.refl _ _, trivial⟩
        · cases ho
          intro fu act u hW hB hsz hL hdep
          replace hB := hB [g1] (fun j hj hd k hk => by
            by_cases y7 : j = 7
            · rw [if_pos y7] at hk; simp at hk; simp [hk]
            rw [if_neg y7] at hk
            cases hk)
          have d1 := hdep { on := 1, ground := .data } (by simp) rfl _ rfl
          obtain ⟨ysl, ha, hy⟩ := hL.puts [30, 31, 32, 33, 34, 35, 36] (by kernel_rfl)
          have e1 : ysl 31 = _ := (hy 31).symm.trans d1
          clear hdep hL hy d1
          simp only [List.foldl, List.setIfInBounds_toArray, List.set_cons_succ, List.set_cons_zero, e1] at ha
          subst ha
          clear e1
          refine wpOp_step rfl (fun K hK => ?_)
          go_simp
          exact hK _ _ ⟨_, rfl, (fun h => by cases h), rfl, But.refl _ _, trivial⟩
        · cases ho
          intro fu act u hW hB hsz hL hdep
          replace hB := hB [] (fun j hj hd k hk => by
            by_cases x7 : j = 7
            · exact absurd x7 hj
            rw [if_neg x7] at hk
            cases hk)
          have d5 := hdep { on := 5, ground := .data } (by simp) rfl _ rfl
          have d6 := hdep { on := 6, ground := .data } (by simp) rfl _ rfl
          obtain ⟨ysl, ha, hy⟩ := hL.puts [30, 31, 32, 33, 34, 35, 36] (by kernel_rfl)
          have e5 : ysl 35 = _ := (hy 35).symm.trans d5
          have e6 : ysl 36 = _ := (hy 36).symm.trans d6
          clear hdep hL hy d5 d6
          simp only [List.foldl, List.setIfInBounds_toArray, List.set_cons_succ, List.set_cons_zero, e5, e6] at ha
          subst ha
          clear e5 e6
          have hm := HOG1.out.but hB (by simp) (by simp) (by simp)
          have c := hm.R.cel 3 (by rw [HL1.out]; omega)
          have c' := hm.R.fro 3 (by rw [HL1.out]; omega)
          refine wpOp_step rfl (fun K hK => ?_)
          go_simp
          exact hK _ _ ⟨undef, rfl, (fun _ => rfl), hm.setR 3 v (by rw [HL1.out]; omega) 41, (But.refl [g1] u).set g1 _ _ (.inl (by simp)), trivial⟩
        · exact absurd ho (by simp)
      case fin =>
        intro act u hW hsz hB hL hsf
        replace hB := hB [g1] (fun j k hk => by
          by_cases y7 : j = 7
          · rw [if_pos y7] at hk; simp at hk; simp [hk]
          rw [if_neg y7] at hk
          cases hk)
        have d7 := hsf 7 _ rfl
        obtain ⟨ysl, ha, hy⟩ := hL.puts [30, 31, 32, 33, 34, 35, 36] (by kernel_rfl)
        clear hL hsf hy
        simp only [List.foldl, List.setIfInBounds_toArray, List.set_cons_succ, List.set_cons_zero] at ha
        subst ha
        have HOG2 := Lib.hid d7
        have HOX2 := Lib.hid (HOX1.out.but hB (by simp; omega) (by simp; omega) (by simp; omega))
        have HB52 := Lib.hid (HB5.out.but hB (by simp; omega))
        have HB62 := Lib.hid (HB6.out.but hB (by simp; omega))
        have HB72 := Lib.hid (HB7.out.but hB (by simp; omega))
        have HF2 := Lib.hid (fr_but HF1.out hB (fun k hk => by simp at hk; omega))
        have hsv := hB.size
        clear hB hW d7 HOG1 HOX1 HB5 HB6 HB7 HF1
        obtain ⟨_, c0, c1, c2, c3, d0, d1, d2, d3⟩ := HB52.out
        go_wp2_with fail
        clear c0 c1 c2 c3 d0 d1 d2 d3
        have hset := (But.refl [u2.heap.size] u).set u2.heap.size 0 (.int .i64 41) (.inl (by simp))
        have K5 := Lib.hid (HB52.out.set0 (.int .i64 41))
        have K6 := Lib.hid (HB62.out.but hset (by simp))
        have K7 := Lib.hid (HB72.out.but hset (by simp; omega))
        have KOG := Lib.hid (HOG2.out.but hset (by simp; omega) (by simp; omega) (by simp; omega))
        have KOX := Lib.hid (HOX2.out.but hset (by simp; omega) (by simp; omega) (by simp; omega))
        have KF := Lib.hid (fr_but HF2.out hset (fun k hk => by simp at hk; omega))
        have hsz9 := hset.size
        generalize (u.setCell ⟨u2.heap.size, 0, none⟩ (.int .i64 41)) = uu at *
        clear hset HB52 HB62 HB72 HOG2 HOX2 HF2
        have HLG := Lib.hid (show ((hR a b).set 3 v).length = 8 by rw [List.length_set]; exact HL1.out)
        have HG3 := Lib.hid (show ((hR a b).set 3 v).getD 3 0 = v by rw [getD_set, if_pos ⟨rfl, by rw [HL1.out]; omega⟩])
        refine wp_region_lots 66 (fun i => []) (fun _ _ => True) (fun i v9 u => match i with | 0 => v9 = .agg #[.int .i64 41, .slice (some ⟨x1, 0, none⟩) 8 xr, .slice (some ⟨x2, 0, none⟩) 5 xc, .slice (some ⟨x3, 0, none⟩) 256 xm] | 1 => v9 = .agg #[.int .i64 41, .slice (some ⟨g1, 0, none⟩) 8 gr, .slice (some ⟨g2, 0, none⟩) 5 gc, .slice (some ⟨g3, 0, none⟩) 256 gm] | 2 => v9 = .bool true | 3 => v9 = .bool false | 4 => v9 = .bool false | 5 => v9 = .pointer (some ⟨u2.heap.size + 1 + 1, 2, none⟩) | 6 => v9 = .int .i64 0 | 7 => v9 = .bool false | 8 => v9 = .bool false | 9 => v9 = .bool false | 10 => v9 = .pointer (some ⟨u2.heap.size + 1 + 1, 3, none⟩) | 11 => v9 = .int .i64 3 | 12 => v9 = .bool false | 13 => v9 = .bool false | 14 => v9 = .bool false | 15 => v9 = .pointer (some ⟨u2.heap.size + 1 + 1, 4, none⟩) | 16 => v9 = .int .i64 v | 17 => v9 = .pointer (some ⟨u2.heap.size, 1, none⟩) | 18 => v9 = .slice (some ⟨g1, 0, none⟩) 8 gr | 19 => v9 = .pointer (some ⟨g1, 3, none⟩) | 20 => v9 = .int .i64 v | 21 => v9 = .bool false | 22 => v9 = .bool false | 23 => v9 = .bool false | 24 => v9 = .pointer (some ⟨u2.heap.size + 1 + 1, 5, none⟩) | 25 => v9 = .int .i64 (-1) | 26 => v9 = .bool false | 27 => v9 = .bool false | _ => True) ?mono (by kernel_rfl) (by kernel_rfl) rfl (by kernel_rfl) trivial ?step ?fin
        case mono =>
          intro i j v9 u u' hij hsz h hB
          rcases j with _ | _ | _ | _ | _ | _ | _ | _ | _ | _ | _ | _ | _ | _ | _ | _ | _ | _ | _ | _ | _ | _ | _ | _ | _ | _ | _ | _ | j
          · exact h
          · exact h
          · exact h
          · exact h
          · exact h
          · exact h
          · exact h
          · exact h
          · exact h
          · exact h
          · exact h
          · exact h
          · exact h
          · exact h
          · exact h
          · exact h
          · exact h
          · exact h
          · exact h
          · exact h
          · exact h
          · exact h
          · exact h
          · exact h
          · exact h
          · exact h
          · exact h
          · exact h
          · trivial
        case step =>
          intro i o ho
          rcases i with _ | _ | _ | _ | _ | _ | _ | _ | _ | _ | _ | _ | _ | _ | _ | _ | _ | _ | _ | _ | _ | _ | _ | _ | _ | _ | _ | _ | i
          · cases ho
            intro fu act u hW hB hsz hL hdep
            replace hB := hB [] (fun j hj hd k hk => by
              cases hk)
            obtain ⟨ysl, ha, hy⟩ := hL.puts [38, 39, 40, 41, 42, 43, 44, 45, 46, 47, 48, 49, 50, 51, 52, 53, 54, 55, 56, 57, 58, 59, 60, 61, 62, 63, 64, 65] (by kernel_rfl)
            clear hdep hL hy
            simp only [List.foldl, List.setIfInBounds_toArray, List.set_cons_succ, List.set_cons_zero] at ha
            subst ha
            obtain ⟨_, c0, c1, c2, c3, _, _, _, _⟩ := K6.out.but hB (by simp)
            refine wpOp_step rfl (fun K hK => ?_)
            go_simp
            exact hK _ _ ⟨_, rfl, (fun h => by cases h), rfl, But.refl _ _, trivial⟩
          · cases ho
            intro fu act u hW hB hsz hL hdep
            replace hB := hB [] (fun j hj hd k hk => by
              cases hk)
            obtain ⟨ysl, ha, hy⟩ := hL.puts [38, 39, 40, 41, 42, 43, 44, 45, 46, 47, 48, 49, 50, 51, 52, 53, 54, 55, 56, 57, 58, 59, 60, 61, 62, 63, 64, 65] (by kernel_rfl)
            clear hdep hL hy
            simp only [List.foldl, List.setIfInBounds_toArray, List.set_cons_succ, List.set_cons_zero] at ha
            subst ha
            obtain ⟨_, c0, c1, c2, c3, _, _, _, _⟩ := K5.out.but hB (by simp)
            refine wpOp_step rfl (fun K hK => ?_)
            go_simp
            exact hK _ _ ⟨_, rfl, (fun h => by cases h), rfl, But.refl _ _, trivial⟩
          · cases ho
            intro fu act u hW hB hsz hL hdep
            replace hB := hB [] (fun j hj hd k hk => by
              cases hk)
            have d0 := hdep { on := 0, ground := .data } (by simp) rfl _ rfl
            have d1 := hdep { on := 1, ground := .data } (by simp) rfl _ rfl
            obtain ⟨ysl, ha, hy⟩ := hL.puts [38, 39, 40, 41, 42, 43, 44, 45, 46, 47, 48, 49, 50, 51, 52, 53, 54, 55, 56, 57, 58, 59, 60, 61, 62, 63, 64, 65] (by kernel_rfl)
            have e0 : ysl 38 = _ := (hy 38).symm.trans d0
            have e1 : ysl 39 = _ := (hy 39).symm.trans d1
            clear hdep hL hy d0 d1
            simp only [List.foldl, List.setIfInBounds_toArray, List.set_cons_succ, List.set_cons_zero, e0, e1] at ha
            subst ha
            clear e0 e1
            refine wpOp_step rfl (fun K hK => ?_)
            go_simp
            refine (same_pln (KOG.out.fr (fr_but (L := []) (Below.refl uu.heap.size uu) hB (fun k hk => by cases hk))) (KOX.out.fr (fr_but (L := []) (Below.refl uu.heap.size uu) hB (fun k hk => by cases hk))) HLG.out HL2.out HL3.out).mono ?_
            rintro e u' ⟨rfl, f'⟩
            go_simp
            exact hK _ _ ⟨_, rfl, (fun h => by cases h), rfl, But.of f', trivial⟩
          · cases ho
            intro fu act u hW hB hsz hL hdep
            replace hB := hB [] (fun j hj hd k hk => by
              cases hk)
            have d2 := hdep { on := 2, ground := .data } (by simp) rfl _ rfl
            obtain ⟨ysl, ha, hy⟩ := hL.puts [38, 39, 40, 41, 42, 43, 44, 45, 46, 47, 48, 49, 50, 51, 52, 53, 54, 55, 56, 57, 58, 59, 60, 61, 62, 63, 64, 65] (by kernel_rfl)
            have e2 : ysl 40 = _ := (hy 40).symm.trans d2
            clear hdep hL hy d2
            simp only [List.foldl, List.setIfInBounds_toArray, List.set_cons_succ, List.set_cons_zero, e2] at ha
            subst ha
            clear e2
            refine wpOp_step rfl (fun K hK => ?_)
            go_simp
            exact hK _ _ ⟨_, rfl, (fun h => by cases h), (by first | rfl | simp), But.refl _ _, trivial⟩
          · cases ho
            intro fu act u hW hB hsz hL hdep
            replace hB := hB [] (fun j hj hd k hk => by
              cases hk)
            have d3 := hdep { on := 3, ground := .data } (by simp) rfl _ rfl
            obtain ⟨ysl, ha, hy⟩ := hL.puts [38, 39, 40, 41, 42, 43, 44, 45, 46, 47, 48, 49, 50, 51, 52, 53, 54, 55, 56, 57, 58, 59, 60, 61, 62, 63, 64, 65] (by kernel_rfl)
            have e3 : ysl 41 = _ := (hy 41).symm.trans d3
            clear hdep hL hy d3
            simp only [List.foldl, List.setIfInBounds_toArray, List.set_cons_succ, List.set_cons_zero, e3] at ha
            subst ha
            clear e3
            refine wpOp_step rfl (fun K hK => ?_)
            go_simp
            exact hK _ _ ⟨_, rfl, (fun h => by cases h), rfl, But.refl _ _, trivial⟩
          · cases ho
            intro fu act u hW hB hsz hL hdep
            replace hB := hB [] (fun j hj hd k hk => by
              cases hk)
            have d4 := hdep { on := 4, ground := .guard } (by simp) rfl _ rfl
            obtain ⟨ysl, ha, hy⟩ := hL.puts [38, 39, 40, 41, 42, 43, 44, 45, 46, 47, 48, 49, 50, 51, 52, 53, 54, 55, 56, 57, 58, 59, 60, 61, 62, 63, 64, 65] (by kernel_rfl)
            have e4 : ysl 42 = _ := (hy 42).symm.trans d4
            clear hdep hL hy d4
            simp only [List.foldl, List.setIfInBounds_toArray, List.set_cons_succ, List.set_cons_zero, e4] at ha
            subst ha
            clear e4
            refine wpOp_step rfl (fun K hK => ?_)
            go_simp
            exact hK _ _ ⟨_, rfl, (fun h => by cases h), rfl, But.refl _ _, trivial⟩
          · cases ho
            intro fu act u hW hB hsz hL hdep
            replace hB := hB [] (fun j hj hd k hk => by
              cases hk)
            have d4 := hdep { on := 4, ground := .guard } (by simp) rfl _ rfl
            have d5 := hdep { on := 5, ground := .data } (by simp) rfl _ rfl
            obtain ⟨ysl, ha, hy⟩ := hL.puts [38, 39, 40, 41, 42, 43, 44, 45, 46, 47, 48, 49, 50, 51, 52, 53, 54, 55, 56, 57, 58, 59, 60, 61, 62, 63, 64, 65] (by kernel_rfl)
            have e4 : ysl 42 = _ := (hy 42).symm.trans d4
            have e5 : ysl 43 = _ := (hy 43).symm.trans d5
            clear hdep hL hy d4 d5
            simp only [List.foldl, List.setIfInBounds_toArray, List.set_cons_succ, List.set_cons_zero, e4, e5] at ha
            subst ha
            clear e4 e5
            obtain ⟨_, c0, c1, c2, c3, c4, c5, c6, _, _, _, _, _, _, _⟩ := K7.out.but hB (by simp)
            refine wpOp_step rfl (fun K hK => ?_)
            go_simp
            exact hK _ _ ⟨_, rfl, (fun h => by cases h), rfl, But.refl _ _, trivial⟩
          · cases ho
            intro fu act u hW hB hsz hL hdep
            replace hB := hB [] (fun j hj hd k hk => by
              cases hk)
            have d4 := hdep { on := 4, ground := .guard } (by simp) rfl _ rfl
            have d6 := hdep { on := 6, ground := .data } (by simp) rfl _ rfl
            obtain ⟨ysl, ha, hy⟩ := hL.puts [38, 39, 40, 41, 42, 43, 44, 45, 46, 47, 48, 49, 50, 51, 52, 53, 54, 55, 56, 57, 58, 59, 60, 61, 62, 63, 64, 65] (by kernel_rfl)
            have e4 : ysl 42 = _ := (hy 42).symm.trans d4
            have e6 : ysl 44 = _ := (hy 44).symm.trans d6
            clear hdep hL hy d4 d6
            simp only [List.foldl, List.setIfInBounds_toArray, List.set_cons_succ, List.set_cons_zero, e4, e6] at ha
            subst ha
            clear e4 e6
            refine wpOp_step rfl (fun K hK => ?_)
            go_simp
            exact hK _ _ ⟨_, rfl, (fun h => by cases h), (by first | rfl | simp), But.refl _ _, trivial⟩
          · cases ho
            intro fu act u hW hB hsz hL hdep
            replace hB := hB [] (fun j hj hd k hk => by
              cases hk)
            have d4 := hdep { on := 4, ground := .data } (by simp) rfl _ rfl
            have d7 := hdep { on := 7, ground := .data } (by simp) rfl _ rfl
            obtain ⟨ysl, ha, hy⟩ := hL.puts [38, 39, 40, 41, 42, 43, 44, 45, 46, 47, 48, 49, 50, 51, 52, 53, 54, 55, 56, 57, 58, 59, 60, 61, 62, 63, 64, 65] (by kernel_rfl)
            have e4 : ysl 42 = _ := (hy 42).symm.trans d4
            have e7 : ysl 45 = _ := (hy 45).symm.trans d7
            clear hdep hL hy d4 d7
            simp only [List.foldl, List.setIfInBounds_toArray, List.set_cons_succ, List.set_cons_zero, e4, e7] at ha
            subst ha
            clear e4 e7
            refine wpOp_step rfl (fun K hK => ?_)
            go_simp
            exact hK _ _ ⟨_, rfl, (fun h => by cases h), rfl, But.refl _ _, trivial⟩
          · cases ho
            intro fu act u hW hB hsz hL hdep
            replace hB := hB [] (fun j hj hd k hk => by
              cases hk)
            have d8 := hdep { on := 8, ground := .data } (by simp) rfl _ rfl
            obtain ⟨ysl, ha, hy⟩ := hL.puts [38, 39, 40, 41, 42, 43, 44, 45, 46, 47, 48, 49, 50, 51, 52, 53, 54, 55, 56, 57, 58, 59, 60, 61, 62, 63, 64, 65] (by kernel_rfl)
            have e8 : ysl 46 = _ := (hy 46).symm.trans d8
            clear hdep hL hy d8
            simp only [List.foldl, List.setIfInBounds_toArray, List.set_cons_succ, List.set_cons_zero, e8] at ha
            subst ha
            clear e8
            refine wpOp_step rfl (fun K hK => ?_)
            go_simp
            exact hK _ _ ⟨_, rfl, (fun h => by cases h), rfl, But.refl _ _, trivial⟩
          · cases ho
            intro fu act u hW hB hsz hL hdep
            replace hB := hB [] (fun j hj hd k hk => by
              cases hk)
            have d9 := hdep { on := 9, ground := .guard } (by simp) rfl _ rfl
            obtain ⟨ysl, ha, hy⟩ := hL.puts [38, 39, 40, 41, 42, 43, 44, 45, 46, 47, 48, 49, 50, 51, 52, 53, 54, 55, 56, 57, 58, 59, 60, 61, 62, 63, 64, 65] (by kernel_rfl)
            have e9 : ysl 47 = _ := (hy 47).symm.trans d9
            clear hdep hL hy d9
            simp only [List.foldl, List.setIfInBounds_toArray, List.set_cons_succ, List.set_cons_zero, e9] at ha
            subst ha
            clear e9
            refine wpOp_step rfl (fun K hK => ?_)
            go_simp
            exact hK _ _ ⟨_, rfl, (fun h => by cases h), rfl, But.refl _ _, trivial⟩
          · cases ho
            intro fu act u hW hB hsz hL hdep
            replace hB := hB [] (fun j hj hd k hk => by
              cases hk)
            have d9 := hdep { on := 9, ground := .guard } (by simp) rfl _ rfl
            have d10 := hdep { on := 10, ground := .data } (by simp) rfl _ rfl
            obtain ⟨ysl, ha, hy⟩ := hL.puts [38, 39, 40, 41, 42, 43, 44, 45, 46, 47, 48, 49, 50, 51, 52, 53, 54, 55, 56, 57, 58, 59, 60, 61, 62, 63, 64, 65] (by kernel_rfl)
            have e9 : ysl 47 = _ := (hy 47).symm.trans d9
            have e10 : ysl 48 = _ := (hy 48).symm.trans d10
            clear hdep hL hy d9 d10
            simp only [List.foldl, List.setIfInBounds_toArray, List.set_cons_succ, List.set_cons_zero, e9, e10] at ha
            subst ha
            clear e9 e10
            obtain ⟨_, c0, c1, c2, c3, c4, c5, c6, _, _, _, _, _, _, _⟩ := K7.out.but hB (by simp)
            refine wpOp_step rfl (fun K hK => ?_)
            go_simp
            exact hK _ _ ⟨_, rfl, (fun h => by cases h), rfl, But.refl _ _, trivial⟩
          · cases ho
            intro fu act u hW hB hsz hL hdep
            replace hB := hB [] (fun j hj hd k hk => by
              cases hk)
            have d9 := hdep { on := 9, ground := .guard } (by simp) rfl _ rfl
            have d11 := hdep { on := 11, ground := .data } (by simp) rfl _ rfl
            obtain ⟨ysl, ha, hy⟩ := hL.puts [38, 39, 40, 41, 42, 43, 44, 45, 46, 47, 48, 49, 50, 51, 52, 53, 54, 55, 56, 57, 58, 59, 60, 61, 62, 63, 64, 65] (by kernel_rfl)
            have e9 : ysl 47 = _ := (hy 47).symm.trans d9
            have e11 : ysl 49 = _ := (hy 49).symm.trans d11
            clear hdep hL hy d9 d11
            simp only [List.foldl, List.setIfInBounds_toArray, List.set_cons_succ, List.set_cons_zero, e9, e11] at ha
            subst ha
            clear e9 e11
            refine wpOp_step rfl (fun K hK => ?_)
            go_simp
            exact hK _ _ ⟨_, rfl, (fun h => by cases h), (by first | rfl | simp), But.refl _ _, trivial⟩
          · cases ho
            intro fu act u hW hB hsz hL hdep
            replace hB := hB [] (fun j hj hd k hk => by
              cases hk)
            have d9 := hdep { on := 9, ground := .data } (by simp) rfl _ rfl
            have d12 := hdep { on := 12, ground := .data } (by simp) rfl _ rfl
            obtain ⟨ysl, ha, hy⟩ := hL.puts [38, 39, 40, 41, 42, 43, 44, 45, 46, 47, 48, 49, 50, 51, 52, 53, 54, 55, 56, 57, 58, 59, 60, 61, 62, 63, 64, 65] (by kernel_rfl)
            have e9 : ysl 47 = _ := (hy 47).symm.trans d9
            have e12 : ysl 50 = _ := (hy 50).symm.trans d12
            clear hdep hL hy d9 d12
            simp only [List.foldl, List.setIfInBounds_toArray, List.set_cons_succ, List.set_cons_zero, e9, e12] at ha
            subst ha
            clear e9 e12
            refine wpOp_step rfl (fun K hK => ?_)
            go_simp
            exact hK _ _ ⟨_, rfl, (fun h => by cases h), rfl, But.refl _ _, trivial⟩
          · cases ho
            intro fu act u hW hB hsz hL hdep
            replace hB := hB [] (fun j hj hd k hk => by
              cases hk)
            have d13 := hdep { on := 13, ground := .data } (by simp) rfl _ rfl
            obtain ⟨ysl, ha, hy⟩ := hL.puts [38, 39, 40, 41, 42, 43, 44, 45, 46, 47, 48, 49, 50, 51, 52, 53, 54, 55, 56, 57, 58, 59, 60, 61, 62, 63, 64, 65] (by kernel_rfl)
            have e13 : ysl 51 = _ := (hy 51).symm.trans d13
            clear hdep hL hy d13
            simp only [List.foldl, List.setIfInBounds_toArray, List.set_cons_succ, List.set_cons_zero, e13] at ha
            subst ha
            clear e13
            refine wpOp_step rfl (fun K hK => ?_)
            go_simp
            exact hK _ _ ⟨_, rfl, (fun h => by cases h), rfl, But.refl _ _, trivial⟩
          · cases ho
            intro fu act u hW hB hsz hL hdep
            replace hB := hB [] (fun j hj hd k hk => by
              cases hk)
            have d14 := hdep { on := 14, ground := .guard } (by simp) rfl _ rfl
            obtain ⟨ysl, ha, hy⟩ := hL.puts [38, 39, 40, 41, 42, 43, 44, 45, 46, 47, 48, 49, 50, 51, 52, 53, 54, 55, 56, 57, 58, 59, 60, 61, 62, 63, 64, 65] (by kernel_rfl)
            have e14 : ysl 52 = _ := (hy 52).symm.trans d14
            clear hdep hL hy d14
            simp only [List.foldl, List.setIfInBounds_toArray, List.set_cons_succ, List.set_cons_zero, e14] at ha
            subst ha
            clear e14
            refine wpOp_step rfl (fun K hK => ?_)
            go_simp
            exact hK _ _ ⟨_, rfl, (fun h => by cases h), rfl, But.refl _ _, trivial⟩
          · cases ho
            intro fu act u hW hB hsz hL hdep
            replace hB := hB [] (fun j hj hd k hk => by
              cases hk)
            have d14 := hdep { on := 14, ground := .guard } (by simp) rfl _ rfl
            have d15 := hdep { on := 15, ground := .data } (by simp) rfl _ rfl
            obtain ⟨ysl, ha, hy⟩ := hL.puts [38, 39, 40, 41, 42, 43, 44, 45, 46, 47, 48, 49, 50, 51, 52, 53, 54, 55, 56, 57, 58, 59, 60, 61, 62, 63, 64, 65] (by kernel_rfl)
            have e14 : ysl 52 = _ := (hy 52).symm.trans d14
            have e15 : ysl 53 = _ := (hy 53).symm.trans d15
            clear hdep hL hy d14 d15
            simp only [List.foldl, List.setIfInBounds_toArray, List.set_cons_succ, List.set_cons_zero, e14, e15] at ha
            subst ha
            clear e14 e15
            obtain ⟨_, c0, c1, c2, c3, c4, c5, c6, _, _, _, _, _, _, _⟩ := K7.out.but hB (by simp)
            refine wpOp_step rfl (fun K hK => ?_)
            go_simp
            exact hK _ _ ⟨_, rfl, (fun h => by cases h), rfl, But.refl _ _, trivial⟩
          · cases ho
            intro fu act u hW hB hsz hL hdep
            replace hB := hB [] (fun j hj hd k hk => by
              cases hk)
            have d14 := hdep { on := 14, ground := .guard } (by simp) rfl _ rfl
            obtain ⟨ysl, ha, hy⟩ := hL.puts [38, 39, 40, 41, 42, 43, 44, 45, 46, 47, 48, 49, 50, 51, 52, 53, 54, 55, 56, 57, 58, 59, 60, 61, 62, 63, 64, 65] (by kernel_rfl)
            have e14 : ysl 52 = _ := (hy 52).symm.trans d14
            clear hdep hL hy d14
            simp only [List.foldl, List.setIfInBounds_toArray, List.set_cons_succ, List.set_cons_zero, e14] at ha
            subst ha
            clear e14
            refine wpOp_step rfl (fun K hK => ?_)
            go_simp
            exact hK _ _ ⟨_, rfl, (fun h => by cases h), rfl, But.refl _ _, trivial⟩
          · cases ho
            intro fu act u hW hB hsz hL hdep
            replace hB := hB [] (fun j hj hd k hk => by
              cases hk)
            have d14 := hdep { on := 14, ground := .guard } (by simp) rfl _ rfl
            have d17 := hdep { on := 17, ground := .data } (by simp) rfl _ rfl
            obtain ⟨ysl, ha, hy⟩ := hL.puts [38, 39, 40, 41, 42, 43, 44, 45, 46, 47, 48, 49, 50, 51, 52, 53, 54, 55, 56, 57, 58, 59, 60, 61, 62, 63, 64, 65] (by kernel_rfl)
            have e14 : ysl 52 = _ := (hy 52).symm.trans d14
            have e17 : ysl 55 = _ := (hy 55).symm.trans d17
            clear hdep hL hy d14 d17
            simp only [List.foldl, List.setIfInBounds_toArray, List.set_cons_succ, List.set_cons_zero, e14, e17] at ha
            subst ha
            clear e14 e17
            obtain ⟨_, c0, c1, c2, c3, _, _, _, _⟩ := K5.out.but hB (by simp)
            refine wpOp_step rfl (fun K hK => ?_)
            go_simp
            exact hK _ _ ⟨_, rfl, (fun h => by cases h), rfl, But.refl _ _, trivial⟩
          · cases ho
            intro fu act u hW hB hsz hL hdep
            replace hB := hB [] (fun j hj hd k hk => by
              cases hk)
            have d14 := hdep { on := 14, ground := .guard } (by simp) rfl _ rfl
            have d18 := hdep { on := 18, ground := .data } (by simp) rfl _ rfl
            obtain ⟨ysl, ha, hy⟩ := hL.puts [38, 39, 40, 41, 42, 43, 44, 45, 46, 47, 48, 49, 50, 51, 52, 53, 54, 55, 56, 57, 58, 59, 60, 61, 62, 63, 64, 65] (by kernel_rfl)
            have e14 : ysl 52 = _ := (hy 52).symm.trans d14
            have e18 : ysl 56 = _ := (hy 56).symm.trans d18
            clear hdep hL hy d14 d18
            simp only [List.foldl, List.setIfInBounds_toArray, List.set_cons_succ, List.set_cons_zero, e14, e18] at ha
            subst ha
            clear e14 e18
            refine wpOp_step rfl (fun K hK => ?_)
            go_simp
            exact hK _ _ ⟨_, rfl, (fun h => by cases h), rfl, But.refl _ _, trivial⟩
          · cases ho
            intro fu act u hW hB hsz hL hdep
            replace hB := hB [] (fun j hj hd k hk => by
              cases hk)
            have d14 := hdep { on := 14, ground := .guard } (by simp) rfl _ rfl
            have d19 := hdep { on := 19, ground := .data } (by simp) rfl _ rfl
            obtain ⟨ysl, ha, hy⟩ := hL.puts [38, 39, 40, 41, 42, 43, 44, 45, 46, 47, 48, 49, 50, 51, 52, 53, 54, 55, 56, 57, 58, 59, 60, 61, 62, 63, 64, 65] (by kernel_rfl)
            have e14 : ysl 52 = _ := (hy 52).symm.trans d14
            have e19 : ysl 57 = _ := (hy 57).symm.trans d19
            clear hdep hL hy d14 d19
            simp only [List.foldl, List.setIfInBounds_toArray, List.set_cons_succ, List.set_cons_zero, e14, e19] at ha
            subst ha
            clear e14 e19
            have c := (KOG.out.but hB (by simp) (by simp) (by simp)).R.cel 3 (by simp [HL1.out])
            rw [HG3.out] at c
            refine wpOp_step rfl (fun K hK => ?_)
            go_simp
            exact hK _ _ ⟨_, rfl, (fun h => by cases h), rfl, But.refl _ _, trivial⟩
          · cases ho
            intro fu act u hW hB hsz hL hdep
            replace hB := hB [] (fun j hj hd k hk => by
              cases hk)
            have d14 := hdep { on := 14, ground := .guard } (by simp) rfl _ rfl
            have d16 := hdep { on := 16, ground := .data } (by simp) rfl _ rfl
            have d20 := hdep { on := 20, ground := .data } (by simp) rfl _ rfl
            obtain ⟨ysl, ha, hy⟩ := hL.puts [38, 39, 40, 41, 42, 43, 44, 45, 46, 47, 48, 49, 50, 51, 52, 53, 54, 55, 56, 57, 58, 59, 60, 61, 62, 63, 64, 65] (by kernel_rfl)
            have e14 : ysl 52 = _ := (hy 52).symm.trans d14
            have e16 : ysl 54 = _ := (hy 54).symm.trans d16
            have e20 : ysl 58 = _ := (hy 58).symm.trans d20
            clear hdep hL hy d14 d16 d20
            simp only [List.foldl, List.setIfInBounds_toArray, List.set_cons_succ, List.set_cons_zero, e14, e16, e20] at ha
            subst ha
            clear e14 e16 e20
            refine wpOp_step rfl (fun K hK => ?_)
            go_simp
            exact hK _ _ ⟨_, rfl, (fun h => by cases h), (by first | rfl | simp), But.refl _ _, trivial⟩
          · cases ho
            intro fu act u hW hB hsz hL hdep
            replace hB := hB [] (fun j hj hd k hk => by
              cases hk)
            have d14 := hdep { on := 14, ground := .data } (by simp) rfl _ rfl
            have d21 := hdep { on := 21, ground := .data } (by simp) rfl _ rfl
            obtain ⟨ysl, ha, hy⟩ := hL.puts [38, 39, 40, 41, 42, 43, 44, 45, 46, 47, 48, 49, 50, 51, 52, 53, 54, 55, 56, 57, 58, 59, 60, 61, 62, 63, 64, 65] (by kernel_rfl)
            have e14 : ysl 52 = _ := (hy 52).symm.trans d14
            have e21 : ysl 59 = _ := (hy 59).symm.trans d21
            clear hdep hL hy d14 d21
            simp only [List.foldl, List.setIfInBounds_toArray, List.set_cons_succ, List.set_cons_zero, e14, e21] at ha
            subst ha
            clear e14 e21
            refine wpOp_step rfl (fun K hK => ?_)
            go_simp
            exact hK _ _ ⟨_, rfl, (fun h => by cases h), rfl, But.refl _ _, trivial⟩
          · cases ho
            intro fu act u hW hB hsz hL hdep
            replace hB := hB [] (fun j hj hd k hk => by
              cases hk)
            have d22 := hdep { on := 22, ground := .data } (by simp) rfl _ rfl
            obtain ⟨ysl, ha, hy⟩ := hL.puts [38, 39, 40, 41, 42, 43, 44, 45, 46, 47, 48, 49, 50, 51, 52, 53, 54, 55, 56, 57, 58, 59, 60, 61, 62, 63, 64, 65] (by kernel_rfl)
            have e22 : ysl 60 = _ := (hy 60).symm.trans d22
            clear hdep hL hy d22
            simp only [List.foldl, List.setIfInBounds_toArray, List.set_cons_succ, List.set_cons_zero, e22] at ha
            subst ha
            clear e22
            refine wpOp_step rfl (fun K hK => ?_)
            go_simp
            exact hK _ _ ⟨_, rfl, (fun h => by cases h), rfl, But.refl _ _, trivial⟩
          · cases ho
            intro fu act u hW hB hsz hL hdep
            replace hB := hB [] (fun j hj hd k hk => by
              cases hk)
            have d23 := hdep { on := 23, ground := .guard } (by simp) rfl _ rfl
            obtain ⟨ysl, ha, hy⟩ := hL.puts [38, 39, 40, 41, 42, 43, 44, 45, 46, 47, 48, 49, 50, 51, 52, 53, 54, 55, 56, 57, 58, 59, 60, 61, 62, 63, 64, 65] (by kernel_rfl)
            have e23 : ysl 61 = _ := (hy 61).symm.trans d23
            clear hdep hL hy d23
            simp only [List.foldl, List.setIfInBounds_toArray, List.set_cons_succ, List.set_cons_zero, e23] at ha
            subst ha
            clear e23
            refine wpOp_step rfl (fun K hK => ?_)
            go_simp
            exact hK _ _ ⟨_, rfl, (fun h => by cases h), rfl, But.refl _ _, trivial⟩
          · cases ho
            intro fu act u hW hB hsz hL hdep
            replace hB := hB [] (fun j hj hd k hk => by
              cases hk)
            have d23 := hdep { on := 23, ground := .guard } (by simp) rfl _ rfl
            have d24 := hdep { on := 24, ground := .data } (by simp) rfl _ rfl
            obtain ⟨ysl, ha, hy⟩ := hL.puts [38, 39, 40, 41, 42, 43, 44, 45, 46, 47, 48, 49, 50, 51, 52, 53, 54, 55, 56, 57, 58, 59, 60, 61, 62, 63, 64, 65] (by kernel_rfl)
            have e23 : ysl 61 = _ := (hy 61).symm.trans d23
            have e24 : ysl 62 = _ := (hy 62).symm.trans d24
            clear hdep hL hy d23 d24
            simp only [List.foldl, List.setIfInBounds_toArray, List.set_cons_succ, List.set_cons_zero, e23, e24] at ha
            subst ha
            clear e23 e24
            obtain ⟨_, c0, c1, c2, c3, c4, c5, c6, _, _, _, _, _, _, _⟩ := K7.out.but hB (by simp)
            refine wpOp_step rfl (fun K hK => ?_)
            go_simp
            exact hK _ _ ⟨_, rfl, (fun h => by cases h), rfl, But.refl _ _, trivial⟩
          · cases ho
            intro fu act u hW hB hsz hL hdep
            replace hB := hB [] (fun j hj hd k hk => by
              cases hk)
            have d23 := hdep { on := 23, ground := .guard } (by simp) rfl _ rfl
            have d25 := hdep { on := 25, ground := .data } (by simp) rfl _ rfl
            obtain ⟨ysl, ha, hy⟩ := hL.puts [38, 39, 40, 41, 42, 43, 44, 45, 46, 47, 48, 49, 50, 51, 52, 53, 54, 55, 56, 57, 58, 59, 60, 61, 62, 63, 64, 65] (by kernel_rfl)
            have e23 : ysl 61 = _ := (hy 61).symm.trans d23
            have e25 : ysl 63 = _ := (hy 63).symm.trans d25
            clear hdep hL hy d23 d25
            simp only [List.foldl, List.setIfInBounds_toArray, List.set_cons_succ, List.set_cons_zero, e23, e25] at ha
            subst ha
            clear e23 e25
            refine wpOp_step rfl (fun K hK => ?_)
            go_simp
            exact hK _ _ ⟨_, rfl, (fun h => by cases h), (by first | rfl | simp), But.refl _ _, trivial⟩
          · cases ho
            intro fu act u hW hB hsz hL hdep
            replace hB := hB [] (fun j hj hd k hk => by
              cases hk)
            have d23 := hdep { on := 23, ground := .data } (by simp) rfl _ rfl
            have d26 := hdep { on := 26, ground := .data } (by simp) rfl _ rfl
            obtain ⟨ysl, ha, hy⟩ := hL.puts [38, 39, 40, 41, 42, 43, 44, 45, 46, 47, 48, 49, 50, 51, 52, 53, 54, 55, 56, 57, 58, 59, 60, 61, 62, 63, 64, 65] (by kernel_rfl)
            have e23 : ysl 61 = _ := (hy 61).symm.trans d23
            have e26 : ysl 64 = _ := (hy 64).symm.trans d26
            clear hdep hL hy d23 d26
            simp only [List.foldl, List.setIfInBounds_toArray, List.set_cons_succ, List.set_cons_zero, e23, e26] at ha
            subst ha
            clear e23 e26
            refine wpOp_step rfl (fun K hK => ?_)
            go_simp
            exact hK _ _ ⟨_, rfl, (fun h => by cases h), rfl, But.refl _ _, trivial⟩
          · exact absurd ho (by simp)
        case fin =>
          intro act u hW hsz hB hL hsf
          replace hB := hB [] (fun j k hk => by
            cases hk)
          have d27 := hsf 27 _ rfl
          obtain ⟨ysl, ha, hy⟩ := hL.puts [38, 39, 40, 41, 42, 43, 44, 45, 46, 47, 48, 49, 50, 51, 52, 53, 54, 55, 56, 57, 58, 59, 60, 61, 62, 63, 64, 65] (by kernel_rfl)
          have e27 : ysl 65 = _ := (hy 65).symm.trans d27
          clear hL hsf hy d27
          simp only [List.foldl, List.setIfInBounds_toArray, List.set_cons_succ, List.set_cons_zero, e27] at ha
          subst ha
          clear e27
          have fB : Fr uu u := (fr_but (L := []) (Below.refl uu.heap.size uu) hB (fun k hk => by cases hk))
          have LF := Lib.hid (Fr.trans HFR.out (Fr.trans KF.out fB))
          clear hB hW fB
          go_wp2_with fail
          go_roundw
          case rel => exact ⟨f + 1, by omega, by omega, by go_num, LF.out⟩
          case measure => simp [intOf]; omega
    · go_wp2
      go_ret
      exact ⟨rfl, hFr⟩

set_option maxRecDepth 100000 in
theorem lifted (os : Os) (started : os.Started) (H : Type) (enc : TypeId × Value → H) :
    ReturnsInHanded {} Tryd.checked os 5 .any (fun w args => (Rows.fnDoAluSpec.pre enc Tryd.prog Tryd.f5 [] false w args ∧ laidMetH Tryd.prog laidAll w) ∧ sizedMet enc Tryd.prog Tryd.f5 (OpenSpec.ofChange Rows.fnDoAluSpec) false w args)
      (Rows.fnDoAluSpec.post enc Tryd.prog Tryd.f5 false true false false) := by
  refine returnsInHanded_of_change_and (C := Tryd.checked) (X := fun w _ => laidMetH Tryd.prog laidAll w) (fun _ _ _ hh h => h.of_heap hh) own started (by kernel_rfl) Tryd.func5
    (ChangeSpec.witness_shaped (enc := enc) (C := Tryd.checked) (os := os) (X := fun w _ => laidMetH Tryd.prog laidAll w) false (World.doorLaid Tryd.prog 400 os) #[.slice none 0 0] 8 rfl (World.shaped_of_RefB (by kernel_rfl) (by kernel_rfl)) (by kernel_rfl) (by kernel_rfl) (by kernel_rfl) (door_met os _)) ?_
  intro W base args ds gs before hval0 hW _ _ hL _
  have hval : ∀ (j : Nat) t v, Tryd.f5.params[j]? = some t → args[j]? = some v → Value.okWide Tryd.prog W .any base t v := hval0
  have hW' := hW
  obtain ⟨p, q, hA0, hV0, rfl, hfz, hnd⟩ := hW
  have hA : DataW.TrodAll enc Tryd.prog W 0 (fun _ => true) true Tryd.f5.params.toList args.toList ds p := hA0
  have hV : DataW.TrodVars enc Tryd.prog W (fun _ => true) laidNames gs q := hV0
  rw [Tryd.params5] at hA hval
  obtain ⟨v0, vs0, d0, ds0, p0, q0, hargs, rfl, rfl, h0, r0⟩ := trodAll_cons hA
  obtain ⟨rfl, rfl, rfl⟩ := trodAll_nil r0
  obtain rfl : args = #[v0] := by cases args; simp_all
  have hV1 := hV
  obtain ⟨g0, t0, cs0, f0, e0, s0, g1, t1, cs1, f1, e1, s1, rfl, _⟩ := trodVars_two hV1
  obtain ⟨a0, len0, cap0, rfl⟩ := okWide_slice Tryd.underlying42 (hval 0 42 v0 rfl rfl)
  have k0 := h0
  have lt0 : ∀ x ∈ p0, x.block < W.heap.size := by obtain ⟨m, hm⟩ := k0; exact DataW.trod_lt m _ _ _ hm
  obtain ⟨z0, w0⟩ : ∃ zs, IsRow .u8 W a0 len0 cap0 zs := by
    obtain ⟨fuel, hf⟩ := h0
    rcases open_ints Tryd.underlying42 Tryd.underlying5 (by kernel_rfl) hf with ⟨hcs, _⟩ | ⟨x, l, c, zs, hcs, _, hl, hm, hz, _, hcell, hwz⟩
    · simp [Value.cells] at hcs
      obtain ⟨rfl, rfl, rfl⟩ := hcs
      exact ⟨[], .inl ⟨rfl, rfl, rfl, rfl⟩⟩
    · simp [Value.cells] at hcs
      obtain ⟨rfl, rfl, rfl⟩ := hcs
      exact ⟨zs, .inr ⟨_, rfl, hl, hm, by simpa using hz, hcell, hwz⟩⟩
  clear hA0 hval0 hV1
  refine (walk a0 len0 cap0 z0 W (tabs_of_laid hL) w0).mono fun e W' ⟨he, bel⟩ => ?_
  subst he
  exact ⟨_, rfl, _, _, _, [], _, _, hW', trodAll_mk1 (shut_bool Tryd.underlying4 _), (trodAll_cons_mk (Below.trod laidOut (by kernel_rfl) (of_decide_eq_true (by kernel_rfl)) k0 bel lt0) trodAll_mk0), bel.trodVars laidOut (by kernel_rfl) hV, bel.frame _, fun h => by cases h⟩

theorem over : Rows.fnDoAluRow.holds Tryd.pinned (OpenSpec.ofChange Rows.fnDoAluSpec) :=
  OpenClaim.holds_of_wide 5 Tryd.f5 rfl rfl rfl rfl rfl rfl rfl ⟨rfl, rfl, rfl, rfl, rfl⟩ rfl rfl rfl rfl rfl (by kernel_rfl) Tryd.func5 (by kernel_rfl)
    (of_decide_eq_true (by kernel_rfl)) (by unfold Func.isWrapper; first | (rw [if_pos (by decide +kernel)]; kernel_rfl) | (rw [if_neg (by decide +kernel)]; exact ⟨rfl, rfl⟩))
    (fun os started H enc _ => lifted os started H enc)

/-- THE STATEMENT: the tied card. -/
theorem proved : Rows.FnDoAluCardSaid :=
  Claim7.holds_tied_plain_at .later [] [.wider, .data] true (true, "9dc2e115a97561e3249269897313e148c9c7960c406c87ea32a23191d0e08754") true
    over (fun _ h => by cases h) (by kernel_rfl) (fun _ h => by cases h) fnDoAlu_row_tie rfl ⟨rfl, rfl⟩ (by kernel_rfl) rfl
    (fun f fn hf hfn => by
      obtain rfl : f = 5 := Option.some.inj ((show Tryd.prog.funcNamed "loop.example/harbinger/laws.FnDoAlu" = some 5 by kernel_rfl).symm.trans hf) |>.symm
      obtain rfl : fn = Tryd.f5 := (Option.some.inj (Tryd.func5.symm.trans hfn)).symm
      exact ⟨by kernel_rfl, fun j t ht => by
        rw [Tryd.params5] at ht
        have hm : t ∈ [42] := by simpa using Array.mem_of_getElem? ht
        have hall : ([42].all fun u => !Tryd.prog.wantsStandIn u) = true := by kernel_rfl
        exact (show Tryd.prog.wantsStandIn t = false by simpa using List.all_eq_true.1 hall t hm)⟩)
    (by kernel_rfl)
#print axioms proved
end Go.Proofs.YtbjapncfgancoaaDoor.fnDoAlu
