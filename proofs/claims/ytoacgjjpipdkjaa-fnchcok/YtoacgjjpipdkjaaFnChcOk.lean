/- For every code (any bytes), law FnChcOk returns true and its argument reads as before (no condition). -/
import Derived.Test.YtoacgjjpipdkjaaRows
import Derived.Test.YtoacgjjpipdkjaaK36
import Derived.Test.YtoacgjjpipdkjaaK40
import Derived.Test.YtoacgjjpipdkjaaK44
import Derived.Test.YtoacgjjpipdkjaaK48
import Derived.WalkKit
import Derived.ProofKit
import Derived.OpenShut
import Derived.ShutString
import Derived.ChangeOld
import Derived.Below
namespace Go.Proofs.Ytoacgjjpipdkjaa.fnChcOk
open Go.ChangeShapes Go.WideShapes Go.ChangeAt Go.RowKit
set_option linter.unusedVariables false
set_option linter.unusedSimpArgs false

theorem own : ownKnob Try.prog.godebug = none := by kernel_rfl
theorem laidOut : laidOutB Try.prog = true := by kernel_rfl

def IsRow (k : IntKind) (w : World) (a : Option Addr) (len cap : Nat) (zs : List Int) : Prop :=
  (a = none ∧ len = 0 ∧ cap = 0 ∧ zs = []) ∨
  ∃ x, a = some x ∧ len ≤ cap ∧ cap ≤ maxLen ∧ zs.length = cap ∧ (∀ i, i < zs.length → w.cell? (x.add i) = some (.int k (zs.getD i 0))) ∧ ∀ n ∈ zs, (Lit.int k n).wf = true

set_option maxRecDepth 8000 in
set_option maxHeartbeats 8000000 in
theorem walk (a0 : Option Addr) (len0 cap0 : Nat) (z0 : List Int) (w : World) (w0 : IsRow .u8 w a0 len0 cap0 z0) :
    Calls Try.prog 11 #[.slice a0 len0 cap0] w fun e w' => e = .returned (.bool true) ∧ Below w.heap.size w w' := by
  have hc0 : Code1 w.heap.size w a0 len0 cap0 := by
    rcases w0 with ⟨rfl, rfl, rfl, rfl⟩ | ⟨x, rfl, hl, hm, hz, hcell, hwz⟩
    · exact ⟨Nat.le_refl _, Nat.le_refl _, Nat.zero_le _, .inl rfl, fun _ => rfl⟩
    · exact ⟨Nat.le_refl _, hl, hm, bytes_of_row hl hz hcell hwz, fun h => by cases h⟩
  clear w0 z0
  go_enter Try.func11, Try.ntmps11
  by_cases hl : len0 ≤ 1048576
  · have hl' : ¬ (1048576 : Int) < (len0 : Int) := by omega
    go_wp2_with fail
    refine (DrawChcOk a0 len0 cap0 w hc0).mono ?_
    rintro e u1 ⟨M, X, aM, aL, cM, cL, hf, hcM, rfl, hS, f1⟩
    have FA := Fr.alloc u1 (.cells #[.slice aM M.length cM, .slice aL X.length cL] 30)
    have HS := Lib.hid (hS.fr FA)
    have HF := Lib.hid (Fr.trans f1 FA)
    have HX := Lib.hid (Box2.new u1 (.slice aM M.length cM) (.slice aL X.length cL) 30 _ rfl)
    have FC := Lib.hid hf
    clear hS f1 FA hc0 hf
    dsimp only [caV]
    go_upto_region 4 with fail
    generalize (u1.alloc (.cells #[.slice aM M.length cM, .slice aL X.length cL] 30)) = u2 at *
    generalize u1.heap.size = Z at *
    obtain ⟨b, hb⟩ : ∃ b, b = okC ⟨M, lns X⟩ := ⟨_, rfl⟩
    have hqb : (b != b) = false := by cases b <;> rfl
    have K1 := Lib.hid (fun v (f : Fr u2 v) => hb ▸ impl_ChcOk M X aM aL cM cL v (HS.out.fr f) FC.out hcM)
    have K2 := Lib.hid (fun v (f : Fr u2 v) => hb ▸ spec_ChcOk M X aM aL cM cL v (HS.out.fr f) FC.out)
    have HC := Lib.hid (fun v (f : Fr u2 v) => (show v.cell? ⟨Z, 0, none⟩ = some (.slice aM M.length cM) ∧ v.cell? ⟨Z, 1, none⟩ = some (.slice aL X.length cL) from ⟨(HX.out.fr f).c0, (HX.out.fr f).c1⟩))
    have HB := Lib.hid hb
    obtain ⟨z0, z1⟩ := HC.out u2 (Below.refl _ _)
    clear hb
    go_upto_region 7 with (first
      | (go_at_call 48; refine (K2.out _ F1.out).mono ?_; rintro e v2 ⟨rfl, f2⟩; have F2 := Lib.hid (Fr.trans F1.out f2); obtain ⟨r0, r1⟩ := HC.out v2 F2.out; clear f2)
      | (go_at_call 47; refine (K1.out _ (Below.refl _ _)).mono ?_; rintro e v1 ⟨rfl, f1⟩; have F1 := Lib.hid f1; obtain ⟨p0, p1⟩ := HC.out v1 f1; clear f1))
    clear z0 z1 p0 p1 r0 r1 hqb K1 K2
    cases b
    · go_wp2_with (go_at_call 49; refine (laws_haOk _).mono ?_; rintro e w' ⟨rfl, rfl⟩)
      go_ret
      exact ⟨rfl, Fr.trans HF.out F2.out⟩
    · have HOK := Lib.hid ((okC_iff _).1 HB.out.symm)
      have hx4 : X.length = 4 := by have := HOK.out.Ll; simpa [lns] using this
      obtain ⟨gL, oL, rfl, hgl, hrng⟩ := HS.out.L.at0 (by omega)
      have HR := Lib.hid (fun v (f : Fr u2 v) => range_fr hrng f hgl)
      have HN4 := Lib.hid hx4
      have hOKn : okC ⟨M, lns newL⟩ = true := okC_of (newOk (by simp only [wordsB, HOK.out.M, HOK.out.Ml]; rfl))
      have K20 := Lib.hid (fun v g (r : RoL v g newL) (f : Fr u2 v) => hOKn ▸ impl_ChcOk M newL aM (some ⟨g, 0, none⟩) cM 4 v ⟨(HS.out.fr f).M, rol_src r (newL_src v)⟩ (few_new FC.out.M) hcM)
      clear hrng hgl HB hx4 hOKn
      have hmk := make_lines
      go_wp2_with fail
      go_loopw [5] (fun i wr => ∃ k : Nat, k ≤ 4 ∧ i = .int .i64 k ∧ Fr u2 wr) (fun i _ => 4 - (intOf i).toNat)
      case atStart => exact ⟨0, Nat.zero_le _, rfl, F2.out⟩
      case round =>
        obtain ⟨k, hk, rfl, hf⟩ := hrel
        have HFr := Lib.hid hf
        obtain ⟨z0, z1⟩ := HC.out wr hf
        by_cases hlt : k < 4
        · have hlt' : (k : Int) < 4 := by omega
          have hkX : (k : Int) < (X.length : Int) := by rw [HN4.out]; omega
          have hk0 : (0 : Int) ≤ (k : Int) := Int.natCast_nonneg _
          obtain ⟨d0, d1, d2, d3⟩ := line_at (HR.out wr hf) k (by rw [HN4.out]; exact hlt)
          have HWs := Lib.hid ((HS.out.fr hf).L.wd k (by rw [HN4.out]; exact hlt))
          have HWn := Lib.hid (FC.out.W k (by rw [HN4.out]; exact hlt))
          have hOKU := fun hu => okLn_used (okLns_at HOK.out.L k (by show k < (lns X).length; rw [show (lns X).length = X.length by simp [lns], HN4.out]; exact hlt)) hu
          have hTN := fun (j : Nat) hu (hj : j < 4) => turned_ok HOK.out (k := k) hlt hu hj
          simp only [lns_get] at hOKU hTN
          clear hf
          generalize hl : X.getD k la0 = l at *
          clear hl
          obtain ⟨⟨lu, lp, ld, W⟩, ao, c⟩ := l
          dsimp only at d0 d1 d2 d3 HWs HWn hOKU hTN
          have HOU := Lib.hid hOKU
          have HTN := Lib.hid hTN
          clear hOKU hTN
          go_upto_region 13 with fail
          have FB := Fr.alloc wr (.cells #[.bool lu, .int .i64 lp, .bool ld, .slice ao W.length c] 59)
          have HT := Lib.hid (Box4.new wr (.bool lu) (.int .i64 lp) (.bool ld) (.slice ao W.length c) 59 _ rfl)
          have HF3 := Lib.hid (Fr.trans HFr.out FB)
          have HWs3 := Lib.hid (HWs.out.fr FB)
          clear FB d0 d1 d2 d3 z0 z1 HWs HFr
          generalize (wr.alloc (.cells #[.bool lu, .int .i64 lp, .bool ld, .slice ao W.length c] 59)) = u3 at *
          generalize wr.heap.size = T at *
          cases lu
          · obtain ⟨_, x0, x1, x2, x3, _, _, _, _⟩ := HT.out
            go_wp2_with fail
            go_roundw
            case rel => exact ⟨k + 1, by omega, by go_num, HF3.out⟩
            case measure => simp [intOf]; omega
          · have HU := Lib.hid (HOU.out rfl)
            have HWl := Lib.hid (show W.length = 4 from HU.out.Wl)
            have HCG := Lib.hid (fun v (f : Fr u3 v) => (show v.cell? ⟨Z, 0, none⟩ = some (.slice aM M.length cM) ∧ v.cell? ⟨Z, 1, none⟩ = some (.slice (some ⟨gL, oL, none⟩) X.length cL) from HC.out v (Fr.trans HF3.out f)))
            obtain ⟨z0, z1⟩ := HCG.out u3 (Below.refl _ _)
            obtain ⟨_, x0, x1, x2, x3, _, _, _, _⟩ := HT.out
            have hzl := (HX.out.fr HF3.out).lt
            clear HOU
            go_upto_region 14 with fail
            clear x0 x1 x2 x3
            apply via7 (F := fun Q E gX c6 u7 => AtQ u3 M X aM cM Q gX c6 u7)
            case h1 =>
              intro H0
              have H := Lib.hid H0
              clear H0
              go_region_law (first
                | (rw [if_pos (by simp [Region.wanted])]; refine wp_append_lines _ _ rfl _ rfl X gL oL cL rfl (HR.out _ (Fr.trans HF3.out (by (repeat' first | (with_reducible exact Below.refl _ _) | (with_reducible assumption) | ((with_reducible refine Below.setCell ?_ ?hb _); (case hb => first | exact Nat.le_refl _ | (simp; done) | (simp; omega) | omega)) | ((with_reducible refine Below.alloc ?_ ?hb _); (case hb => first | exact Nat.le_refl _ | (simp; done) | (simp; omega) | omega)) | (with_reducible refine Below.drew ?_))))) (by rw [HN4.out]; decide) (by rw [HN4.out]; decide) ?_; intro gX c6 u6 hgX hro f6; have R6 := Lib.hid hro; have F6 := Lib.hid (show Fr u3 u6 from Fr.trans (by (repeat' first | (with_reducible exact Below.refl _ _) | (with_reducible assumption) | ((with_reducible refine Below.setCell ?_ ?hb _); (case hb => first | exact Nat.le_refl _ | (simp; done) | (simp; omega) | omega)) | ((with_reducible refine Below.alloc ?_ ?hb _); (case hb => first | exact Nat.le_refl _ | (simp; done) | (simp; omega) | omega)) | (with_reducible refine Below.drew ?_))) f6); have hgX3 : u3.heap.size ≤ gX := Nat.le_trans (show Fr u3 _ by (repeat' first | (with_reducible exact Below.refl _ _) | (with_reducible assumption) | ((with_reducible refine Below.setCell ?_ ?hb _); (case hb => first | exact Nat.le_refl _ | (simp; done) | (simp; omega) | omega)) | ((with_reducible refine Below.alloc ?_ ?hb _); (case hb => first | exact Nat.le_refl _ | (simp; done) | (simp; omega) | omega)) | (with_reducible refine Below.drew ?_))).size hgX; have hgw := Lib.hid hgX; obtain ⟨r0, r1⟩ := HCG.out u6 F6.out; have hzl6 : Z < u6.heap.size := Nat.lt_of_lt_of_le hzl F6.out.size; first | (have hbx := (Box2.new (u3.alloc (.cells #[] 59)) (.slice none 0 0) (.slice none 0 0) 30 (u3.heap.size + 1) (by simp)).fr f6; have HBX := Lib.hid hbx; obtain ⟨hql, y0, y1, yq0, yq1⟩ := hbx) | (have hbx := (Box2.new (u3.alloc (.cells #[] 59)) (.slice none 0 0) (.slice none 0 0) 30 (u3.heap.size + 1) (by simp)).fr (Fr.trans (Below.drew (Below.refl _ _)) f6); have HBX := Lib.hid hbx; obtain ⟨hql, y0, y1, yq0, yq1⟩ := hbx) | (have hbx := (Box2.new u3 (.slice none 0 0) (.slice none 0 0) 30 u3.heap.size rfl).fr (Fr.trans (Fr.alloc _ _) f6); have HBX := Lib.hid hbx; obtain ⟨hql, y0, y1, yq0, yq1⟩ := hbx) | (have hbx := (Box2.new u3 (.slice none 0 0) (.slice none 0 0) 30 u3.heap.size rfl).fr (Fr.trans (Below.drew (Fr.alloc _ _)) f6); have HBX := Lib.hid hbx; obtain ⟨hql, y0, y1, yq0, yq1⟩ := hbx) | skip; clear hro f6)
                | fail)
              all_goals
                clear r0 r1
                first
                  | (have HB := atQ_set (M := M) (aM := aM) (cM := cM) (c6 := c6) HBX.out (by omega) (by have := hgw.out; simp at this; omega) R6.out F6.out
                     generalize ((u6.setCell _ _).setCell _ _) = u7 at HB ⊢
                     first
                       | (generalize u3.heap.size + 1 = Q at HB ⊢; generalize u3.heap.size = E; exact H.out Q E gX c6 u7 HB)
                       | (generalize u3.heap.size + 1 = E; generalize u3.heap.size = Q at HB ⊢; exact H.out Q E gX c6 u7 HB))
                  | (have HB := atQ_new (M := M) (aM := aM) (cM := cM) (c6 := c6) hgX3 R6.out F6.out
                     generalize (u6.alloc _) = u7 at HB ⊢
                     generalize u6.heap.size = Q at HB ⊢
                     generalize u3.heap.size = E
                     exact H.out Q E gX c6 u7 HB)
                  | skip
            case h2 =>
              intro Q E gX c6 u7 hA
              have HQ7 := Lib.hid hA.bx
              have R7 := Lib.hid hA.ro
              have F37 := Lib.hid hA.fr
              have nq := hA.nq
              have hQl := hA.hQ
              have hgl3 := hA.hg
              have htl := HT.out.lt
              have hql7 := hA.bx.lt
              have hxl7 := hA.ro.lt
              have s37 := hA.fr.size
              clear hA z0 z1 hzl
              obtain ⟨_, x0, x1, x2, x3, _, _, _, _⟩ := HT.out.fr F37.out
              have hsrc := Lib.hid ((HWs3.out.fr F37.out).fr (Fr.alloc u7 (.cells #[] 3)))
              go_upto_region 16 with (at_builtin; refine wpList_plain rfl fun K hK => wp_append_cp _ _ rfl _ rfl W ao c rfl hsrc.out (by have := HWn.out; omega) ?_; intro ao' c' u8 hr hcp f1; have HRw := Lib.hid hr; have F8 := Lib.hid (Fr.trans (Fr.alloc u7 (.cells #[] 3)) f1); clear hr hcp f1; refine hK _ _ ?_)
              clear x0 x1 x2 x3 hsrc
              rcases HRw.out with ⟨hz, _⟩ | ⟨gW, rfl, hgB, roW, _, _⟩
              · exfalso; have := HWl.out; omega
              have hgW : u7.heap.size ≤ gW := Nat.le_trans (Fr.alloc u7 (.cells #[] 3)).size hgB
              obtain ⟨J, hJ⟩ : ∃ J : Nat, (len0 : Int) % 4 = (J : Int) := ⟨len0 % 4, by omega⟩
              have hJ4 : J < 4 := by omega
              have hn0 : (0 : Int) ≤ (len0 : Int) := by omega
              have hJW : (J : Int) < (W.length : Int) := by have := HWl.out; omega
              have hJ0 : (0 : Int) ≤ (J : Int) := Int.natCast_nonneg _
              have kc := roW.cel J (by have := HWl.out; omega)
              have kf := roW.fro J (by have := HWl.out; omega)
              obtain ⟨zz, hzz⟩ : ∃ zz, zz = W.getD J 0 := ⟨_, rfl⟩
              rw [← hzz] at kc
              obtain ⟨hz0, hz1⟩ : 0 ≤ zz ∧ zz < 65536 := by rw [hzz]; exact ok_get HU.out.W J
              have HZZ := Lib.hid hzz
              have hz2 : (0 : Int) ≤ zz + 1 := by omega
              have RoW := Lib.hid roW
              clear HRw hgB hzz roW
              go_upto_region 17 with fail
              clear kc kf
              have hst : But [gW] u8 (u8.setCell ⟨gW, J, none⟩ (.int .i64 ((zz + 1) % 65536))) := (But.refl _ _).set _ _ _ (.inl (by simp))
              have s8 := F8.out.size
              have RW9 := Lib.hid (RoW.out.set J ((zz + 1) % 65536) (by have := HWl.out; omega))
              have HQ9 := Lib.hid ((HQ7.out.fr F8.out).but hst (by simp; omega))
              have R9 := Lib.hid ((R7.out.fr F8.out).but hst (by simp; omega))
              have HT9 := Lib.hid (((HT.out.fr F37.out).fr F8.out).but hst (by simp; omega))
              have F39 := Lib.hid (fr_but (Fr.trans F37.out F8.out) hst (fun m hm => by simp at hm; omega))
              clear hst RoW HQ7 R7 F8
              generalize (u8.setCell ⟨gW, J, none⟩ (.int .i64 ((zz + 1) % 65536))) = u9 at *
              obtain ⟨_, x0, x1, x2, x3, _, _, _, _⟩ := HT9.out
              obtain ⟨_, q0, q1, _, _⟩ := HQ9.out
              obtain ⟨y0, y1, y2, y3⟩ := R9.out.slot k (by rw [HN4.out]; exact hlt)
              have TH := R9.out.there4 k (by rw [HN4.out]; exact hlt)
              have t0 : u9.frozen? ⟨gX, k * 4, none⟩ = false := by have := (TH 0 (by omega)).2; simpa using this
              have t1 := (TH 1 (by omega)).2
              have t2 := (TH 2 (by omega)).2
              have t3 := (TH 3 (by omega)).2
              clear TH
              go_upto_region 18 with fail
              clear x0 x1 x2 x3 q0 q1 y0 y1 y2 y3 t0 t1 t2 t3
              obtain ⟨y, hy⟩ : ∃ y : La, y = ⟨⟨true, lp, ld, W.set J ((zz + 1) % 65536)⟩, some ⟨gW, 0, none⟩, c'⟩ := ⟨_, rfl⟩
              obtain ⟨v, hv⟩ : ∃ v, u9.setCells gX (k * 4) (lac y) = v := ⟨_, rfl⟩
              have hv' : ((((u9.setCell ⟨gX, k * 4, none⟩ (.bool true)).setCell ⟨gX, k * 4 + 1, none⟩ (.int .i64 lp)).setCell ⟨gX, k * 4 + 2, none⟩ (.bool ld)).setCell ⟨gX, k * 4 + 3, none⟩ (.slice (some ⟨gW, 0, none⟩) W.length c')) = v := by
                rw [← hv, hy]
                simp only [lac, List.length_set]
                rfl
              rw [hv']
              have hst : But [gX] u9 v := by rw [← hv]; exact But.setCells gX (.inl (by simp)) _ _ _ (But.refl _ _)
              have hRv : RoL v gX (X.set k y) := by rw [← hv]; exact R9.out.setL k y (by rw [HN4.out]; exact hlt)
              have hgWX : gW ≠ gX := by omega
              have hWv : WSrc v y := by
                rw [hy]
                exact (RW9.out.but hst (by simp; omega)).src
              have HQv := Lib.hid (HQ9.out.but hst (by simp; omega))
              have HTv := Lib.hid (HT9.out.but hst (by simp; omega))
              have F3v := Lib.hid (fr_but F39.out hst (fun m hm => by simp at hm; omega))
              have hyn : y.n = ⟨true, lp, ld, turnW W J⟩ := by rw [hy, turnW, ← HZZ.out]
              have hOKv : okC ⟨M, lns (X.set k y)⟩ = ld := by rw [lns_set, hyn]; exact HTN.out J rfl hJ4
              have hyl : y.n.W.length ≤ 1048576 := by rw [hyn, turnW, List.length_set]; exact HWn.out
              have HRv := Lib.hid hRv
              have HWv := Lib.hid hWv
              have E18 := fun v' (f : Fr v v') => impl_ChcOk M (X.set k y) aM (some ⟨gX, 0, none⟩) cM c6 v' ⟨(HS.out.fr (Fr.trans HF3.out (Fr.trans F3v.out f))).M, src_set (HRv.out.fr f) (fun i hi => (HS.out.fr (Fr.trans HF3.out (Fr.trans F3v.out f))).L.wd i hi) (HWv.out.fr f)⟩ (few_set FC.out k hyl) hcM
              simp only [hOKv, caV, List.length_set] at E18
              have K18 := Lib.hid E18
              have HCv := Lib.hid (fun v' (f : Fr v v') => (show v'.cell? ⟨Q, 0, none⟩ = some (.slice aM M.length cM) ∧ v'.cell? ⟨Q, 1, none⟩ = some (.slice (some ⟨gX, 0, none⟩) X.length c6) ∧ v'.cell? ⟨T, 2, none⟩ = some (.bool ld) from ⟨(HQv.out.fr f).c0, (HQv.out.fr f).c1, (HTv.out.fr f).c2⟩))
              have hqd : (ld != ld) = false := by cases ld <;> rfl
              obtain ⟨z0, z1, z2⟩ := HCv.out v (Below.refl _ _)
              clear hv' hv hy hst hRv hWv hyn hOKv hyl E18 HRv HWv HQ9 R9 HT9 F39 RW9
              go_region_held3 (fun v' => v'.cell? ⟨Q, 0, none⟩ = some (.slice aM M.length cM) ∧ v'.cell? ⟨Q, 1, none⟩ = some (.slice (some ⟨gX, 0, none⟩) X.length c6) ∧ v'.cell? ⟨T, 2, none⟩ = some (.bool ld))
                (first | (go_keep; done))
                (first
                  | (go_at_call 47; refine (K18.out _ (by (repeat' first | (with_reducible exact Below.refl _ _) | (with_reducible assumption) | ((with_reducible refine Below.setCell ?_ ?hb _); (case hb => first | exact Nat.le_refl _ | (simp; done) | (simp; omega) | omega)) | ((with_reducible refine Below.alloc ?_ ?hb _); (case hb => first | exact Nat.le_refl _ | (simp; done) | (simp; omega) | omega)) | (with_reducible refine Below.drew ?_)))).mono ?_; rintro e w1 ⟨rfl, f1⟩; have F1 := Lib.hid (show Fr v w1 from Fr.trans (by (repeat' first | (with_reducible exact Below.refl _ _) | (with_reducible assumption) | ((with_reducible refine Below.setCell ?_ ?hb _); (case hb => first | exact Nat.le_refl _ | (simp; done) | (simp; omega) | omega)) | ((with_reducible refine Below.alloc ?_ ?hb _); (case hb => first | exact Nat.le_refl _ | (simp; done) | (simp; omega) | omega)) | (with_reducible refine Below.drew ?_))) f1); obtain ⟨p0, p1, p2⟩ := HCv.out w1 F1.out; clear f1))
              go_wp2
              go_roundw
              case rel => exact ⟨k + 1, by omega, by go_num, Fr.trans HF3.out (Fr.trans F3v.out F1.out)⟩
              case measure => simp [intOf]; omega
        · have hge : ¬ (k : Int) < 4 := by omega
          obtain rfl : k = 4 := by omega
          have hzl := (HX.out.fr hf).lt
          clear hf z1
          go_upto_region 20 with fail
          go_region_held3 (fun v => v.cell? ⟨Z, 0, none⟩ = some (.slice aM M.length cM))
            (first | (go_keep; done))
            (first
              | (go_at_call 47; refine (K20.out _ wr.heap.size ((rol_lines wr).fr (by (repeat' first | (with_reducible exact Below.refl _ _) | (with_reducible assumption) | ((with_reducible refine Below.setCell ?_ ?hb _); (case hb => first | exact Nat.le_refl _ | (simp; done) | (simp; omega) | omega)) | ((with_reducible refine Below.alloc ?_ ?hb _); (case hb => first | exact Nat.le_refl _ | (simp; done) | (simp; omega) | omega)) | (with_reducible refine Below.drew ?_)))) (Fr.trans HFr.out (by (repeat' first | (with_reducible exact Below.refl _ _) | (with_reducible assumption) | ((with_reducible refine Below.setCell ?_ ?hb _); (case hb => first | exact Nat.le_refl _ | (simp; done) | (simp; omega) | omega)) | ((with_reducible refine Below.alloc ?_ ?hb _); (case hb => first | exact Nat.le_refl _ | (simp; done) | (simp; omega) | omega)) | (with_reducible refine Below.drew ?_))))).mono ?_; rintro e v1 ⟨rfl, f1⟩; have F1 := Lib.hid (show Fr wr v1 from Fr.trans (by (repeat' first | (with_reducible exact Below.refl _ _) | (with_reducible assumption) | ((with_reducible refine Below.setCell ?_ ?hb _); (case hb => first | exact Nat.le_refl _ | (simp; done) | (simp; omega) | omega)) | ((with_reducible refine Below.alloc ?_ ?hb _); (case hb => first | exact Nat.le_refl _ | (simp; done) | (simp; omega) | omega)) | (with_reducible refine Below.drew ?_))) f1); obtain ⟨p0, _⟩ := HC.out v1 (Fr.trans HFr.out F1.out); clear f1))
          go_wp2
          go_ret
          exact ⟨rfl, Fr.trans HF.out (Fr.trans HFr.out F1.out)⟩
  · have hl' : (1048576 : Int) < (len0 : Int) := by omega
    go_wp2
    go_ret
    exact ⟨rfl, Below.refl _ _⟩

set_option maxRecDepth 100000 in
theorem lifted (os : Os) (started : os.Started) (H : Type) (enc : TypeId × Value → H) :
    ReturnsInHanded {} Try.checked os 11 .any (Rows.fnChcOkSpec.pre6 enc Try.prog Try.f11 Rows.fnChcOkRow.domain false) (Rows.fnChcOkSpec.post enc Try.prog Try.f11 false true false false) := by
  refine returnsInHanded_of_change (C := Try.checked) own started (by kernel_rfl) Try.func11
    (ChangeSpec.witness6 (enc := enc) (C := Try.checked) false ⟨#[], #[.slice none 0 0], []⟩ 8 (by kernel_rfl) (by kernel_rfl) (by kernel_rfl) (by kernel_rfl)) ?_
  intro W base args ds gs before hval0 hW hcnd _
  have hval : ∀ (j : Nat) t v, Try.f11.params[j]? = some t → args[j]? = some v → Value.okWide Try.prog W .any base t v := hval0
  have hW' := hW
  obtain ⟨p, q, hA0, hV, rfl, hfz, hnd⟩ := hW
  have hA : DataW.TrodAll enc Try.prog W 0 (fun _ => true) true Try.f11.params.toList args.toList ds p := hA0
  rw [Try.params11] at hA hval
  obtain ⟨v0, vs0, d0, ds0, p0, q0, hargs, rfl, rfl, h0, r0⟩ := trodAll_cons hA
  obtain ⟨rfl, rfl, rfl⟩ := trodAll_nil r0
  obtain rfl : args = #[v0] := by cases args; simp_all
  obtain ⟨rfl, rfl⟩ := trodVars_none hV
  obtain ⟨a0, len0, cap0, rfl⟩ := okWide_slice Try.underlying53 (hval 0 53 v0 rfl rfl)
  have k0 := h0
  have lt0 : ∀ x ∈ p0, x.block < W.heap.size := by obtain ⟨m, hm⟩ := k0; exact DataW.trod_lt m _ _ _ hm
  obtain ⟨z0, w0⟩ : ∃ zs, IsRow .u8 W a0 len0 cap0 zs := by
    obtain ⟨fuel, hf⟩ := h0
    rcases open_ints Try.underlying53 Try.underlying5 (by kernel_rfl) hf with ⟨hcs, _⟩ | ⟨x, l, c, zs, hcs, _, hl, hm, hz, _, hcell, hwz⟩
    · simp [Value.cells] at hcs
      obtain ⟨rfl, rfl, rfl⟩ := hcs
      exact ⟨[], .inl ⟨rfl, rfl, rfl, rfl⟩⟩
    · simp [Value.cells] at hcs
      obtain ⟨rfl, rfl, rfl⟩ := hcs
      exact ⟨zs, .inr ⟨_, rfl, hl, hm, by simpa using hz, hcell, hwz⟩⟩
  clear hA0 hval0
  refine (walk a0 len0 cap0 z0 W w0).mono fun e W' ⟨he, bel⟩ => ?_
  subst he
  exact ⟨_, rfl, _, _, _, [], _, [], hW', trodAll_mk1 (shut_bool Try.underlying4 _), (trodAll_cons_mk (Below.trod laidOut (by kernel_rfl) (of_decide_eq_true (by kernel_rfl)) k0 bel lt0) trodAll_mk0), rfl, bel.frame _, fun h => by cases h⟩

theorem over : Rows.fnChcOkRow.holds Try.pinned (OpenSpec.ofChange Rows.fnChcOkSpec) :=
  OpenClaim.holds_of_wide 11 Try.f11 rfl rfl rfl rfl rfl rfl rfl ⟨rfl, rfl, rfl, rfl, rfl⟩ rfl rfl rfl rfl rfl (by kernel_rfl) Try.func11 (by kernel_rfl)
    (of_decide_eq_true (by kernel_rfl)) (by unfold Func.isWrapper; first | (rw [if_pos (by decide +kernel)]; kernel_rfl) | (rw [if_neg (by decide +kernel)]; exact ⟨rfl, rfl⟩))
    (fun os started H enc _ => lifted os started H enc)

/-- THE STATEMENT. -/
theorem proved : Rows.FnChcOkSaid := over
#print axioms proved
end Go.Proofs.Ytoacgjjpipdkjaa.fnChcOk
