/- For every code (any bytes), law FnChcRead returns true and its argument reads as before (no condition). -/
import Derived.Test.YtoacgjjpipdkjaaRows
import Derived.Test.YtoacgjjpipdkjaaK36
import Derived.Test.YtoacgjjpipdkjaaK40
import Derived.Test.YtoacgjjpipdkjaaK44
import Derived.WalkKit
import Derived.ProofKit
import Derived.OpenShut
import Derived.ShutString
import Derived.ChangeOld
import Derived.Below
namespace Go.Proofs.Ytoacgjjpipdkjaa.fnChcRead
open Go.ChangeShapes Go.WideShapes Go.ChangeAt Go.RowKit
set_option linter.unusedVariables false
set_option linter.unusedSimpArgs false

theorem own : ownKnob Try.prog.godebug = none := by kernel_rfl
theorem laidOut : laidOutB Try.prog = true := by kernel_rfl

def IsRow (k : IntKind) (w : World) (a : Option Addr) (len cap : Nat) (zs : List Int) : Prop :=
  (a = none ∧ len = 0 ∧ cap = 0 ∧ zs = []) ∨
  ∃ x, a = some x ∧ len ≤ cap ∧ cap ≤ maxLen ∧ zs.length = cap ∧ (∀ i, i < zs.length → w.cell? (x.add i) = some (.int k (zs.getD i 0))) ∧ ∀ n ∈ zs, (Lit.int k n).wf = true

set_option maxRecDepth 8000 in
set_option maxHeartbeats 8000000 in
theorem walk (a0 : Option Addr) (len0 cap0 : Nat) (z0 : List Int) (w : World) (w0 : IsRow .u8 w a0 len0 cap0 z0) :
    Calls Try.prog 13 #[.slice a0 len0 cap0] w fun e w' => e = .returned (.bool true) ∧ Below w.heap.size w w' := by
  have hc0 : Code1 w.heap.size w a0 len0 cap0 := by
    rcases w0 with ⟨rfl, rfl, rfl, rfl⟩ | ⟨x, rfl, hl, hm, hz, hcell, hwz⟩
    · exact ⟨Nat.le_refl _, Nat.le_refl _, Nat.zero_le _, .inl rfl, fun _ => rfl⟩
    · exact ⟨Nat.le_refl _, hl, hm, bytes_of_row hl hz hcell hwz, fun h => by cases h⟩
  clear w0 z0
  go_enter Try.func13, Try.ntmps13
  by_cases hl : len0 ≤ 1048576
  · have hl' : ¬ (1048576 : Int) < (len0 : Int) := by omega
    go_wp2_with fail
    refine (DrawChcRead a0 len0 cap0 w hc0).mono ?_
    rintro e u1 ⟨M, X, aM, aL, cM, cL, at1, hf, hcM, ⟨b0, b1⟩, rfl, hS, f1⟩
    have FA := Fr.alloc u1 (.cells #[.slice aM M.length cM, .slice aL X.length cL] 30)
    have HS := Lib.hid (hS.fr FA)
    have HF := Lib.hid (Fr.trans f1 FA)
    have HX := Lib.hid (Box2.new u1 (.slice aM M.length cM) (.slice aL X.length cL) 30 _ rfl)
    have FC := Lib.hid hf
    clear hS f1 FA hc0 hf
    dsimp only [caV]
    go_wp2_with fail
    generalize (u1.alloc (.cells #[.slice aM M.length cM, .slice aL X.length cL] 30)) = u2 at *
    generalize u1.heap.size = Z at *
    obtain ⟨nn, hnn⟩ : ∃ nn, nn = readN ⟨M, lns X⟩ at1 := ⟨_, rfl⟩
    have hqn : (nn != nn) = false := by simp
    have EI := impl_ChcRead M X aM aL cM cL at1 u2 HS.out FC.out hcM
    rw [← hnn] at EI
    refine EI.mono ?_
    rintro e u3 ⟨M3, X3, a3, d3, c3, k3, rfl, h3, V3, rm3, f3⟩
    clear EI
    have FB := Fr.alloc u3 (.cells #[.slice a3 M3.length c3, .slice d3 X3.length k3] 30)
    have HS3 := Lib.hid (HS.out.fr (Fr.trans f3 FB))
    have HF3 := Lib.hid (Fr.trans HF.out (Fr.trans f3 FB))
    have HX3 := Lib.hid (HX.out.fr (Fr.trans f3 FB))
    have HY3 := Lib.hid (Box2.new u3 (.slice a3 M3.length c3) (.slice d3 X3.length k3) 30 _ rfl)
    have HV := Lib.hid (V3.apart (L := []) (But.of FB) (fun _ _ => by simp))
    have HQ := Lib.hid h3
    have HT := Lib.hid (okA_few (okA_read ⟨M, lns X⟩ at1) h3)
    have FT := Lib.hid HT.out.few
    have hl3 := rm3.le
    have ES := spec_ChcRead M X aM aL cM cL at1 (u3.alloc (.cells #[.slice a3 M3.length c3, .slice d3 X3.length k3] 30)) HS3.out FC.out
    rw [← hnn] at ES
    have HES := Lib.hid ES
    have HNN := Lib.hid hnn
    have zlt := HX.out.lt
    have s23 : u2.heap.size ≤ u3.heap.size := f3.size
    have s34 : u3.heap.size < (u3.alloc (.cells #[.slice a3 M3.length c3, .slice d3 X3.length k3] 30)).heap.size := by simp
    have nzy : ¬ Z = u3.heap.size := by omega
    have nzy2 : ¬ u3.heap.size = Z := fun e => nzy e.symm
    clear h3 V3 rm3 f3 FB HS HF HX ES hnn
    dsimp only [caV]
    obtain ⟨_, x0, x1, _, _⟩ := HX3.out
    go_upto_region 5 with fail
    generalize (u3.alloc (.cells #[.slice a3 M3.length c3, .slice d3 X3.length k3] 30)) = u4 at *
    generalize u3.heap.size = Y at *
    go_wp2_with fail
    clear x0 x1
    refine HES.out.mono ?_
    rintro e u5 ⟨M5, X5, a5, d5, c5, k5, rfl, h5, V5, rm5, f5⟩
    obtain ⟨rfl, hx5⟩ : M3 = M5 ∧ lns X3 = lns X5 := ⟨congrArg Ch.M (HQ.out.symm.trans h5), congrArg Ch.L (HQ.out.symm.trans h5)⟩
    have FP := Fr.alloc u5 (.cells #[.slice a5 M3.length c5, .slice d5 X5.length k5] 30)
    have HS5 := Lib.hid (HS3.out.fr (Fr.trans f5 FP))
    have HF5 := Lib.hid (Fr.trans HF3.out (Fr.trans f5 FP))
    have HX5 := Lib.hid (HX3.out.fr (Fr.trans f5 FP))
    have HY5 := Lib.hid (HY3.out.fr (Fr.trans f5 FP))
    have HV5 := Lib.hid (HV.out.apart (L := []) (But.of (Fr.trans f5 FP)) (fun _ _ => by simp))
    have HW5 := Lib.hid (V5.apart (L := []) (But.of FP) (fun _ _ => by simp))
    have HP5 := Lib.hid (Box2.new u5 (.slice a5 M3.length c5) (.slice d5 X5.length k5) 30 _ rfl)
    have HL5 := Lib.hid hx5
    have s45 : u4.heap.size ≤ u5.heap.size := f5.size
    have s56 : u5.heap.size < (u5.alloc (.cells #[.slice a5 M3.length c5, .slice d5 X5.length k5] 30)).heap.size := by simp
    have ylt := HY3.out.lt
    have nzp : ¬ Z = u5.heap.size := by omega
    have nzp2 : ¬ u5.heap.size = Z := fun e => nzp e.symm
    have nyp : ¬ Y = u5.heap.size := by omega
    have nyp2 : ¬ u5.heap.size = Y := fun e => nyp e.symm
    clear hx5 h5 V5 rm5 f5 FP HS3 HF3 HX3 HY3 HV HES
    dsimp only [caV]
    go_upto_region 6 with fail
    generalize (u5.alloc (.cells #[.slice a5 M3.length c5, .slice d5 X5.length k5] 30)) = u6 at *
    generalize u5.heap.size = P at *
    obtain ⟨_, y0, y1, _, _⟩ := HY5.out
    obtain ⟨_, p0, p1, _, _⟩ := HP5.out
    go_wp2_with fail
    clear y0 y1 p0 p1
    refine (laws_haChc_same M3 X3 X5 a3 d3 a5 d5 c3 k3 c5 k5 u6 HV5.out.src HW5.out.src HL5.out FT.out).mono ?_
    rintro e u6b ⟨rfl, f7⟩
    have HS6 := Lib.hid (HS5.out.fr f7)
    have HF6 := Lib.hid (Fr.trans HF5.out f7)
    have HX6 := Lib.hid (HX5.out.fr f7)
    have HY6 := Lib.hid (HY5.out.fr f7)
    have HV6 := Lib.hid (HV5.out.apart (L := []) (But.of f7) (fun _ _ => by simp))
    have s67 := f7.size
    obtain ⟨_, x0, x1, _, _⟩ := HX6.out
    clear HS5 HF5 HX5 HY5 HV5 HW5 HP5 HL5 f7
    go_wp2_with fail
    clear x0 x1
    refine (spec_ChcOk M X aM aL cM cL _ HS6.out FC.out).mono ?_
    rintro e u7 ⟨rfl, f7⟩
    have HS7 := Lib.hid (HS6.out.fr f7)
    have HF7 := Lib.hid (Fr.trans HF6.out f7)
    have HX7 := Lib.hid (HX6.out.fr f7)
    have HY7 := Lib.hid (HY6.out.fr f7)
    have HV := Lib.hid (HV6.out.apart (L := []) (But.of f7) (fun _ _ => by simp))
    have s7 := f7.size
    clear HS6 HF6 HX6 HY6 HV6 f7
    cases hok : okC ⟨M, lns X⟩
    · skip
      have hz2 := HNN.out
      have hz3 : readN ⟨M, lns X⟩ at1 = -1 := by simp only [readN, hok, Bool.and_false, Bool.false_and]; rfl
      rw [hz3] at hz2
      subst hz2
      clear HNN hz3
      have hz : readA ⟨M, lns X⟩ at1 = ch0 := by simp only [readA, hok, Bool.and_false, Bool.false_and]; rfl
      rw [hz] at HQ
      have hM3 : M3 = [] := (congrArg Ch.M HQ.out).symm
      subst hM3
      clear HQ HV hz
      obtain ⟨_, y0, y1, _, _⟩ := HY7.out
      go_wp2_with (first | (go_at_call 49; refine (laws_haOk _).mono ?_; rintro e w' ⟨rfl, rfl⟩))
      go_ret
      exact ⟨rfl, HF7.out⟩
    · by_cases h0 : at1 < 0
      · have hp : plcB at1 = false := by unfold plcB; simp; omega
        have hz2 := HNN.out
        have hz3 : readN ⟨M, lns X⟩ at1 = -1 := by simp only [readN, hok, hp, Bool.and_false, Bool.false_and]; rfl
        rw [hz3] at hz2
        subst hz2
        clear HNN hz3
        have hz : readA ⟨M, lns X⟩ at1 = ch0 := by simp only [readA, hok, hp, Bool.and_false, Bool.false_and]; rfl
        rw [hz] at HQ
        have hM3 : M3 = [] := (congrArg Ch.M HQ.out).symm
        subst hM3
        clear HQ HV hz
        obtain ⟨_, y0, y1, _, _⟩ := HY7.out
        go_wp2_with (first | (go_at_call 49; refine (laws_haOk _).mono ?_; rintro e w' ⟨rfl, rfl⟩))
        go_ret
        exact ⟨rfl, HF7.out⟩
      · by_cases h1 : 256 ≤ at1
        · have hp : plcB at1 = false := by unfold plcB; simp; omega
          have hz2 := HNN.out
          have hz3 : readN ⟨M, lns X⟩ at1 = -1 := by simp only [readN, hok, hp, Bool.and_false, Bool.false_and]; rfl
          rw [hz3] at hz2
          subst hz2
          clear HNN hz3
          have hz : readA ⟨M, lns X⟩ at1 = ch0 := by simp only [readA, hok, hp, Bool.and_false, Bool.false_and]; rfl
          rw [hz] at HQ
          have hM3 : M3 = [] := (congrArg Ch.M HQ.out).symm
          subst hM3
          clear HQ HV hz
          obtain ⟨_, y0, y1, _, _⟩ := HY7.out
          go_wp2_with (first | (go_at_call 49; refine (laws_haOk _).mono ?_; rintro e w' ⟨rfl, rfl⟩))
          go_ret
          exact ⟨rfl, HF7.out⟩
        · have hp : plcB at1 = true := plcB7 (by omega) (by omega)
          obtain ⟨a, rfl⟩ : ∃ a : Nat, at1 = (a : Int) := ⟨at1.toNat, by omega⟩
          have HOK := (okC_iff _).1 hok
          have hz : readA ⟨M, lns X⟩ (a : Int) = bringC ⟨M, lns X⟩ (a : Int) := by simp only [readA, hok, hp, Bool.and_self, if_true]
          have hq := HQ.out
          rw [hz] at hq
          have hOK3 : OkC ⟨M3, lns X3⟩ := by rw [← hq]; exact bringC_ok HOK hp
          have hok3 : okC ⟨M3, lns X3⟩ = true := (okC_iff _).2 hOK3
          have hall : allA ⟨M, lns X⟩ = allC ⟨M, lns X⟩ := if_pos hok
          have hall3 : allA ⟨M3, lns X3⟩ = allC ⟨M, lns X⟩ := by rw [allA, if_pos hok3, ← hq, allC_bring HOK]
          have hb3 : bringC ⟨M3, lns X3⟩ (a : Int) = ⟨M3, lns X3⟩ := by rw [← hq]; exact bringC_again HOK hp
          have hr3 : readA ⟨M3, lns X3⟩ (a : Int) = ⟨M3, lns X3⟩ := by simp only [readA, hok3, hp, Bool.and_self, if_true]; exact hb3
          have hnn := HNN.out
          have hnn1 : nn = lookC ⟨M3, lns X3⟩ (a : Int) := by rw [hnn]; simp only [readN, hok, hp, Bool.and_self, if_true]; rw [hq]
          have hn3 : readN ⟨M3, lns X3⟩ (a : Int) = nn := by simp only [readN, hok3, hp, Bool.and_self, if_true]; rw [hb3, hnn1]
          have hlk : lookA ⟨M, lns X⟩ (a : Int) = nn := by simp only [lookA, hok, hp, Bool.and_self, if_true]; rw [hnn1, ← hq, bringC_seen HOK]
          have HAL := Lib.hid (allC_len ⟨M, lns X⟩)
          generalize allC ⟨M, lns X⟩ = all at *
          have HK3 := Lib.hid hok3
          have HA3 := Lib.hid hall3
          have HAl := Lib.hid hall
          have HLk := Lib.hid hlk
          have ER := impl_ChcRead M3 X3 a3 d3 c3 k3 (a : Int) u7 HV.out.src FT.out hl3
          rw [hr3, hn3] at ER
          have HER := Lib.hid ER
          obtain ⟨_, y0, y1, _, _⟩ := HY7.out
          have ha0 : (0 : Int) ≤ (a : Int) := Int.natCast_nonneg _
          have ha1 : (a : Int) < 256 := by omega
          clear HNN hnn hnn1 hn3 hr3 hb3 hlk hall hall3 hok3 hOK3 hq hz HOK hok HQ h0 h1 b0 b1 ER hp
          go_wp2_with fail
          clear y0 y1
          refine HER.out.mono ?_
          rintro e u8 ⟨M6, X6, a6, d6, c6, k6, rfl, h6, V6, rm6, f6⟩
          clear HER
          obtain ⟨rfl, hx6⟩ : M3 = M6 ∧ lns X3 = lns X6 := ⟨congrArg Ch.M h6, congrArg Ch.L h6⟩
          have FB6 := Fr.alloc u8 (.cells #[.slice a6 M3.length c6, .slice d6 X6.length k6] 30)
          have HS9 := Lib.hid (HS7.out.fr (Fr.trans f6 FB6))
          have HF9 := Lib.hid (Fr.trans HF7.out (Fr.trans f6 FB6))
          have HX9 := Lib.hid (HX7.out.fr (Fr.trans f6 FB6))
          have HY9 := Lib.hid (HY7.out.fr (Fr.trans f6 FB6))
          have HV9 := Lib.hid (HV.out.apart (L := []) (But.of (Fr.trans f6 FB6)) (fun _ _ => by simp))
          have HW9 := Lib.hid (V6.apart (L := []) (But.of FB6) (fun _ _ => by simp))
          have HQ9 := Lib.hid (Box2.new u8 (.slice a6 M3.length c6) (.slice d6 X6.length k6) 30 _ rfl)
          have HL6 := Lib.hid hx6.symm
          have FT6 := Lib.hid (few_lns HT.out hx6).few
          have zl := HX7.out.lt
          have yl := HY7.out.lt
          have s78 := f6.size
          have nzq : ¬ Z = u8.heap.size := by omega
          have nzq2 : ¬ u8.heap.size = Z := fun e => nzq e.symm
          have nyq : ¬ Y = u8.heap.size := by omega
          have nyq2 : ¬ u8.heap.size = Y := fun e => nyq e.symm
          clear h6 hx6 V6 rm6 f6 FB6 HS7 HF7 HX7 HY7 HV
          dsimp only [caV]
          go_upto_region 11 with fail
          generalize (u8.alloc (.cells #[.slice a6 M3.length c6, .slice d6 X6.length k6] 30)) = u9 at *
          generalize u8.heap.size = Q at *
          have HC := Lib.hid (fun v (f : Fr u9 v) => (show v.cell? ⟨Z, 0, none⟩ = some (.slice aM M.length cM) ∧ v.cell? ⟨Z, 1, none⟩ = some (.slice aL X.length cL) ∧ v.cell? ⟨Y, 0, none⟩ = some (.slice a3 M3.length c3) ∧ v.cell? ⟨Y, 1, none⟩ = some (.slice d3 X3.length k3) ∧ v.cell? ⟨Q, 0, none⟩ = some (.slice a6 M3.length c6) ∧ v.cell? ⟨Q, 1, none⟩ = some (.slice d6 X6.length k6) from ⟨(HX9.out.fr f).c0, (HX9.out.fr f).c1, (HY9.out.fr f).c0, (HY9.out.fr f).c1, (HQ9.out.fr f).c0, (HQ9.out.fr f).c1⟩))
          have K1 := Lib.hid (fun v (f : Fr u9 v) => HK3.out ▸ impl_ChcOk M3 X3 a3 d3 c3 k3 v (HV9.out.src.fr f) FT.out hl3)
          have K2 := Lib.hid (fun v (f : Fr u9 v) => HA3.out ▸ impl_ChcAll M3 X3 a3 d3 c3 k3 v (HV9.out.src.fr f) FT.out hl3)
          have K3 := Lib.hid (fun v (f : Fr u9 v) => HAl.out ▸ impl_ChcAll M X aM aL cM cL v (HS9.out.fr f) FC.out hcM)
          have K5 := Lib.hid (fun v (f : Fr u9 v) => HLk.out ▸ impl_ChcLook M X aM aL cM cL (a : Int) v (HS9.out.fr f) FC.out hcM)
          have K6 := Lib.hid (fun v (f : Fr u9 v) => laws_haChc_same M3 X6 X3 a6 d6 a3 d3 c6 k6 c3 k3 v (HW9.out.src.fr f) (HV9.out.src.fr f) HL6.out FT6.out)
          obtain ⟨z0, z1, z2, z3, z4, z5⟩ := HC.out u9 (Below.refl _ _)
          clear HK3 HA3 HAl HLk
          go_region_held3 (fun v => v.cell? ⟨Z, 0, none⟩ = some (.slice aM M.length cM) ∧ v.cell? ⟨Z, 1, none⟩ = some (.slice aL X.length cL) ∧ v.cell? ⟨Y, 0, none⟩ = some (.slice a3 M3.length c3) ∧ v.cell? ⟨Y, 1, none⟩ = some (.slice d3 X3.length k3) ∧ v.cell? ⟨Q, 0, none⟩ = some (.slice a6 M3.length c6) ∧ v.cell? ⟨Q, 1, none⟩ = some (.slice d6 X6.length k6))
            (first | (go_keep; done))
            (first
              | (go_at_call 47; refine (K1.out _ (Below.drew (Below.refl _ _))).mono ?_; rintro e v1 ⟨rfl, f1⟩; have F1 := Lib.hid (show Fr u9 v1 from Fr.trans (Below.drew (Below.refl _ _)) f1); obtain ⟨aa0, aa1, aa2, aa3, aa4, aa5⟩ := HC.out v1 F1.out; clear f1)
              | (go_at_call 32; refine (K2.out _ F1.out).mono ?_; rintro e v2 ⟨ax, cx, rfl, hR2, f2⟩; have F2 := Lib.hid (Fr.trans F1.out f2); have R2 := Lib.hid hR2.vc.src; obtain ⟨ab0, ab1, ab2, ab3, ab4, ab5⟩ := HC.out v2 F2.out; clear f2 hR2)
              | (go_at_call 32; refine (K3.out _ F2.out).mono ?_; rintro e v3 ⟨ay, cy, rfl, hR3, f3⟩; have F3 := Lib.hid (Fr.trans F2.out f3); have R3 := Lib.hid hR3.vc.src; have R2b := Lib.hid (R2.out.fr f3); obtain ⟨ac0, ac1, ac2, ac3, ac4, ac5⟩ := HC.out v3 F3.out; clear f3 hR3)
              | (go_at_call 54; refine (laws_haIntso v3 all.length (fun i => all.getD i 0) ax ay cx cy R2b.out R3.out (by rw [HAL.out]; omega)).mono ?_; rintro e v4 ⟨rfl, m, hm⟩; have F4 := Lib.hid (show Fr u9 v4 by rw [← hm]; exact fr_drewN F3.out _); obtain ⟨ad0, ad1, ad2, ad3, ad4, ad5⟩ := HC.out v4 F4.out; clear hm)
              | (go_at_call 21; refine (K5.out _ F4.out).mono ?_; rintro e v5 ⟨rfl, f5⟩; have F5 := Lib.hid (Fr.trans F4.out f5); obtain ⟨ae0, ae1, ae2, ae3, ae4, ae5⟩ := HC.out v5 F5.out; clear f5)
              | (go_at_call 52; refine (K6.out _ F5.out).mono ?_; rintro e v6 ⟨rfl, f6⟩; have F6 := Lib.hid (Fr.trans F5.out f6); obtain ⟨af0, af1, af2, af3, af4, af5⟩ := HC.out v6 F6.out; clear f6))
          go_wp2
          go_ret
          exact ⟨rfl, Fr.trans HF9.out F6.out⟩
  · have hl' : (1048576 : Int) < (len0 : Int) := by omega
    go_wp2
    go_ret
    exact ⟨rfl, Below.refl _ _⟩

set_option maxRecDepth 100000 in
theorem lifted (os : Os) (started : os.Started) (H : Type) (enc : TypeId × Value → H) :
    ReturnsInHanded {} Try.checked os 13 .any (Rows.fnChcReadSpec.pre6 enc Try.prog Try.f13 Rows.fnChcReadRow.domain false) (Rows.fnChcReadSpec.post enc Try.prog Try.f13 false true false false) := by
  refine returnsInHanded_of_change (C := Try.checked) own started (by kernel_rfl) Try.func13
    (ChangeSpec.witness6 (enc := enc) (C := Try.checked) false ⟨#[], #[.slice none 0 0], []⟩ 8 (by kernel_rfl) (by kernel_rfl) (by kernel_rfl) (by kernel_rfl)) ?_
  intro W base args ds gs before hval0 hW hcnd _
  have hval : ∀ (j : Nat) t v, Try.f13.params[j]? = some t → args[j]? = some v → Value.okWide Try.prog W .any base t v := hval0
  have hW' := hW
  obtain ⟨p, q, hA0, hV, rfl, hfz, hnd⟩ := hW
  have hA : DataW.TrodAll enc Try.prog W 0 (fun _ => true) true Try.f13.params.toList args.toList ds p := hA0
  rw [Try.params13] at hA hval
  obtain ⟨v0, vs0, d0, ds0, p0, q0, hargs, rfl, rfl, h0, r0⟩ := trodAll_cons hA
  obtain ⟨rfl, rfl, rfl⟩ := trodAll_nil r0
  obtain rfl : args = #[v0] := by cases args; simp_all
  obtain ⟨rfl, rfl⟩ := trodVars_none hV
  obtain ⟨a0, len0, cap0, rfl⟩ := okWide_slice Try.underlying53 (hval 0 53 v0 rfl rfl)
  have k0 := h0
  have lt0 : ∀ x ∈ p0, x.block < W.heap.size := by obtain ⟨m, hm⟩ := k0; exact DataW.trod_lt m _ _ _ hm
  obtain ⟨z0, w0⟩ : ∃ zs, IsRow .u8 W a0 len0 cap0 zs := by
    obtain ⟨fuel, hf⟩ := h0
    rcases open_ints Try.underlying53 Try.underlying5 (by kernel_rfl) hf with ⟨hcs, _⟩ | ⟨x, l, c, zs, hcs, _, hl, hm, hz, _, hcell, hwz⟩
    · simp [Value.cells] at hcs
      obtain ⟨rfl, rfl, rfl⟩ := hcs
      exact ⟨[], .inl ⟨rfl, rfl, rfl, rfl⟩⟩
    · simp [Value.cells] at hcs
      obtain ⟨rfl, rfl, rfl⟩ := hcs
      exact ⟨zs, .inr ⟨_, rfl, hl, hm, by simpa using hz, hcell, hwz⟩⟩
  clear hA0 hval0
  refine (walk a0 len0 cap0 z0 W w0).mono fun e W' ⟨he, bel⟩ => ?_
  subst he
  exact ⟨_, rfl, _, _, _, [], _, [], hW', trodAll_mk1 (shut_bool Try.underlying4 _), (trodAll_cons_mk (Below.trod laidOut (by kernel_rfl) (of_decide_eq_true (by kernel_rfl)) k0 bel lt0) trodAll_mk0), rfl, bel.frame _, fun h => by cases h⟩

theorem over : Rows.fnChcReadRow.holds Try.pinned (OpenSpec.ofChange Rows.fnChcReadSpec) :=
  OpenClaim.holds_of_wide 13 Try.f13 rfl rfl rfl rfl rfl rfl rfl ⟨rfl, rfl, rfl, rfl, rfl⟩ rfl rfl rfl rfl rfl (by kernel_rfl) Try.func13 (by kernel_rfl)
    (of_decide_eq_true (by kernel_rfl)) (by unfold Func.isWrapper; first | (rw [if_pos (by decide +kernel)]; kernel_rfl) | (rw [if_neg (by decide +kernel)]; exact ⟨rfl, rfl⟩))
    (fun os started H enc _ => lifted os started H enc)

/-- THE STATEMENT. -/
theorem proved : Rows.FnChcReadSaid := over
#print axioms proved
end Go.Proofs.Ytoacgjjpipdkjaa.fnChcRead
