/- For every two codes (any bytes), law FnChcOrder returns true and its arguments read as before (no condition). -/
import Derived.Test.YtoacgjjpipdkjaaRows
import Derived.Test.YtoacgjjpipdkjaaK36
import Derived.Test.YtoacgjjpipdkjaaK40
import Derived.Test.YtoacgjjpipdkjaaK44
import Derived.WalkKit
import Derived.ProofKit
import Derived.OpenShut
import Derived.ShutString
import Derived.ChangeOld
import Derived.Below
namespace Go.Proofs.Ytoacgjjpipdkjaa.fnChcOrder
open Go.ChangeShapes Go.WideShapes Go.ChangeAt Go.RowKit
set_option linter.unusedVariables false
set_option linter.unusedSimpArgs false

theorem own : ownKnob Try.prog.godebug = none := by kernel_rfl
theorem laidOut : laidOutB Try.prog = true := by kernel_rfl

def IsRow (k : IntKind) (w : World) (a : Option Addr) (len cap : Nat) (zs : List Int) : Prop :=
  (a = none ∧ len = 0 ∧ cap = 0 ∧ zs = []) ∨
  ∃ x, a = some x ∧ len ≤ cap ∧ cap ≤ maxLen ∧ zs.length = cap ∧ (∀ i, i < zs.length → w.cell? (x.add i) = some (.int k (zs.getD i 0))) ∧ ∀ n ∈ zs, (Lit.int k n).wf = true

set_option maxRecDepth 8000 in
set_option maxHeartbeats 8000000 in
theorem walk (a0 : Option Addr) (len0 cap0 : Nat) (z0 : List Int) (a1 : Option Addr) (len1 cap1 : Nat) (z1 : List Int) (w : World) (w0 : IsRow .u8 w a0 len0 cap0 z0) (w1 : IsRow .u8 w a1 len1 cap1 z1) :
    Calls Try.prog 17 #[.slice a0 len0 cap0, .slice a1 len1 cap1] w fun e w' => e = .returned (.bool true) ∧ Below w.heap.size w w' := by
  have hc0 : Code1 w.heap.size w a0 len0 cap0 := by
    rcases w0 with ⟨rfl, rfl, rfl, rfl⟩ | ⟨x, rfl, hl, hm, hz, hcell, hwz⟩
    · exact ⟨Nat.le_refl _, Nat.le_refl _, Nat.zero_le _, .inl rfl, fun _ => rfl⟩
    · exact ⟨Nat.le_refl _, hl, hm, bytes_of_row hl hz hcell hwz, fun h => by cases h⟩
  clear w0 z0
  have hc1 : Code1 w.heap.size w a1 len1 cap1 := by
    rcases w1 with ⟨rfl, rfl, rfl, rfl⟩ | ⟨x, rfl, hl, hm, hz, hcell, hwz⟩
    · exact ⟨Nat.le_refl _, Nat.le_refl _, Nat.zero_le _, .inl rfl, fun _ => rfl⟩
    · exact ⟨Nat.le_refl _, hl, hm, bytes_of_row hl hz hcell hwz, fun h => by cases h⟩
  clear w1 z1
  go_enter Try.func17, Try.ntmps17
  by_cases hl0 : len0 ≤ 1048576
  · have hl0' : ¬ (1048576 : Int) < (len0 : Int) := by omega
    by_cases hl1 : len1 ≤ 1048576
    · have hl1' : ¬ (1048576 : Int) < (len1 : Int) := by omega
      go_wp2_with fail
      refine (DrawChcWrite a0 len0 cap0 w hc0).mono ?_
      rintro e u1 ⟨M, X, aM, aL, cM, cL, at1, n1, hf, hcM, ⟨b0, b1⟩, rfl, hS, f1⟩
      have FA := Fr.trans f1 (Fr.alloc u1 (.cells #[.slice aM M.length cM, .slice aL X.length cL] 30))
      have HS2 := Lib.hid (hS.fr (Fr.alloc u1 (.cells #[.slice aM M.length cM, .slice aL X.length cL] 30)))
      have HF2 := Lib.hid FA
      have HX2 := Lib.hid (Box2.new u1 (.slice aM M.length cM) (.slice aL X.length cL) 30 _ rfl)
      have HC := Lib.hid (Code1.up hc1 FA)
      have FC := Lib.hid hf
      clear hS f1 FA hc0 hc1 hf
      dsimp only [caV]
      go_wp2_with fail
      generalize (u1.alloc (.cells #[.slice aM M.length cM, .slice aL X.length cL] 30)) = u2 at *
      generalize u1.heap.size = Z at *
      refine (DrawChcWrite a1 len1 cap1 u2 HC.out).mono ?_
      rintro e u3 ⟨M', X', aM', aL', cM', cL', o1, m1, hf', hcM', ⟨b0', b1'⟩, rfl, hS', f3⟩
      have FB := Fr.trans f3 (Fr.alloc u3 (.cells #[.slice aM' M'.length cM', .slice aL' X'.length cL'] 30))
      have HS4 := Lib.hid (HS2.out.fr FB)
      have HF4 := Lib.hid (Fr.trans HF2.out FB)
      have HX4 := Lib.hid (HX2.out.fr FB)
      clear HS2 HF2 HX2
      have u3s := f3.size
      have zlt := HX4.out.lt
      clear hS' f3 FB HC hf' hcM'
      dsimp only [caV]
      go_upto_region 5 with fail
      generalize (u3.alloc (.cells #[.slice aM' M'.length cM', .slice aL' X'.length cL'] 30)) = u4 at *
      generalize u3.heap.size = P at *
      obtain ⟨_, x0, x1, _, _⟩ := HX4.out
      go_wp2_with fail
      clear x0 x1
      refine (impl_ChcWrite M X aM aL cM cL at1 n1 u4 HS4.out FC.out hcM).mono ?_
      rintro e u5 ⟨M3, X3, a3, d3, c3, k3, rfl, h3, V3, rm3, f5⟩
      have FB := Fr.alloc u5 (.cells #[.slice a3 M3.length c3, .slice d3 X3.length k3] 30)
      have u5s := f5.size
      have nzy : ¬ Z = u5.heap.size := by omega
      have nzy2 : ¬ u5.heap.size = Z := fun e => nzy e.symm
      have FW := Fr.trans f5 FB
      have HS6 := Lib.hid (HS4.out.fr FW)
      have HF6 := Lib.hid (Fr.trans HF4.out FW)
      have HX6 := Lib.hid (HX4.out.fr FW)
      clear HS4 HF4 HX4
      have HY6 := Lib.hid (Box2.new u5 (.slice a3 M3.length c3) (.slice d3 X3.length k3) 30 _ rfl)
      have HV6 := Lib.hid (V3.apart (L := []) (But.of FB) (fun _ _ => by simp))
      have HQ := Lib.hid h3
      have HT3 := okA_few (okA_write ⟨M, lns X⟩ at1 n1) h3
      have FT := Lib.hid HT3.few
      have hl3 := rm3.le
      clear h3 V3 rm3 f5 FB FW HT3
      dsimp only [caV]
      go_upto_region 6 with fail
      generalize (u5.alloc (.cells #[.slice a3 M3.length c3, .slice d3 X3.length k3] 30)) = u6 at *
      generalize u5.heap.size = Y at *
      obtain ⟨_, x0, x1, _, _⟩ := HX6.out
      obtain ⟨_, y0, y1, _, _⟩ := HY6.out
      have KT := Lib.hid (fun v (f : Fr u6 v) => spec_ChcWrite M X aM aL cM cL at1 n1 v (HS6.out.fr f) FC.out)
      go_region_held3 (fun v => v.cell? ⟨Z, 0, none⟩ = some (.slice aM M.length cM) ∧ v.cell? ⟨Z, 1, none⟩ = some (.slice aL X.length cL) ∧ v.cell? ⟨Y, 0, none⟩ = some (.slice a3 M3.length c3) ∧ v.cell? ⟨Y, 1, none⟩ = some (.slice d3 X3.length k3))
        (first | (go_keep; done))
        (first
          | (go_at_call 52; refine (laws_haChc_same M3 X3 X5 a3 d3 a5 d5 c3 k3 c5 k5 u7 (HV6.out.src.fr F5.out) HV5.out.src HX5.out FT.out).mono ?_; rintro e u8 ⟨rfl, f6⟩; have F6 := Lib.hid f6; have XT2 := Lib.hid (HX6.out.fr (Fr.trans F5.out f6)); have AT2 := Lib.hid (HY6.out.fr (Fr.trans F5.out f6)); obtain ⟨_, i0, i1, _, _⟩ := XT2.out; obtain ⟨_, j0, j1, _, _⟩ := AT2.out; clear f6)
          | (go_at_call 27; refine (KT.out _ (Below.drew (Below.refl _ _))).mono ?_; rintro e u7 ⟨M5, X5, a5, d5, c5, k5, rfl, h5, V5, rm5, f5⟩; obtain ⟨rfl, hx5⟩ : M3 = M5 ∧ lns X3 = lns X5 := ⟨congrArg Ch.M (HQ.out.symm.trans h5), congrArg Ch.L (HQ.out.symm.trans h5)⟩; have F5 := Lib.hid (show Fr u6 u7 from Fr.trans (Below.drew (Below.refl _ _)) f5); have HX5 := Lib.hid hx5; have HV5 := Lib.hid V5; have XT := Lib.hid (HX6.out.fr F5.out); have AT := Lib.hid (HY6.out.fr F5.out); obtain ⟨_, e0, e1, _, _⟩ := XT.out; obtain ⟨_, p0, p1, _, _⟩ := AT.out; clear hx5 h5 V5 rm5 f5; unfold caV))
      clear KT XT AT XT2 AT2 e0 e1 p0 p1 i0 i1 j0 j1 x0 x1 y0 y1
      have FW := Fr.trans F5.out F6.out
      have HS8 := Lib.hid (HS6.out.fr FW)
      have HF8 := Lib.hid (Fr.trans HF6.out FW)
      have HX8 := Lib.hid (HX6.out.fr FW)
      have HY8 := Lib.hid (HY6.out.fr FW)
      have HV8 := Lib.hid (HV6.out.apart (L := []) (But.of FW) (fun _ _ => by simp))
      clear HS6 HF6 HX6 HY6 HV6
      have s8 := FW.size
      clear FW HV5 HX5 F5 F6
      have hwo := fun u => spec_WrdOk m1 u
      obtain ⟨_, y0, y1, _, _⟩ := HY8.out
      rcases writeA_cases ⟨M, lns X⟩ at1 n1 with ⟨HOK, hp, hn⟩ | hz
      · skip
        have hq := HQ.out
        rw [writeA_eq HOK hp hn] at hq
        have hok3 := writeC_ok HOK hp hn
        have hok3' := hok3
        rw [hq] at hok3'
        have hm3 : ¬ (M3.length : Int) = 0 := by have := hok3'.Ml; simp only at this; omega
        have hmb : ((M3.length : Int) == 0) = false := beq_false_of_ne hm3
        by_cases h0 : o1 < 0
        · skip
          clear HQ HV8
          go_wp2_with (first | (go_at_call 57; refine (hwo _).mono ?_; rintro e w' ⟨rfl, rfl⟩) | (go_at_call 49; refine (laws_haOk _).mono ?_; rintro e w' ⟨rfl, rfl⟩))
          go_ret
          exact ⟨rfl, HF8.out⟩

        · by_cases h1 : 256 ≤ o1
          · skip
            clear HQ HV8
            go_wp2_with (first | (go_at_call 57; refine (hwo _).mono ?_; rintro e w' ⟨rfl, rfl⟩) | (go_at_call 49; refine (laws_haOk _).mono ?_; rintro e w' ⟨rfl, rfl⟩))
            go_ret
            exact ⟨rfl, HF8.out⟩

          · cases hm : okB m1
            · rw [hm] at hwo
              clear HQ HV8
              go_wp2_with (first | (go_at_call 57; refine (hwo _).mono ?_; rintro e w' ⟨rfl, rfl⟩) | (go_at_call 49; refine (laws_haOk _).mono ?_; rintro e w' ⟨rfl, rfl⟩))
              go_ret
              exact ⟨rfl, HF8.out⟩

            · rw [hm] at hwo
              obtain ⟨a, rfl⟩ : ∃ a : Nat, at1 = (a : Int) := ⟨at1.toNat, by have := ((plcB_iff _).1 hp).1; omega⟩
              obtain ⟨b, rfl⟩ : ∃ b : Nat, o1 = (b : Int) := ⟨o1.toNat, by omega⟩
              have hpb : plcB (b : Int) = true := plcB_nat (by omega)
              have ha0 : (0 : Int) ≤ (a : Int) := Int.natCast_nonneg _
              have hb0 : (0 : Int) ≤ (b : Int) := Int.natCast_nonneg _
              have hb1 : (b : Int) < 256 := by omega
              have G := Lib.hid (And.intro HOK (And.intro hp (And.intro hn (And.intro hpb (And.intro hm (And.intro hq (And.intro hok3 hok3')))))))
              have E6 := impl_ChcWrite M3 X3 a3 d3 c3 k3 (b : Int) m1
              rw [writeA_eq hok3' hpb hm] at E6
              have HE6 := Lib.hid E6
              have E7 := impl_ChcWrite M X aM aL cM cL (b : Int) m1
              rw [writeA_eq HOK hpb hm] at E7
              have HE7 := Lib.hid E7
              clear HOK hp hn hpb hm hq hok3 hok3' HQ E6 E7
              go_upto_region 10 with (first | (go_at_call 57; refine (hwo _).mono ?_; rintro e w' ⟨rfl, rfl⟩))
              clear hm3 hmb hwo h0 h1
              go_wp2_with fail
              clear y0 y1
              refine (HE6.out _ HV8.out.src FT.out hl3).mono ?_
              rintro e u9 ⟨M6, X6, a6, d6, c6, k6, rfl, h6, V6, rm6, f9⟩
              have FB := Fr.alloc u9 (.cells #[.slice a6 M6.length c6, .slice d6 X6.length k6] 30)
              have u9s := f9.size
              have zlt := HX8.out.lt
              have ylt := HY8.out.lt
              have nzq : ¬ Z = u9.heap.size := by omega
              have nzq2 : ¬ u9.heap.size = Z := fun e => nzq e.symm
              have nyq : ¬ Y = u9.heap.size := by omega
              have nyq2 : ¬ u9.heap.size = Y := fun e => nyq e.symm
              have FW := Fr.trans f9 FB
              have HS10 := Lib.hid (HS8.out.fr FW)
              have HF10 := Lib.hid (Fr.trans HF8.out FW)
              have HX10 := Lib.hid (HX8.out.fr FW)
              clear HS8 HF8 HX8
              have HQb10 := Lib.hid (Box2.new u9 (.slice a6 M6.length c6) (.slice d6 X6.length k6) 30 _ rfl)
              have HU10 := Lib.hid (V6.apart (L := []) (But.of FB) (fun _ _ => by simp))
              have HH6 := Lib.hid h6
              obtain ⟨gOK, gp, gn, gpb, gm, gq, gk, gk'⟩ := G.out
              have hok6 : OkC ⟨M6, lns X6⟩ := by rw [← h6]; exact writeC_ok gk' gpb gm
              have FU := Lib.hid (okA_few (.inl hok6) rfl).few
              have hl6 := rm6.le
              have HL6 := Lib.hid (show ∀ i : Nat, plcB (i : Int) = true → lookA ⟨M6, lns X6⟩ (i : Int) = lookC (writeC ⟨M3, lns X3⟩ (b : Int) m1) (i : Int) from fun i hi => by rw [lookA_eq hok6 hi, h6])
              have HA6 := Lib.hid (show allA ⟨M6, lns X6⟩ = allC (writeC (writeC ⟨M, lns X⟩ (a : Int) n1) (b : Int) m1) by rw [allA_eq hok6, ← h6, gq])
              clear h6 V6 rm6 f9 FB FW gOK gp gn gpb gm gq gk gk' hok6 HE6 HV8 HY8
              dsimp only [caV]
              go_upto_region 11 with fail
              generalize (u9.alloc (.cells #[.slice a6 M6.length c6, .slice d6 X6.length k6] 30)) = u10 at *
              generalize u9.heap.size = Q at *
              by_cases hab : a = b
              · subst hab
                obtain ⟨gOK, gp, gn, gpb, gm, gq, gk, gk'⟩ := G.out
                have E := impl_ChcLook M6 X6 a6 d6 c6 k6 (a : Int) u10 HU10.out.src FU.out hl6
                rw [HL6.out a gp, write_look gk' a m1 gp] at E
                have HE := Lib.hid E
                obtain ⟨_, q0, q1, _, _⟩ := HQb10.out
                clear E gOK gp gn gpb gm gq gk gk' HE7
                go_wp2_with fail
                clear q0 q1
                refine HE.out.mono ?_
                rintro e u11 ⟨rfl, f11⟩
                have HF11 := Lib.hid (Fr.trans HF10.out f11)
                clear f11 HE
                go_wp2
                go_ret
                exact ⟨rfl, HF11.out⟩
              · have habi : ¬ (a : Int) = (b : Int) := by omega
                have habb : ((a : Int) == (b : Int)) = false := beq_false_of_ne habi
                obtain ⟨_, x0, x1, _, _⟩ := HX10.out
                go_upto_region 13 with fail
                clear habi habb
                go_wp2_with fail
                clear x0 x1
                refine (HE7.out _ HS10.out FC.out hcM).mono ?_
                rintro e u11 ⟨M7, X7, a7, d7, c7, k7, rfl, h7, V7, rm7, f11⟩
                clear HE7
                obtain ⟨gOK, gp, gn, gpb, gm, gq, gk, gk'⟩ := G.out
                have hok7 : OkC ⟨M7, lns X7⟩ := by rw [← h7]; exact writeC_ok gOK gpb gm
                have FY := Lib.hid (okA_few (.inl hok7) rfl).few
                have E8 := impl_ChcWrite M7 X7 a7 d7 c7 k7 (a : Int) n1 u11 V7.src FY.out rm7.le
                rw [writeA_eq hok7 gp gn, ← h7] at E8
                have HE8 := Lib.hid E8
                have HS11 := Lib.hid (HS10.out.fr f11)
                have HF11 := Lib.hid (Fr.trans HF10.out f11)
                have HX11 := Lib.hid (HX10.out.fr f11)
                have HQb11 := Lib.hid (HQb10.out.fr f11)
                have HU11 := Lib.hid (HU10.out.apart (L := []) (But.of f11) (fun _ _ => by simp))
                clear HS10 HF10 HX10 HQb10 HU10
                clear E8 h7 hok7 V7 rm7 f11 gOK gp gn gpb gm gq gk gk' FY
                go_wp2_with fail
                refine HE8.out.mono ?_
                rintro e u12 ⟨M8, X8, a8, d8, c8, k8, rfl, h8, V8, rm8, f12⟩
                clear HE8
                obtain ⟨gOK, gp, gn, gpb, gm, gq, gk, gk'⟩ := G.out
                have hok8 : OkC ⟨M8, lns X8⟩ := by rw [← h8]; exact writeC_ok (writeC_ok gOK gpb gm) gp gn
                have F8 := Lib.hid (okA_few (.inl hok8) rfl).few
                have hl8 := rm8.le
                have HA8 := Lib.hid (show allA ⟨M8, lns X8⟩ = allC (writeC (writeC ⟨M, lns X⟩ (a : Int) n1) (b : Int) m1) by rw [allA_eq hok8, ← h8, ← write_two gOK n1 m1 gp gpb gn gm hab])
                have FB := Fr.alloc u12 (.cells #[.slice a8 M8.length c8, .slice d8 X8.length k8] 30)
                have u12s := f12.size
                have qlt := HQb11.out.lt
                have nqr : ¬ Q = u12.heap.size := by omega
                have nqr2 : ¬ u12.heap.size = Q := fun e => nqr e.symm
                have FW := Fr.trans f12 FB
                have HF13 := Lib.hid (Fr.trans HF11.out FW)
                have HQb13 := Lib.hid (HQb11.out.fr FW)
                have HU13 := Lib.hid (HU11.out.apart (L := []) (But.of FW) (fun _ _ => by simp))
                clear HF11 HQb11 HU11
                have HR13 := Lib.hid (Box2.new u12 (.slice a8 M8.length c8) (.slice d8 X8.length k8) 30 _ rfl)
                have HV13 := Lib.hid (V8.apart (L := []) (But.of FB) (fun _ _ => by simp))
                have HLa := Lib.hid (show lookA ⟨M6, lns X6⟩ (a : Int) = n1 by rw [HL6.out a gp, ← gq]; exact write_look2 gOK n1 m1 gp gpb gn hab)
                have HLb := Lib.hid (show lookA ⟨M6, lns X6⟩ (b : Int) = m1 by rw [HL6.out b gpb, write_look gk' b m1 gpb])
                clear h8 hok8 V8 rm8 f12 FB FW gOK gp gn gpb gm gq gk gk' HS11 HX11 HL6 HH6 G
                dsimp only [caV]
                go_upto_region 14 with fail
                generalize (u12.alloc (.cells #[.slice a8 M8.length c8, .slice d8 X8.length k8] 30)) = u13 at *
                generalize u12.heap.size = R at *
                have HAL := Lib.hid (allC_len (writeC (writeC ⟨M, lns X⟩ (a : Int) n1) (b : Int) m1))
                generalize allC (writeC (writeC ⟨M, lns X⟩ (a : Int) n1) (b : Int) m1) = all at *
                have HC := Lib.hid (fun v (f : Fr u13 v) => (show v.cell? ⟨Q, 0, none⟩ = some (.slice a6 M6.length c6) ∧ v.cell? ⟨Q, 1, none⟩ = some (.slice d6 X6.length k6) ∧ v.cell? ⟨R, 0, none⟩ = some (.slice a8 M8.length c8) ∧ v.cell? ⟨R, 1, none⟩ = some (.slice d8 X8.length k8) from ⟨(HQb13.out.fr f).c0, (HQb13.out.fr f).c1, (HR13.out.fr f).c0, (HR13.out.fr f).c1⟩))
                have K2 := Lib.hid (fun v (f : Fr u13 v) => HA6.out ▸ impl_ChcAll M6 X6 a6 d6 c6 k6 v (HU13.out.src.fr f) FU.out hl6)
                have K3 := Lib.hid (fun v (f : Fr u13 v) => HA8.out ▸ impl_ChcAll M8 X8 a8 d8 c8 k8 v (HV13.out.src.fr f) F8.out hl8)
                have K5 := Lib.hid (fun v (f : Fr u13 v) => HLa.out ▸ impl_ChcLook M6 X6 a6 d6 c6 k6 (a : Int) v (HU13.out.src.fr f) FU.out hl6)
                have K6 := Lib.hid (fun v (f : Fr u13 v) => HLb.out ▸ impl_ChcLook M6 X6 a6 d6 c6 k6 (b : Int) v (HU13.out.src.fr f) FU.out hl6)
                obtain ⟨z0, z1, z2, z3⟩ := HC.out u13 (Below.refl _ _)
                clear HA6 HA8 HLa HLb
                go_region_held3 (fun v => v.cell? ⟨Q, 0, none⟩ = some (.slice a6 M6.length c6) ∧ v.cell? ⟨Q, 1, none⟩ = some (.slice d6 X6.length k6) ∧ v.cell? ⟨R, 0, none⟩ = some (.slice a8 M8.length c8) ∧ v.cell? ⟨R, 1, none⟩ = some (.slice d8 X8.length k8))
                  (first | (go_keep; done))
                  (first
                    | (go_at_call 21; refine (K6.out _ F5.out).mono ?_; rintro e v6 ⟨rfl, f6⟩; have F6 := Lib.hid (Fr.trans F5.out f6); obtain ⟨af0, af1, af2, af3⟩ := HC.out v6 F6.out; clear f6)
                    | (go_at_call 21; refine (K5.out _ F4.out).mono ?_; rintro e v5 ⟨rfl, f5⟩; have F5 := Lib.hid (Fr.trans F4.out f5); obtain ⟨ae0, ae1, ae2, ae3⟩ := HC.out v5 F5.out; clear f5)
                    | (go_at_call 54; refine (laws_haIntso v3 all.length (fun i => all.getD i 0) ax ay cx cy R2b.out R3.out (by rw [HAL.out]; omega)).mono ?_; rintro e v4 ⟨rfl, m, hm⟩; have F4 := Lib.hid (show Fr u13 v4 by rw [← hm]; exact fr_drewN F3.out _); obtain ⟨ad0, ad1, ad2, ad3⟩ := HC.out v4 F4.out; clear hm)
                    | (go_at_call 32; refine (K3.out _ F2.out).mono ?_; rintro e v3 ⟨ay, cy, rfl, hR3, f3⟩; have F3 := Lib.hid (Fr.trans F2.out f3); have R3 := Lib.hid hR3.vc.src; have R2b := Lib.hid (R2.out.fr f3); obtain ⟨ac0, ac1, ac2, ac3⟩ := HC.out v3 F3.out; clear f3 hR3)
                    | (go_at_call 32; refine (K2.out _ (Below.drew (Below.refl _ _))).mono ?_; rintro e v2 ⟨ax, cx, rfl, hR2, f2⟩; have F2 := Lib.hid (show Fr u13 v2 from Fr.trans (Below.drew (Below.refl _ _)) f2); have R2 := Lib.hid hR2.vc.src; obtain ⟨ab0, ab1, ab2, ab3⟩ := HC.out v2 F2.out; clear f2 hR2))
                go_wp2
                go_ret
                exact ⟨rfl, Fr.trans HF13.out F6.out⟩
      · rw [hz] at HQ
        have hM3 : M3 = [] := (congrArg Ch.M HQ.out).symm
        subst hM3
        clear HQ HV8
        go_wp2_with (first | (go_at_call 57; refine (hwo _).mono ?_; rintro e w' ⟨rfl, rfl⟩) | (go_at_call 49; refine (laws_haOk _).mono ?_; rintro e w' ⟨rfl, rfl⟩))
        go_ret
        exact ⟨rfl, HF8.out⟩
    · have hl1' : (1048576 : Int) < (len1 : Int) := by omega
      go_wp2
      go_ret
      exact ⟨rfl, Below.refl _ _⟩
  · have hl0' : (1048576 : Int) < (len0 : Int) := by omega
    go_wp2
    go_ret
    exact ⟨rfl, Below.refl _ _⟩

set_option maxRecDepth 100000 in
theorem lifted (os : Os) (started : os.Started) (H : Type) (enc : TypeId × Value → H) :
    ReturnsInHanded {} Try.checked os 17 .any (Rows.fnChcOrderSpec.pre6 enc Try.prog Try.f17 Rows.fnChcOrderRow.domain false) (Rows.fnChcOrderSpec.post enc Try.prog Try.f17 false true false false) := by
  refine returnsInHanded_of_change (C := Try.checked) own started (by kernel_rfl) Try.func17
    (ChangeSpec.witness6 (enc := enc) (C := Try.checked) false ⟨#[], #[.slice none 0 0, .slice none 0 0], []⟩ 8 (by kernel_rfl) (by kernel_rfl) (by kernel_rfl) (by kernel_rfl)) ?_
  intro W base args ds gs before hval0 hW hcnd _
  have hval : ∀ (j : Nat) t v, Try.f17.params[j]? = some t → args[j]? = some v → Value.okWide Try.prog W .any base t v := hval0
  have hW' := hW
  obtain ⟨p, q, hA0, hV, rfl, hfz, hnd⟩ := hW
  have hA : DataW.TrodAll enc Try.prog W 0 (fun _ => true) true Try.f17.params.toList args.toList ds p := hA0
  rw [Try.params17] at hA hval
  obtain ⟨v0, vs0, d0, ds0, p0, q0, hargs, rfl, rfl, h0, r0⟩ := trodAll_cons hA
  obtain ⟨v1, vs1, d1, ds1, p1, q1, rfl, rfl, rfl, h1, r1⟩ := trodAll_cons r0
  obtain ⟨rfl, rfl, rfl⟩ := trodAll_nil r1
  obtain rfl : args = #[v0, v1] := by cases args; simp_all
  obtain ⟨rfl, rfl⟩ := trodVars_none hV
  obtain ⟨a0, len0, cap0, rfl⟩ := okWide_slice Try.underlying53 (hval 0 53 v0 rfl rfl)
  have k0 := h0
  have lt0 : ∀ x ∈ p0, x.block < W.heap.size := by obtain ⟨m, hm⟩ := k0; exact DataW.trod_lt m _ _ _ hm
  obtain ⟨z0, w0⟩ : ∃ zs, IsRow .u8 W a0 len0 cap0 zs := by
    obtain ⟨fuel, hf⟩ := h0
    rcases open_ints Try.underlying53 Try.underlying5 (by kernel_rfl) hf with ⟨hcs, _⟩ | ⟨x, l, c, zs, hcs, _, hl, hm, hz, _, hcell, hwz⟩
    · simp [Value.cells] at hcs
      obtain ⟨rfl, rfl, rfl⟩ := hcs
      exact ⟨[], .inl ⟨rfl, rfl, rfl, rfl⟩⟩
    · simp [Value.cells] at hcs
      obtain ⟨rfl, rfl, rfl⟩ := hcs
      exact ⟨zs, .inr ⟨_, rfl, hl, hm, by simpa using hz, hcell, hwz⟩⟩
  obtain ⟨a1, len1, cap1, rfl⟩ := okWide_slice Try.underlying53 (hval 1 53 v1 rfl rfl)
  have k1 := h1
  have lt1 : ∀ x ∈ p1, x.block < W.heap.size := by obtain ⟨m, hm⟩ := k1; exact DataW.trod_lt m _ _ _ hm
  obtain ⟨z1, w1⟩ : ∃ zs, IsRow .u8 W a1 len1 cap1 zs := by
    obtain ⟨fuel, hf⟩ := h1
    rcases open_ints Try.underlying53 Try.underlying5 (by kernel_rfl) hf with ⟨hcs, _⟩ | ⟨x, l, c, zs, hcs, _, hl, hm, hz, _, hcell, hwz⟩
    · simp [Value.cells] at hcs
      obtain ⟨rfl, rfl, rfl⟩ := hcs
      exact ⟨[], .inl ⟨rfl, rfl, rfl, rfl⟩⟩
    · simp [Value.cells] at hcs
      obtain ⟨rfl, rfl, rfl⟩ := hcs
      exact ⟨zs, .inr ⟨_, rfl, hl, hm, by simpa using hz, hcell, hwz⟩⟩
  clear hA0 hval0
  refine (walk a0 len0 cap0 z0 a1 len1 cap1 z1 W w0 w1).mono fun e W' ⟨he, bel⟩ => ?_
  subst he
  exact ⟨_, rfl, _, _, _, [], _, [], hW', trodAll_mk1 (shut_bool Try.underlying4 _), (trodAll_cons_mk (Below.trod laidOut (by kernel_rfl) (of_decide_eq_true (by kernel_rfl)) k0 bel lt0) (trodAll_cons_mk (Below.trod laidOut (by kernel_rfl) (of_decide_eq_true (by kernel_rfl)) k1 bel lt1) trodAll_mk0)), rfl, bel.frame _, fun h => by cases h⟩

theorem over : Rows.fnChcOrderRow.holds Try.pinned (OpenSpec.ofChange Rows.fnChcOrderSpec) :=
  OpenClaim.holds_of_wide 17 Try.f17 rfl rfl rfl rfl rfl rfl rfl ⟨rfl, rfl, rfl, rfl, rfl⟩ rfl rfl rfl rfl rfl (by kernel_rfl) Try.func17 (by kernel_rfl)
    (of_decide_eq_true (by kernel_rfl)) (by unfold Func.isWrapper; first | (rw [if_pos (by decide +kernel)]; kernel_rfl) | (rw [if_neg (by decide +kernel)]; exact ⟨rfl, rfl⟩))
    (fun os started H enc _ => lifted os started H enc)

/-- THE STATEMENT. -/
theorem proved : Rows.FnChcOrderSaid := over
#print axioms proved
end Go.Proofs.Ytoacgjjpipdkjaa.fnChcOrder
