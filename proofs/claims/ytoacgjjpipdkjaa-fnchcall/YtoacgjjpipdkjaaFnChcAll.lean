/- For every two codes (any bytes), law FnChcAll returns true and its arguments read as before (no condition). -/
import Derived.Test.YtoacgjjpipdkjaaRows
import Derived.Test.YtoacgjjpipdkjaaK36
import Derived.Test.YtoacgjjpipdkjaaK40
import Derived.Test.YtoacgjjpipdkjaaK44
import Derived.WalkKit
import Derived.ProofKit
import Derived.OpenShut
import Derived.ShutString
import Derived.ChangeOld
import Derived.Below
namespace Go.Proofs.Ytoacgjjpipdkjaa.fnChcAll
open Go.ChangeShapes Go.WideShapes Go.ChangeAt Go.RowKit
set_option linter.unusedVariables false
set_option linter.unusedSimpArgs false

theorem own : ownKnob Try.prog.godebug = none := by kernel_rfl
theorem laidOut : laidOutB Try.prog = true := by kernel_rfl

def IsRow (k : IntKind) (w : World) (a : Option Addr) (len cap : Nat) (zs : List Int) : Prop :=
  (a = none ∧ len = 0 ∧ cap = 0 ∧ zs = []) ∨
  ∃ x, a = some x ∧ len ≤ cap ∧ cap ≤ maxLen ∧ zs.length = cap ∧ (∀ i, i < zs.length → w.cell? (x.add i) = some (.int k (zs.getD i 0))) ∧ ∀ n ∈ zs, (Lit.int k n).wf = true

set_option maxRecDepth 8000 in
set_option maxHeartbeats 8000000 in
theorem walk (a0 : Option Addr) (len0 cap0 : Nat) (z0 : List Int) (a1 : Option Addr) (len1 cap1 : Nat) (z1 : List Int) (w : World) (w0 : IsRow .u8 w a0 len0 cap0 z0) (w1 : IsRow .u8 w a1 len1 cap1 z1) :
    Calls Try.prog 16 #[.slice a0 len0 cap0, .slice a1 len1 cap1] w fun e w' => e = .returned (.bool true) ∧ Below w.heap.size w w' := by
  have hc0 : Code1 w.heap.size w a0 len0 cap0 := by
    rcases w0 with ⟨rfl, rfl, rfl, rfl⟩ | ⟨x, rfl, hl, hm, hz, hcell, hwz⟩
    · exact ⟨Nat.le_refl _, Nat.le_refl _, Nat.zero_le _, .inl rfl, fun _ => rfl⟩
    · exact ⟨Nat.le_refl _, hl, hm, bytes_of_row hl hz hcell hwz, fun h => by cases h⟩
  clear w0 z0
  have hc1 : Code1 w.heap.size w a1 len1 cap1 := by
    rcases w1 with ⟨rfl, rfl, rfl, rfl⟩ | ⟨x, rfl, hl, hm, hz, hcell, hwz⟩
    · exact ⟨Nat.le_refl _, Nat.le_refl _, Nat.zero_le _, .inl rfl, fun _ => rfl⟩
    · exact ⟨Nat.le_refl _, hl, hm, bytes_of_row hl hz hcell hwz, fun h => by cases h⟩
  clear w1 z1
  go_enter Try.func16, Try.ntmps16
  by_cases hl0 : len0 ≤ 1048576
  · have hl0' : ¬ (1048576 : Int) < (len0 : Int) := by omega
    by_cases hl1 : len1 ≤ 1048576
    · have hl1' : ¬ (1048576 : Int) < (len1 : Int) := by omega
      go_wp2_with fail
      refine (DrawChcAll a0 len0 cap0 w hc0).mono ?_
      rintro e u1 ⟨M, X, aM, aL, cM, cL, hf, hcM, rfl, hS, f1⟩
      have FA := Fr.trans f1 (Fr.alloc u1 (.cells #[.slice aM M.length cM, .slice aL X.length cL] 30))
      have HS2 := Lib.hid (hS.fr (Fr.alloc u1 (.cells #[.slice aM M.length cM, .slice aL X.length cL] 30)))
      have HF2 := Lib.hid FA
      have HX2 := Lib.hid (Box2.new u1 (.slice aM M.length cM) (.slice aL X.length cL) 30 _ rfl)
      have HC := Lib.hid (Code1.up hc1 FA)
      have FC := Lib.hid hf
      clear hS f1 FA hc0 hc1 hf
      dsimp only [caV]
      go_wp2_with fail
      generalize (u1.alloc (.cells #[.slice aM M.length cM, .slice aL X.length cL] 30)) = u2 at *
      generalize u1.heap.size = Z at *
      refine (DrawChcLook a1 len1 cap1 u2 HC.out).mono ?_
      rintro e u3 ⟨N, V, bM, bL, dM, dL, at1, hf', hcN, ⟨b0, b1⟩, rfl, hS', f3⟩
      have FB := Fr.trans f3 (Fr.alloc u3 (.cells #[.slice bM N.length dM, .slice bL V.length dL] 30))
      have HS4 := Lib.hid (HS2.out.fr FB)
      have HF4 := Lib.hid (Fr.trans HF2.out FB)
      have HX4 := Lib.hid (HX2.out.fr FB)
      clear HS2 HF2 HX2
      have HP4 := Lib.hid (Box2.new u3 (.slice bM N.length dM) (.slice bL V.length dL) 30 _ rfl)
      have HD4 := Lib.hid (hS'.fr (Fr.alloc u3 (.cells #[.slice bM N.length dM, .slice bL V.length dL] 30)))
      have FD := Lib.hid hf'
      have u3s := f3.size
      have zlt := HX4.out.lt
      clear hS' f3 FB HC hf'
      dsimp only [caV]
      go_upto_region 5 with fail
      generalize (u3.alloc (.cells #[.slice bM N.length dM, .slice bL V.length dL] 30)) = u4 at *
      generalize u3.heap.size = P at *
      obtain ⟨_, x0, x1, _, _⟩ := HX4.out
      have EA := impl_ChcAll M X aM aL cM cL u4 HS4.out FC.out hcM
      have KS := Lib.hid (fun v (f : Fr u4 v) => spec_ChcAll M X aM aL cM cL v (HS4.out.fr f) FC.out)
      have hln : (allA ⟨M, lns X⟩).length ≤ 1048576 := by
        unfold allA
        split
        · rw [allC_len]; omega
        · simp
      obtain ⟨all, hall⟩ : ∃ all, all = allA ⟨M, lns X⟩ := ⟨_, rfl⟩
      rw [← hall] at EA hln KS
      have HAll := Lib.hid hall
      have HLn := Lib.hid hln
      have HEA := Lib.hid EA
      clear EA hall hln
      go_wp2_with fail
      clear x0 x1
      refine HEA.out.mono ?_
      rintro e u5 ⟨ag, cg, rfl, hR5, f5⟩
      have HS5 := Lib.hid (HS4.out.fr f5)
      have HF5 := Lib.hid (Fr.trans HF4.out f5)
      have HX5 := Lib.hid (HX4.out.fr f5)
      have HP5 := Lib.hid (HP4.out.fr f5)
      have HD5 := Lib.hid (HD4.out.fr f5)
      clear HS4 HF4 HX4 HP4 HD4
      have HR5 := Lib.hid hR5
      have F45 := Lib.hid f5
      clear f5 hR5 HEA
      go_upto_region 6 with fail
      obtain ⟨kk, hkk⟩ : ∃ kk, kk = lookA ⟨N, lns V⟩ at1 := ⟨_, rfl⟩
      have hqk : (kk != kk) = false := by simp
      have HC := Lib.hid (fun v (f : Fr u5 v) => (show v.cell? ⟨Z, 0, none⟩ = some (.slice aM M.length cM) ∧ v.cell? ⟨Z, 1, none⟩ = some (.slice aL X.length cL) ∧ v.cell? ⟨P, 0, none⟩ = some (.slice bM N.length dM) ∧ v.cell? ⟨P, 1, none⟩ = some (.slice bL V.length dL) from ⟨(HX5.out.fr f).c0, (HX5.out.fr f).c1, (HP5.out.fr f).c0, (HP5.out.fr f).c1⟩))
      have K2 := Lib.hid (fun v (f : Fr u5 v) => KS.out v (Fr.trans F45.out f))
      have K3 := Lib.hid (fun v (f : Fr u5 v) => hkk ▸ impl_ChcLook N V bM bL dM dL at1 v (HD5.out.fr f) FD.out hcN)
      have K5 := Lib.hid (fun v (f : Fr u5 v) => hkk ▸ spec_ChcLook N V bM bL dM dL at1 v (HD5.out.fr f) FD.out)
      obtain ⟨z0, z1, z2, z3⟩ := HC.out u5 (Below.refl _ _)
      clear hkk KS
      go_region_held3 (fun v => v.cell? ⟨Z, 0, none⟩ = some (.slice aM M.length cM) ∧ v.cell? ⟨Z, 1, none⟩ = some (.slice aL X.length cL) ∧ v.cell? ⟨P, 0, none⟩ = some (.slice bM N.length dM) ∧ v.cell? ⟨P, 1, none⟩ = some (.slice bL V.length dL))
        (first | (go_keep; done))
        (first
          | (go_at_call 19; refine (K5.out _ F5.out).mono ?_; rintro e v6 ⟨rfl, f6⟩; have F6 := Lib.hid (Fr.trans F5.out f6); obtain ⟨af0, af1, af2, af3⟩ := HC.out v6 F6.out; clear f6)
          | (go_at_call 21; refine (K3.out _ F4.out).mono ?_; rintro e v5 ⟨rfl, f5⟩; have F5 := Lib.hid (Fr.trans F4.out f5); obtain ⟨ae0, ae1, ae2, ae3⟩ := HC.out v5 F5.out; clear f5)
          | (go_at_call 54; refine (laws_haIntso v2 all.length (fun i => all.getD i 0) ag ax cg cx (HR5.out.vc.src.fr F2.out) R2.out HLn.out).mono ?_; rintro e v4 ⟨rfl, m, hm⟩; have F4 := Lib.hid (show Fr u5 v4 by rw [← hm]; exact fr_drewN F2.out _); obtain ⟨ad0, ad1, ad2, ad3⟩ := HC.out v4 F4.out; clear hm)
          | (go_at_call 31; refine (K2.out _ (Below.drew (Below.refl _ _))).mono ?_; rintro e v2 ⟨ax, cx, rfl, hR2, f2⟩; have F2 := Lib.hid (show Fr u5 v2 from Fr.trans (Below.drew (Below.refl _ _)) f2); have R2 := Lib.hid hR2.vc.src; obtain ⟨ab0, ab1, ab2, ab3⟩ := HC.out v2 F2.out; clear f2 hR2))
      clear K2 K3 K5 HC z0 z1 z2 z3 ab0 ab1 ab2 ab3 ad0 ad1 ad2 ad3 ae0 ae1 ae2 ae3 af0 af1 af2 af3 R2 F2 F4 F5 HD5 HP5 FD
      have HS6 := Lib.hid (HS5.out.fr F6.out)
      have HF6 := Lib.hid (Fr.trans HF5.out F6.out)
      have HX6 := Lib.hid (HX5.out.fr F6.out)
      clear HS5 HF5 HX5
      have HFa := Lib.hid (show Fr u5 v6 from F6.out)
      obtain ⟨_, x0, x1, _, _⟩ := HX6.out
      go_wp2_with fail
      clear x0 x1 hqk
      refine (spec_ChcOk M X aM aL cM cL _ HS6.out FC.out).mono ?_
      rintro e u7 ⟨rfl, f7⟩
      have HS7 := Lib.hid (HS6.out.fr f7)
      have HF7 := Lib.hid (Fr.trans HF6.out f7)
      have HX7 := Lib.hid (HX6.out.fr f7)
      clear HS6 HF6 HX6
      have HFb := Lib.hid (Fr.trans HFa.out f7)
      clear f7 HFa F6
      cases hok : okC ⟨M, lns X⟩
      · have ha := HAll.out
        rw [show allA ⟨M, lns X⟩ = [] by simp only [allA, hok]; rfl] at ha
        subst ha
        have E := impl_ChcLook M X aM aL cM cL 0 u7 HS7.out FC.out hcM
        rw [lookA_not hok] at E
        have HE := Lib.hid E
        obtain ⟨_, x0, x1, _, _⟩ := HX7.out
        clear E HAll HLn HR5
        go_wp2_with (first | (go_at_call 21; refine HE.out.mono ?_; rintro e u8 ⟨rfl, f8⟩; have F8 := Lib.hid f8; clear f8) | (go_at_call 49; refine (laws_haOk _).mono ?_; rintro e w' ⟨rfl, rfl⟩))
        go_ret
        exact ⟨rfl, Fr.trans HF7.out F8.out⟩
      · have HOK := (okC_iff _).1 hok
        have hal : all.length = 256 := by rw [HAll.out, allA_eq HOK, allC_len]
        have hget : ∀ p : Nat, p < 256 → lookA ⟨M, lns X⟩ (p : Int) = all.getD p 0 := fun p hp => by rw [HAll.out, allA_eq HOK, allA_get HOK p hp]
        have HG := Lib.hid hget
        rcases HR5.out with ⟨hz0, _⟩ | ⟨g, rfl, hgB, ro, ca, _⟩
        · exfalso; omega
        have HAL := Lib.hid hal
        have HRo := Lib.hid (ro.fr HFb.out)
        rw [hal]
        clear hget hal HOK HAll HLn HR5 ro ca
        have KL := Lib.hid (fun (k : Int) v (f : Fr u7 v) => impl_ChcLook M X aM aL cM cL k v (HS7.out.fr f) FC.out hcM)
        go_wp2_with fail
        go_loopw [9] (fun i wr => ∃ p : Nat, p ≤ 256 ∧ i = .int .i64 p ∧ Fr u7 wr) (fun i _ => 256 - (intOf i).toNat)
        case atStart => exact ⟨0, Nat.zero_le _, rfl, Below.refl _ _⟩
        case round =>
          obtain ⟨p, hp, rfl, hf⟩ := hrel
          have HFr := Lib.hid hf
          by_cases hlt : p < 256
          · have hlt' : (p : Int) < 256 := by omega
            have hp0 : (0 : Int) ≤ (p : Int) := Int.natCast_nonneg _
            obtain ⟨vv, hvv⟩ : ∃ vv, vv = all.getD p 0 := ⟨_, rfl⟩
            have hqv : (vv != vv) = false := by simp
            have hcl := (HRo.out.fr hf).cel p (by rw [HAL.out]; exact hlt)
            rw [← hvv] at hcl
            have hcg := (HRo.out.fr hf).lt
            have HC := Lib.hid (fun v (f : Fr wr v) => (show v.cell? ⟨Z, 0, none⟩ = some (.slice aM M.length cM) ∧ v.cell? ⟨Z, 1, none⟩ = some (.slice aL X.length cL) ∧ v.cell? ⟨g, p, none⟩ = some (.int .i64 vv) from ⟨(HX7.out.fr (Fr.trans HFr.out f)).c0, (HX7.out.fr (Fr.trans HFr.out f)).c1, by rw [hvv]; exact ((HRo.out.fr HFr.out).fr f).cel p (by rw [HAL.out]; exact hlt)⟩))
            have K := Lib.hid (fun v (f : Fr wr v) => KL.out (p : Int) v (Fr.trans HFr.out f))
            rw [HG.out p hlt, ← hvv] at K
            obtain ⟨z0, z1, z2⟩ := HC.out wr (Below.refl _ _)
            clear hf hcl hvv hcg
            go_upto_region 13 with fail
            go_region_held3 (fun v => v.cell? ⟨Z, 0, none⟩ = some (.slice aM M.length cM) ∧ v.cell? ⟨Z, 1, none⟩ = some (.slice aL X.length cL) ∧ v.cell? ⟨g, p, none⟩ = some (.int .i64 vv))
              (first | (go_keep; done))
              (first
                | (go_at_call 21; refine (K.out _ (Below.drew (Below.refl _ _))).mono ?_; rintro e v5 ⟨rfl, f5⟩; have F5 := Lib.hid (show Fr wr v5 from Fr.trans (Below.drew (Below.refl _ _)) f5); obtain ⟨ae0, ae1, ae2⟩ := HC.out v5 F5.out; clear f5))
            go_wp2
            go_roundw
            case rel => exact ⟨p + 1, by omega, by go_num, Fr.trans HFr.out F5.out⟩
            case measure => simp [intOf]; omega
          · obtain rfl : p = 256 := by omega
            have hge : ¬ ((256 : Nat) : Int) < 256 := by omega
            have E1 := KL.out (-1)
            rw [lookA_out (by decide)] at E1
            have E2 := KL.out 256
            rw [lookA_out (by decide)] at E2
            have HE1 := Lib.hid E1
            have HE2 := Lib.hid E2
            have HC := Lib.hid (fun v (f : Fr u7 v) => (show v.cell? ⟨Z, 0, none⟩ = some (.slice aM M.length cM) ∧ v.cell? ⟨Z, 1, none⟩ = some (.slice aL X.length cL) from ⟨(HX7.out.fr f).c0, (HX7.out.fr f).c1⟩))
            obtain ⟨z0, z1⟩ := HC.out wr hf
            clear hf E1 E2
            go_wp2_with (first
              | (go_at_call 21; refine (HE2.out _ F5.out).mono ?_; rintro e v6 ⟨rfl, f6⟩; have F6 := Lib.hid (Fr.trans F5.out f6); clear f6)
              | (go_at_call 21; refine (HE1.out _ HFr.out).mono ?_; rintro e v5 ⟨rfl, f5⟩; have F5 := Lib.hid (Fr.trans HFr.out f5); obtain ⟨ae0, ae1⟩ := HC.out v5 F5.out; clear f5))
            go_ret
            exact ⟨rfl, Fr.trans HF7.out F6.out⟩
    · have hl1' : (1048576 : Int) < (len1 : Int) := by omega
      go_wp2
      go_ret
      exact ⟨rfl, Below.refl _ _⟩
  · have hl0' : (1048576 : Int) < (len0 : Int) := by omega
    go_wp2
    go_ret
    exact ⟨rfl, Below.refl _ _⟩

set_option maxRecDepth 100000 in
theorem lifted (os : Os) (started : os.Started) (H : Type) (enc : TypeId × Value → H) :
    ReturnsInHanded {} Try.checked os 16 .any (Rows.fnChcAllSpec.pre6 enc Try.prog Try.f16 Rows.fnChcAllRow.domain false) (Rows.fnChcAllSpec.post enc Try.prog Try.f16 false true false false) := by
  refine returnsInHanded_of_change (C := Try.checked) own started (by kernel_rfl) Try.func16
    (ChangeSpec.witness6 (enc := enc) (C := Try.checked) false ⟨#[], #[.slice none 0 0, .slice none 0 0], []⟩ 8 (by kernel_rfl) (by kernel_rfl) (by kernel_rfl) (by kernel_rfl)) ?_
  intro W base args ds gs before hval0 hW hcnd _
  have hval : ∀ (j : Nat) t v, Try.f16.params[j]? = some t → args[j]? = some v → Value.okWide Try.prog W .any base t v := hval0
  have hW' := hW
  obtain ⟨p, q, hA0, hV, rfl, hfz, hnd⟩ := hW
  have hA : DataW.TrodAll enc Try.prog W 0 (fun _ => true) true Try.f16.params.toList args.toList ds p := hA0
  rw [Try.params16] at hA hval
  obtain ⟨v0, vs0, d0, ds0, p0, q0, hargs, rfl, rfl, h0, r0⟩ := trodAll_cons hA
  obtain ⟨v1, vs1, d1, ds1, p1, q1, rfl, rfl, rfl, h1, r1⟩ := trodAll_cons r0
  obtain ⟨rfl, rfl, rfl⟩ := trodAll_nil r1
  obtain rfl : args = #[v0, v1] := by cases args; simp_all
  obtain ⟨rfl, rfl⟩ := trodVars_none hV
  obtain ⟨a0, len0, cap0, rfl⟩ := okWide_slice Try.underlying53 (hval 0 53 v0 rfl rfl)
  have k0 := h0
  have lt0 : ∀ x ∈ p0, x.block < W.heap.size := by obtain ⟨m, hm⟩ := k0; exact DataW.trod_lt m _ _ _ hm
  obtain ⟨z0, w0⟩ : ∃ zs, IsRow .u8 W a0 len0 cap0 zs := by
    obtain ⟨fuel, hf⟩ := h0
    rcases open_ints Try.underlying53 Try.underlying5 (by kernel_rfl) hf with ⟨hcs, _⟩ | ⟨x, l, c, zs, hcs, _, hl, hm, hz, _, hcell, hwz⟩
    · simp [Value.cells] at hcs
      obtain ⟨rfl, rfl, rfl⟩ := hcs
      exact ⟨[], .inl ⟨rfl, rfl, rfl, rfl⟩⟩
    · simp [Value.cells] at hcs
      obtain ⟨rfl, rfl, rfl⟩ := hcs
      exact ⟨zs, .inr ⟨_, rfl, hl, hm, by simpa using hz, hcell, hwz⟩⟩
  obtain ⟨a1, len1, cap1, rfl⟩ := okWide_slice Try.underlying53 (hval 1 53 v1 rfl rfl)
  have k1 := h1
  have lt1 : ∀ x ∈ p1, x.block < W.heap.size := by obtain ⟨m, hm⟩ := k1; exact DataW.trod_lt m _ _ _ hm
  obtain ⟨z1, w1⟩ : ∃ zs, IsRow .u8 W a1 len1 cap1 zs := by
    obtain ⟨fuel, hf⟩ := h1
    rcases open_ints Try.underlying53 Try.underlying5 (by kernel_rfl) hf with ⟨hcs, _⟩ | ⟨x, l, c, zs, hcs, _, hl, hm, hz, _, hcell, hwz⟩
    · simp [Value.cells] at hcs
      obtain ⟨rfl, rfl, rfl⟩ := hcs
      exact ⟨[], .inl ⟨rfl, rfl, rfl, rfl⟩⟩
    · simp [Value.cells] at hcs
      obtain ⟨rfl, rfl, rfl⟩ := hcs
      exact ⟨zs, .inr ⟨_, rfl, hl, hm, by simpa using hz, hcell, hwz⟩⟩
  clear hA0 hval0
  refine (walk a0 len0 cap0 z0 a1 len1 cap1 z1 W w0 w1).mono fun e W' ⟨he, bel⟩ => ?_
  subst he
  exact ⟨_, rfl, _, _, _, [], _, [], hW', trodAll_mk1 (shut_bool Try.underlying4 _), (trodAll_cons_mk (Below.trod laidOut (by kernel_rfl) (of_decide_eq_true (by kernel_rfl)) k0 bel lt0) (trodAll_cons_mk (Below.trod laidOut (by kernel_rfl) (of_decide_eq_true (by kernel_rfl)) k1 bel lt1) trodAll_mk0)), rfl, bel.frame _, fun h => by cases h⟩

theorem over : Rows.fnChcAllRow.holds Try.pinned (OpenSpec.ofChange Rows.fnChcAllSpec) :=
  OpenClaim.holds_of_wide 16 Try.f16 rfl rfl rfl rfl rfl rfl rfl ⟨rfl, rfl, rfl, rfl, rfl⟩ rfl rfl rfl rfl rfl (by kernel_rfl) Try.func16 (by kernel_rfl)
    (of_decide_eq_true (by kernel_rfl)) (by unfold Func.isWrapper; first | (rw [if_pos (by decide +kernel)]; kernel_rfl) | (rw [if_neg (by decide +kernel)]; exact ⟨rfl, rfl⟩))
    (fun os started H enc _ => lifted os started H enc)

/-- THE STATEMENT. -/
theorem proved : Rows.FnChcAllSaid := over
#print axioms proved
end Go.Proofs.Ytoacgjjpipdkjaa.fnChcAll
