/- For every code (any bytes), law FnChcNew returns true and its argument reads as before (no condition). -/
import Derived.Test.YtoacgjjpipdkjaaRows
import Derived.Test.YtoacgjjpipdkjaaK36
import Derived.Test.YtoacgjjpipdkjaaK40
import Derived.Test.YtoacgjjpipdkjaaK44
import Derived.Test.YtoacgjjpipdkjaaK47
import Derived.WalkKit
import Derived.ProofKit
import Derived.OpenShut
import Derived.ShutString
import Derived.ChangeOld
import Derived.Below
namespace Go.Proofs.Ytoacgjjpipdkjaa.fnChcNew
open Go.ChangeShapes Go.WideShapes Go.ChangeAt Go.RowKit
set_option linter.unusedVariables false
set_option linter.unusedSimpArgs false

theorem own : ownKnob Try.prog.godebug = none := by kernel_rfl
theorem laidOut : laidOutB Try.prog = true := by kernel_rfl

def IsRow (k : IntKind) (w : World) (a : Option Addr) (len cap : Nat) (zs : List Int) : Prop :=
  (a = none ∧ len = 0 ∧ cap = 0 ∧ zs = []) ∨
  ∃ x, a = some x ∧ len ≤ cap ∧ cap ≤ maxLen ∧ zs.length = cap ∧ (∀ i, i < zs.length → w.cell? (x.add i) = some (.int k (zs.getD i 0))) ∧ ∀ n ∈ zs, (Lit.int k n).wf = true

set_option maxRecDepth 8000 in
set_option maxHeartbeats 8000000 in
theorem walk (a0 : Option Addr) (len0 cap0 : Nat) (z0 : List Int) (w : World) (w0 : IsRow .u8 w a0 len0 cap0 z0) :
    Calls Try.prog 12 #[.slice a0 len0 cap0] w fun e w' => e = .returned (.bool true) ∧ Below w.heap.size w w' := by
  have hc0 : Code1 w.heap.size w a0 len0 cap0 := by
    rcases w0 with ⟨rfl, rfl, rfl, rfl⟩ | ⟨x, rfl, hl, hm, hz, hcell, hwz⟩
    · exact ⟨Nat.le_refl _, Nat.le_refl _, Nat.zero_le _, .inl rfl, fun _ => rfl⟩
    · exact ⟨Nat.le_refl _, hl, hm, bytes_of_row hl hz hcell hwz, fun h => by cases h⟩
  clear w0 z0
  go_enter Try.func12, Try.ntmps12
  by_cases hl : len0 ≤ 1048576
  · have hl' : ¬ (1048576 : Int) < (len0 : Int) := by omega
    go_wp2_with fail
    refine (DrawChcNew a0 len0 cap0 w hc0).mono ?_
    rintro e u1 ⟨M, aM, cM, hml, hmo, rfl, hS, f1⟩
    have hMb : M.length ≤ 1048576 := by omega
    have HF := Lib.hid f1
    have HS := Lib.hid hS
    have HO := Lib.hid hmo
    clear f1 hS hc0 hmo
    go_wp2_with fail
    refine (impl_ChcNew M aM cM u1 HS.out hMb).mono ?_
    rintro e u3 ⟨M3, X3, a3, d3, c3, k3, rfl, h3, V3, rm3, f3⟩
    have FB := Fr.alloc u3 (.cells #[.slice a3 M3.length c3, .slice d3 X3.length k3] 30)
    have HS3 := Lib.hid (HS.out.fr (Fr.trans f3 FB))
    have HF3 := Lib.hid (Fr.trans HF.out (Fr.trans f3 FB))
    have HY3 := Lib.hid (Box2.new u3 (.slice a3 M3.length c3) (.slice d3 X3.length k3) 30 _ rfl)
    have HV := Lib.hid (V3.apart (L := []) (But.of FB) (fun _ _ => by simp))
    have HQ := Lib.hid h3
    have HT := Lib.hid (okA_few (okA_new M) h3)
    have FT := Lib.hid HT.out.few
    have hl3 := rm3.le
    clear h3 V3 rm3 f3 FB HS HF
    dsimp only [caV]
    go_upto_region 5 with fail
    generalize (u3.alloc (.cells #[.slice a3 M3.length c3, .slice d3 X3.length k3] 30)) = u4 at *
    generalize u3.heap.size = Y at *
    have HC := Lib.hid (fun v (f : Fr u4 v) => (show v.cell? ⟨Y, 0, none⟩ = some (.slice a3 M3.length c3) ∧ v.cell? ⟨Y, 1, none⟩ = some (.slice d3 X3.length k3) from ⟨(HY3.out.fr f).c0, (HY3.out.fr f).c1⟩))
    have KS := Lib.hid (fun v (f : Fr u4 v) => spec_ChcNew M aM cM v (HS3.out.fr f) hMb)
    obtain ⟨z0, z1⟩ := HC.out u4 (Below.refl _ _)
    go_region_held3 (fun v => v.cell? ⟨Y, 0, none⟩ = some (.slice a3 M3.length c3) ∧ v.cell? ⟨Y, 1, none⟩ = some (.slice d3 X3.length k3))
      (first | (go_keep; done))
      (first
        | (go_at_call 52; refine (laws_haChc_same M3 X3 X5 a3 d3 a5 d5 c3 k3 c5 k5 u5 (HV.out.src.fr F5.out) HV5.out.src HX5.out FT.out).mono ?_; rintro e u6 ⟨rfl, f6⟩; have F6 := Lib.hid (Fr.trans F5.out f6); obtain ⟨p0, p1⟩ := HC.out u6 F6.out; clear f6)
        | (go_at_call 53; refine (KS.out _ (Below.drew (Below.refl _ _))).mono ?_; rintro e u5 ⟨M5, X5, a5, d5, c5, k5, rfl, h5, V5, rm5, f5⟩; obtain ⟨rfl, hx5⟩ : M3 = M5 ∧ lns X3 = lns X5 := ⟨congrArg Ch.M (HQ.out.symm.trans h5), congrArg Ch.L (HQ.out.symm.trans h5)⟩; have F5 := Lib.hid (show Fr u4 u5 from Fr.trans (Below.drew (Below.refl _ _)) f5); have HX5 := Lib.hid hx5; have HV5 := Lib.hid V5; obtain ⟨e0, e1⟩ := HC.out u5 F5.out; clear hx5 h5 V5 rm5 f5; unfold caV))
    clear z0 z1 e0 e1 p0 p1 HC KS
    have HS6 := Lib.hid (HS3.out.fr F6.out)
    have HF6 := Lib.hid (Fr.trans HF3.out F6.out)
    have HY6 := Lib.hid (HY3.out.fr F6.out)
    have HV6 := Lib.hid (HV.out.apart (L := []) (But.of F6.out) (fun _ _ => by simp))
    clear HS3 HF3 HY3 HV HV5 HX5 F5 F6
    rcases hml with hml | hml
    · have h256 := HQ.out
      rw [newC7_256 hml HO.out] at h256
      obtain rfl : M = M3 := congrArg Ch.M h256
      have hln : lns newL = lns X3 := congrArg Ch.L h256
      obtain ⟨hx4, hxn⟩ := newX hln
      have hOK : OkC ⟨M, lns X3⟩ := by rw [← hln]; exact newOk (by simp only [wordsB, hml, HO.out]; rfl)
      have hall : allA ⟨M, lns X3⟩ = M := by rw [allA_eq hOK, ← hln, all_new hml]
      obtain ⟨gL, rfl, hgB, hro⟩ := HV6.out.rL (by omega)
      have hcl : ∀ k : Nat, k < 4 → u6.cell? ⟨gL, k * 4, none⟩ = some (.bool false) := fun k hk => by
        have := (line_at hro.rng k (by omega)).1
        rw [hxn k, Nat.zero_add] at this
        exact this
      have hgl := hro.lt
      have hml' : ¬ ¬ (M.length : Int) = 256 := by omega
      have hmli : (M.length : Int) = 256 := by omega
      have HML := Lib.hid hml
      have E1 := impl_ChcOk M X3 a3 (some ⟨gL, 0, none⟩) c3 k3
      rw [okC_of hOK] at E1
      have E2 := impl_ChcAll M X3 a3 (some ⟨gL, 0, none⟩) c3 k3
      rw [hall] at E2
      have KO := Lib.hid (fun v (f : Fr u6 v) => E1 v (HV6.out.src.fr f) FT.out hl3)
      have KA := Lib.hid (fun v (f : Fr u6 v) => E2 v (HV6.out.src.fr f) FT.out hl3)
      have HCl := Lib.hid (fun v (f : Fr u6 v) k (hk : k < 4) => (f.cell hgl).trans (hcl k hk))
      have HX4 := Lib.hid hx4
      clear h256 hln hxn hOK hall hro hcl hgl E1 E2 HT HQ hx4 hml hml'
      go_wp2_with fail
      go_loopw [5] (fun i wr => ∃ k : Nat, k ≤ 4 ∧ i = .int .i64 k ∧ Fr u6 wr) (fun i _ => 4 - (intOf i).toNat)
      case atStart => exact ⟨0, Nat.zero_le _, rfl, Below.refl _ _⟩
      case round =>
        obtain ⟨k, hk, rfl, hf⟩ := hrel
        have HFr := Lib.hid hf
        obtain ⟨_, y0, y1, _, _⟩ := HY6.out.fr hf
        by_cases hlt : k < 4
        · have hlt' : (k : Int) < (X3.length : Int) := by rw [HX4.out]; omega
          have hk0 : (0 : Int) ≤ (k : Int) := Int.natCast_nonneg _
          have hcl := HCl.out wr hf k hlt
          clear hf
          go_wp2
          go_roundw
          case rel => exact ⟨k + 1, by omega, by go_num, HFr.out⟩
          case measure => simp [intOf]; omega
        · have hge : ¬ (k : Int) < (X3.length : Int) := by rw [HX4.out]; omega
          obtain rfl : k = 4 := by omega
          clear hf
          go_upto_region 14 with fail
          go_wp2_with fail
          clear y0 y1
          refine (KO.out _ HFr.out).mono ?_
          rintro e v1 ⟨rfl, f1⟩
          have F1 := Lib.hid (Fr.trans HFr.out f1)
          obtain ⟨_, y0, y1, _, _⟩ := HY6.out.fr F1.out
          clear f1
          go_wp2_with fail
          clear y0 y1
          refine (KA.out _ F1.out).mono ?_
          rintro e v2 ⟨ax, cx, rfl, hR, f2⟩
          have F2 := Lib.hid (Fr.trans F1.out f2)
          have R2 := Lib.hid hR.vc.src
          have HH := Lib.hid (laws_haIntso v2 M.length (fun i => M.getD i 0) ax aM cx cM R2.out (HS6.out.fr F2.out) hMb)
          clear f2 hR
          go_wp2_with fail
          refine HH.out.mono ?_
          rintro e v3 ⟨rfl, m, hm⟩
          have f3 : Fr u6 v3 := by rw [← hm]; exact fr_drewN F2.out _
          have F3 := Lib.hid f3
          clear hm m f3 HH
          go_wp2
          go_ret
          exact ⟨rfl, Fr.trans HF6.out F3.out⟩
    · have h257 := HQ.out
      rw [newC7_257 hml] at h257
      obtain rfl : M3 = [] := (congrArg Ch.M h257).symm
      have hX0 : lns X3 = [] := (congrArg Ch.L h257).symm
      have hml' : ¬ (M.length : Int) = 256 := by omega
      have E1 := impl_ChcOk [] X3 a3 d3 c3 k3
      rw [hX0, show okC ⟨[], []⟩ = false from rfl] at E1
      have KO := Lib.hid (fun v (f : Fr u6 v) => E1 v (HV6.out.src.fr f) FT.out hl3)
      obtain ⟨_, y0, y1, _, _⟩ := HY6.out
      clear h257 hX0 E1 HT HQ hml
      go_wp2_with (first
        | (go_at_call 47; refine (KO.out _ (Below.refl _ _)).mono ?_; rintro e v1 ⟨rfl, f1⟩; have F1 := Lib.hid f1; clear f1)
        | (go_at_call 49; refine (laws_haOk _).mono ?_; rintro e w' ⟨rfl, rfl⟩))
      go_ret
      exact ⟨rfl, Fr.trans HF6.out F1.out⟩
  · have hl' : (1048576 : Int) < (len0 : Int) := by omega
    go_wp2
    go_ret
    exact ⟨rfl, Below.refl _ _⟩

set_option maxRecDepth 100000 in
theorem lifted (os : Os) (started : os.Started) (H : Type) (enc : TypeId × Value → H) :
    ReturnsInHanded {} Try.checked os 12 .any (Rows.fnChcNewSpec.pre6 enc Try.prog Try.f12 Rows.fnChcNewRow.domain false) (Rows.fnChcNewSpec.post enc Try.prog Try.f12 false true false false) := by
  refine returnsInHanded_of_change (C := Try.checked) own started (by kernel_rfl) Try.func12
    (ChangeSpec.witness6 (enc := enc) (C := Try.checked) false ⟨#[], #[.slice none 0 0], []⟩ 8 (by kernel_rfl) (by kernel_rfl) (by kernel_rfl) (by kernel_rfl)) ?_
  intro W base args ds gs before hval0 hW hcnd _
  have hval : ∀ (j : Nat) t v, Try.f12.params[j]? = some t → args[j]? = some v → Value.okWide Try.prog W .any base t v := hval0
  have hW' := hW
  obtain ⟨p, q, hA0, hV, rfl, hfz, hnd⟩ := hW
  have hA : DataW.TrodAll enc Try.prog W 0 (fun _ => true) true Try.f12.params.toList args.toList ds p := hA0
  rw [Try.params12] at hA hval
  obtain ⟨v0, vs0, d0, ds0, p0, q0, hargs, rfl, rfl, h0, r0⟩ := trodAll_cons hA
  obtain ⟨rfl, rfl, rfl⟩ := trodAll_nil r0
  obtain rfl : args = #[v0] := by cases args; simp_all
  obtain ⟨rfl, rfl⟩ := trodVars_none hV
  obtain ⟨a0, len0, cap0, rfl⟩ := okWide_slice Try.underlying53 (hval 0 53 v0 rfl rfl)
  have k0 := h0
  have lt0 : ∀ x ∈ p0, x.block < W.heap.size := by obtain ⟨m, hm⟩ := k0; exact DataW.trod_lt m _ _ _ hm
  obtain ⟨z0, w0⟩ : ∃ zs, IsRow .u8 W a0 len0 cap0 zs := by
    obtain ⟨fuel, hf⟩ := h0
    rcases open_ints Try.underlying53 Try.underlying5 (by kernel_rfl) hf with ⟨hcs, _⟩ | ⟨x, l, c, zs, hcs, _, hl, hm, hz, _, hcell, hwz⟩
    · simp [Value.cells] at hcs
      obtain ⟨rfl, rfl, rfl⟩ := hcs
      exact ⟨[], .inl ⟨rfl, rfl, rfl, rfl⟩⟩
    · simp [Value.cells] at hcs
      obtain ⟨rfl, rfl, rfl⟩ := hcs
      exact ⟨zs, .inr ⟨_, rfl, hl, hm, by simpa using hz, hcell, hwz⟩⟩
  clear hA0 hval0
  refine (walk a0 len0 cap0 z0 W w0).mono fun e W' ⟨he, bel⟩ => ?_
  subst he
  exact ⟨_, rfl, _, _, _, [], _, [], hW', trodAll_mk1 (shut_bool Try.underlying4 _), (trodAll_cons_mk (Below.trod laidOut (by kernel_rfl) (of_decide_eq_true (by kernel_rfl)) k0 bel lt0) trodAll_mk0), rfl, bel.frame _, fun h => by cases h⟩

theorem over : Rows.fnChcNewRow.holds Try.pinned (OpenSpec.ofChange Rows.fnChcNewSpec) :=
  OpenClaim.holds_of_wide 12 Try.f12 rfl rfl rfl rfl rfl rfl rfl ⟨rfl, rfl, rfl, rfl, rfl⟩ rfl rfl rfl rfl rfl (by kernel_rfl) Try.func12 (by kernel_rfl)
    (of_decide_eq_true (by kernel_rfl)) (by unfold Func.isWrapper; first | (rw [if_pos (by decide +kernel)]; kernel_rfl) | (rw [if_neg (by decide +kernel)]; exact ⟨rfl, rfl⟩))
    (fun os started H enc _ => lifted os started H enc)

/-- THE STATEMENT. -/
theorem proved : Rows.FnChcNewSaid := over
#print axioms proved
end Go.Proofs.Ytoacgjjpipdkjaa.fnChcNew
