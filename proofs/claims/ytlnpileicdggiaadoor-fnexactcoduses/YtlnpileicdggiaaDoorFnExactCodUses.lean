/- For every instruction (six ints), CodUses of the program returns what CodUses of the model returns, in memory of its own that another call does not share (no condition; the two tables read as the program's text lays them, which the card ties). -/
import Derived.Test.YtlnpileicdggiaaDoorCards
import Derived.Test.YtlnpileicdggiaaDoorTie
import Derived.Test.YtlnpileicdggiaaDoorLaid
import Derived.Test.YtlnpileicdggiaaDoorCodUsesS
import Derived.Test.YtlnpileicdggiaaDoorRows2
import Derived.WalkKit
import Derived.ProofKit
import Derived.OpenShut
import Derived.ShutString
import Derived.ChangeOld
import Derived.Below
import Derived.SevenTiedAt
namespace Go.Proofs.YtlnpileicdggiaaDoor.fnExactCodUses
open Go.ChangeShapes Go.WideShapes Go.ChangeAt Go.RowKit
set_option linter.unusedVariables false

set_option maxHeartbeats 2000000 in
theorem walk (k0 d0 a0 b0 f0 n0 : Int) (w : World) (ht : Tabs w) :
    Calls Tryd.prog 9 #[.agg #[.int .i64 k0, .int .i64 d0, .int .i64 a0, .int .i64 b0, .int .i64 f0, .int .i64 n0]] w fun e w' => e = .returned (.bool true) ∧ Below w.heap.size w w' := by
  have F0 := Fr.alloc w (.cells #[.int .i64 k0, .int .i64 d0, .int .i64 a0, .int .i64 b0, .int .i64 f0, .int .i64 n0] 40)
  have hL : (usL k0 d0 a0 b0 f0 n0).length ≤ 1000 := by
    unfold usL us2
    repeat' split
    all_goals simp
  generalize hU : usL k0 d0 a0 b0 f0 n0 = L at hL
  have HU := Lib.hid hU
  clear hU
  go_enter Tryd.func9, Tryd.ntmps9
  go_wp2_with fail
  refine (laws_toCodInst _ _ _ _ _ _ _).mono ?_
  rintro e u1 ⟨rfl, f1⟩
  have F1 := F0.trans f1
  go_wp2_with fail
  refine (spec_CodUses _ _ _ _ _ _ _).mono ?_
  rintro e u2 ⟨v0, rfl, O2, f2⟩
  rw [HU.out] at O2
  have F2 := F1.trans f2
  have B2 := ((Box.new w k0 d0 a0 b0 f0 n0 _).fr f1).fr f2
  have HB2 := Lib.hid B2
  obtain ⟨c0, c1, c2, c3, c4, c5⟩ := B2
  go_wp2_with fail
  refine (laws_toCodInst _ _ _ _ _ _ _).mono ?_
  rintro e u3 ⟨rfl, f3⟩
  have F3 := F2.trans f3
  have O3 := O2.fr f3
  go_wp2_with fail
  refine (impl_CodUses _ _ _ _ _ _ _ (ht.fr F3)).mono ?_
  rintro e u4 ⟨v1, rfl, P4, f4⟩
  rw [HU.out] at P4
  have F4 := F3.trans f4
  have HB4 := Lib.hid ((HB2.out.fr f3).fr f4)
  obtain ⟨ao0, cap0, S0⟩ := O3.sl
  obtain ⟨ao1, cap1, S1⟩ := P4.sl
  have T0 := Lib.hid (S0.fr f4)
  have T1 := Lib.hid S1
  have LT := Lib.hid (show ∀ g, ao0 = some ⟨g, 0, none⟩ → 0 < L.length → g < u3.heap.size from fun g hg h0 => by
    obtain ⟨g', e', _, hlt, _⟩ := S0.at0 h0
    rw [e'] at hg
    simp at hg
    omega)
  obtain rfl := S0.val
  obtain rfl := S1.val
  clear S0 S1 O2 O3 P4 c0 c1 c2 c3 c4 c5
  go_wp2_with fail
  refine (laws_eqIntS_same _ _ _ _ _ _ _ _ _ _ _ T1.out T0.out hL).mono ?_
  rintro e u5 ⟨rfl, m, rfl⟩
  have D5 : Fr u4 (u4.drewN m) := Below.drewN (Below.refl _ _) m
  have F5 := F4.trans D5
  have T5 := Lib.hid (T1.out.fr D5)
  have T5' := Lib.hid (T0.out.fr D5)
  have B5 := Lib.hid (HB4.out.fr D5)
  generalize u4.drewN m = u5 at *
  go_wp2_with fail
  refine (laws_markIntS _ _ _ _ _ _ _ 1 T5.out hL (by omega) (by omega)).mono ?_
  rintro e u6 ⟨rfl, S6, f6⟩
  have F6 : Fr w u6 := F5.trans' f6 F3.size
  have T6 := Lib.hid (T5'.out.low f6 LT.out)
  have B6 := Lib.hid (B5.out.below f6 (Nat.lt_of_lt_of_le HB2.out.lt f3.size))
  go_wp2_with fail
  refine (laws_heldIntS _ _ _ _ _ _ 1 S6 hL (by omega) (by omega)).mono ?_
  rintro e u7 ⟨rfl, rfl⟩
  have n0' : ¬ (1 : Int) + (L.length : Int) < 0 := by omega
  obtain ⟨c0, c1, c2, c3, c4, c5⟩ := B6.out
  go_wp2_with fail
  refine (laws_toCodInst _ _ _ _ _ _ _).mono ?_
  rintro e u8 ⟨rfl, f8⟩
  have F8 := F6.trans f8
  go_wp2_with fail
  refine (impl_CodUses _ _ _ _ _ _ _ (ht.fr F8)).mono ?_
  rintro e u9 ⟨v2, rfl, P9, f9⟩
  rw [HU.out] at P9
  have F9 := F8.trans f9
  obtain ⟨ao2, cap2, S2⟩ := P9.sl
  have T9 := Lib.hid ((T6.out.fr f8).fr f9)
  have S9 := Lib.hid ((S6.fr f8).fr f9)
  have T2 := Lib.hid S2
  obtain rfl := S2.val
  clear S2 P9 c0 c1 c2 c3 c4 c5 S6
  go_wp2_with fail
  refine (laws_eqIntS_same _ _ _ _ _ _ _ _ _ _ _ T2.out T9.out hL).mono ?_
  rintro e u10 ⟨rfl, m2, rfl⟩
  have D10 : Fr u9 (u9.drewN m2) := Below.drewN (Below.refl _ _) m2
  have F10 := F9.trans D10
  have S10 := S9.out.fr D10
  generalize u9.drewN m2 = u10 at *
  go_wp2_with fail
  refine (laws_heldIntS _ _ _ _ _ _ 1 S10 hL (by omega) (by omega)).mono ?_
  rintro e u11 ⟨rfl, rfl⟩
  go_wp2
  go_ret
  exact ⟨rfl, F10⟩

set_option maxRecDepth 100000 in
theorem lifted (os : Os) (started : os.Started) (H : Type) (enc : TypeId × Value → H) :
    ReturnsInHanded {} Tryd.checked os 9 .any (fun w args => (Rows.fnExactCodUsesSpec.pre enc Tryd.prog Tryd.f9 [] false w args ∧ laidMetH Tryd.prog laidAll w) ∧ sizedMet enc Tryd.prog Tryd.f9 (OpenSpec.ofChange Rows.fnExactCodUsesSpec) false w args)
      (Rows.fnExactCodUsesSpec.post enc Tryd.prog Tryd.f9 false true false false) := by
  refine returnsInHanded_of_change_and (C := Tryd.checked) (X := fun w _ => laidMetH Tryd.prog laidAll w) (fun _ _ _ hh h => h.of_heap hh) own started (by kernel_rfl) Tryd.func9
    (ChangeSpec.witness_shaped (enc := enc) (C := Tryd.checked) (os := os) (X := fun w _ => laidMetH Tryd.prog laidAll w) false (World.doorLaid Tryd.prog 400 os) #[.agg #[.int .i64 0, .int .i64 0, .int .i64 0, .int .i64 0, .int .i64 0, .int .i64 0]] 8 rfl (World.shaped_of_RefB (by kernel_rfl) (by kernel_rfl)) (by kernel_rfl) (by kernel_rfl) (by kernel_rfl) (door_met os _)) ?_
  intro W base args ds gs before hval0 hW _ _ hL _
  have hval : ∀ (j : Nat) t v, Tryd.f9.params[j]? = some t → args[j]? = some v → Value.okWide Tryd.prog W .any base t v := hval0
  have hW' := hW
  obtain ⟨p, q, hA0, hV0, rfl, hfz, hnd⟩ := hW
  have hA : DataW.TrodAll enc Tryd.prog W 0 (fun _ => true) true Tryd.f9.params.toList args.toList ds p := hA0
  have hV : DataW.TrodVars enc Tryd.prog W (fun _ => true) laidNames gs q := hV0
  rw [Tryd.params9] at hA hval
  obtain ⟨v0, vs0, d0, ds0, p0, q0, hargs, rfl, rfl, h0, r0⟩ := trodAll_cons hA
  obtain ⟨rfl, rfl, rfl⟩ := trodAll_nil r0
  obtain rfl : args = #[v0] := by cases args; simp_all
  have hV1 := hV
  obtain ⟨g0, t0, cs0, f0, e0, s0, g1, t1, cs1, f1, e1, s1, rfl, _⟩ := trodVars_two hV1
  have k0 := h0
  have lt0 : ∀ x ∈ p0, x.block < W.heap.size := by obtain ⟨m, hm⟩ := k0; exact DataW.trod_lt m _ _ _ hm
  obtain ⟨xk0, xd0, xa0, xb0, xf0, xn0, rfl⟩ := open_inst (by kernel_rfl) (by kernel_rfl) (hval 0 40 v0 rfl rfl) h0
  clear hA0 hval0 hV1
  refine (walk xk0 xd0 xa0 xb0 xf0 xn0 W (tabs_of_laid hL) ).mono fun e W' ⟨he, bel⟩ => ?_
  subst he
  exact ⟨_, rfl, _, _, _, [], _, _, hW', trodAll_mk1 (shut_bool Tryd.underlying4 _), (trodAll_cons_mk (Below.trod laidOut (by kernel_rfl) (of_decide_eq_true (by kernel_rfl)) k0 bel lt0) trodAll_mk0), bel.trodVars laidOut (by kernel_rfl) hV, bel.frame _, fun h => by cases h⟩

theorem over : Rows.fnExactCodUsesRow.holds Tryd.pinned (OpenSpec.ofChange Rows.fnExactCodUsesSpec) :=
  OpenClaim.holds_of_wide 9 Tryd.f9 rfl rfl rfl rfl rfl rfl rfl ⟨rfl, rfl, rfl, rfl, rfl⟩ rfl rfl rfl rfl rfl (by kernel_rfl) Tryd.func9 (by kernel_rfl)
    (of_decide_eq_true (by kernel_rfl)) (by unfold Func.isWrapper; first | (rw [if_pos (by decide +kernel)]; kernel_rfl) | (rw [if_neg (by decide +kernel)]; exact ⟨rfl, rfl⟩))
    (fun os started H enc _ => lifted os started H enc)

/-- THE STATEMENT: the tied card. -/
theorem proved : Rows.FnExactCodUsesCardSaid :=
  Claim7.holds_tied_plain_at .later [] [.wider, .data] true (true, "756414037e381c4a4d4b5db854b326f9094ec1dc1a8250e609331890c4ee4a44") false
    over (fun _ h => by cases h) (by kernel_rfl) (fun _ h => by cases h) fnExactCodUses_row_tie rfl ⟨rfl, rfl⟩ (by kernel_rfl) rfl
    (fun f fn hf hfn => by
      obtain rfl : f = 9 := Option.some.inj ((show Tryd.prog.funcNamed "loop.example/harbinger/laws.FnExactCodUses" = some 9 by kernel_rfl).symm.trans hf) |>.symm
      obtain rfl : fn = Tryd.f9 := (Option.some.inj (Tryd.func9.symm.trans hfn)).symm
      exact ⟨by kernel_rfl, fun j t ht => by
        rw [Tryd.params9] at ht
        have hm : t ∈ [40] := by simpa using Array.mem_of_getElem? ht
        have hall : ([40].all fun u => !Tryd.prog.wantsStandIn u) = true := by kernel_rfl
        exact (show Tryd.prog.wantsStandIn t = false by simpa using List.all_eq_true.1 hall t hm)⟩)
    (by kernel_rfl)
#print axioms proved
end Go.Proofs.YtlnpileicdggiaaDoor.fnExactCodUses
