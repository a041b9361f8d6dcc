/- For every instruction (six ints), CodText of the program returns what CodText of the model returns (no condition; the tables read as the program's text lays them, which the card ties). -/
import Derived.Test.YtecdmafhjfnloaaDoorCards
import Derived.Test.YtecdmafhjfnloaaDoorTie
import Derived.Test.YtecdmafhjfnloaaDoorLaid2
import Derived.Test.YtecdmafhjfnloaaDoorTx2
import Derived.WalkKit
import Derived.ProofKit
import Derived.OpenShut
import Derived.ShutString
import Derived.SliceStrings
import Derived.ChangeOld
import Derived.Below
import Derived.SevenTiedAt
namespace Go.Proofs.YtecdmafhjfnloaaDoor.fnExactCodText
open Go.ChangeShapes Go.WideShapes Go.ChangeAt Go.RowKit
set_option linter.unusedVariables false

theorem walk (k0 d0 a0 b0 f0 n0 : Int) (w : World) (ht : Tabs2 w) :
    Calls Tryd.prog 8 #[.agg #[.int .i64 k0, .int .i64 d0, .int .i64 a0, .int .i64 b0, .int .i64 f0, .int .i64 n0]] w fun e w' => e = .returned (.bool true) ∧ Below w.heap.size w w' := by
  have F0 := Fr.alloc w (.cells #[.int .i64 k0, .int .i64 d0, .int .i64 a0, .int .i64 b0, .int .i64 f0, .int .i64 n0] 45)
  go_enter Tryd.func8, Tryd.ntmps8
  go_wp2_with fail
  refine (laws_toCodInst _ _ _ _ _ _ _).mono ?_
  rintro e u1 ⟨rfl, f1⟩
  go_wp2_with fail
  refine (spec_CodText _ _ _ _ _ _ _).mono ?_
  rintro e u2 ⟨rfl, f2⟩
  obtain ⟨c0, c1, c2, c3, c4, c5⟩ := ((Box.new w k0 d0 a0 b0 f0 n0 _).fr f1).fr f2
  have F2 := (F0.trans f1).trans f2
  go_wp2_with fail
  refine (laws_toCodInst _ _ _ _ _ _ _).mono ?_
  rintro e u3 ⟨rfl, f3⟩
  go_wp2_with fail
  refine (impl_CodText _ _ _ _ _ _ _ (ht.fr (F2.trans f3))).mono ?_
  rintro e u4 ⟨rfl, f4⟩
  go_wp2
  go_ret
  exact ⟨rfl, (F2.trans f3).trans f4⟩

set_option maxRecDepth 100000 in
theorem lifted (os : Os) (started : os.Started) (H : Type) (enc : TypeId × Value → H) :
    ReturnsInHanded {} Tryd.checked os 8 .any (fun w args => (Rows.fnExactCodTextSpec.pre enc Tryd.prog Tryd.f8 [] false w args ∧ laidMetH Tryd.prog laidAll2 w) ∧ sizedMet enc Tryd.prog Tryd.f8 (OpenSpec.ofChange Rows.fnExactCodTextSpec) false w args)
      (Rows.fnExactCodTextSpec.post enc Tryd.prog Tryd.f8 false true false false) := by
  refine returnsInHanded_of_change_and (C := Tryd.checked) (X := fun w _ => laidMetH Tryd.prog laidAll2 w) (fun _ _ _ hh h => h.of_heap hh) own started (by kernel_rfl) Tryd.func8
    (ChangeSpec.witness_shaped (enc := enc) (C := Tryd.checked) (os := os) (X := fun w _ => laidMetH Tryd.prog laidAll2 w) false (World.doorLaid Tryd.prog 400 os) #[.agg #[.int .i64 0, .int .i64 0, .int .i64 0, .int .i64 0, .int .i64 0, .int .i64 0]] 8 rfl (World.shaped_of_RefB (by kernel_rfl) (by kernel_rfl)) (by kernel_rfl) (by kernel_rfl) (by kernel_rfl) (door_met2 os _)) ?_
  intro W base args ds gs before hval0 hW _ _ hL _
  have hval : ∀ (j : Nat) t v, Tryd.f8.params[j]? = some t → args[j]? = some v → Value.okWide Tryd.prog W .any base t v := hval0
  have hW' := hW
  obtain ⟨p, q, hA0, hV0, rfl, hfz, hnd⟩ := hW
  have hA : DataW.TrodAll enc Tryd.prog W 0 (fun _ => true) true Tryd.f8.params.toList args.toList ds p := hA0
  have hV : DataW.TrodVars enc Tryd.prog W (fun _ => true) laidNames2 gs q := hV0
  rw [Tryd.params8] at hA hval
  obtain ⟨v0, vs0, d0, ds0, p0, q0, hargs, rfl, rfl, h0, r0⟩ := trodAll_cons hA
  obtain ⟨rfl, rfl, rfl⟩ := trodAll_nil r0
  obtain rfl : args = #[v0] := by cases args; simp_all
  have hV1 := hV
  obtain ⟨g0, g1, g2, rfl⟩ := three_of (trodVars_len hV1)
  have k0 := h0
  have lt0 : ∀ x ∈ p0, x.block < W.heap.size := by obtain ⟨m, hm⟩ := k0; exact DataW.trod_lt m _ _ _ hm
  obtain ⟨xk0, xd0, xa0, xb0, xf0, xn0, rfl⟩ := open_inst (by kernel_rfl) (by kernel_rfl) (hval 0 45 v0 rfl rfl) h0
  clear hA0 hval0 hV1
  refine (walk xk0 xd0 xa0 xb0 xf0 xn0 W (tabs2_of_laid hL) ).mono fun e W' ⟨he, bel⟩ => ?_
  subst he
  exact ⟨_, rfl, _, _, _, [], _, _, hW', trodAll_mk1 (shut_bool Tryd.underlying4 _), (trodAll_cons_mk (Below.trod laidOut (by kernel_rfl) (of_decide_eq_true (by kernel_rfl)) k0 bel lt0) trodAll_mk0), bel.trodVars laidOut (by kernel_rfl) hV, bel.frame _, fun h => by cases h⟩

theorem over : Rows.fnExactCodTextRow.holds Tryd.pinned (OpenSpec.ofChange Rows.fnExactCodTextSpec) :=
  OpenClaim.holds_of_wide 8 Tryd.f8 rfl rfl rfl rfl rfl rfl rfl ⟨rfl, rfl, rfl, rfl, rfl⟩ rfl rfl rfl rfl rfl (by kernel_rfl) Tryd.func8 (by kernel_rfl)
    (of_decide_eq_true (by kernel_rfl)) (by unfold Func.isWrapper; first | (rw [if_pos (by decide +kernel)]; kernel_rfl) | (rw [if_neg (by decide +kernel)]; exact ⟨rfl, rfl⟩))
    (fun os started H enc _ => lifted os started H enc)

/-- THE STATEMENT: the tied card. -/
theorem proved : Rows.FnExactCodTextCardSaid :=
  Claim7.holds_tied_plain_at .later [] [.data, .data, .data, .wider, .data, .data] true (true, "b52127b27052be8e1379b4928e638b8b16f290584df6f950925e06d10987c8aa") true
    over (fun _ h => by cases h) (by kernel_rfl) (fun _ h => by cases h) fnExactCodText_row_tie rfl ⟨rfl, rfl⟩ (by kernel_rfl) rfl
    (fun f fn hf hfn => by
      obtain rfl : f = 8 := Option.some.inj ((show Tryd.prog.funcNamed "loop.example/harbinger/laws.FnExactCodText" = some 8 by kernel_rfl).symm.trans hf) |>.symm
      obtain rfl : fn = Tryd.f8 := (Option.some.inj (Tryd.func8.symm.trans hfn)).symm
      exact ⟨by kernel_rfl, fun j t ht => by
        rw [Tryd.params8] at ht
        have hm : t ∈ [45] := by simpa using Array.mem_of_getElem? ht
        have hall : ([45].all fun u => !Tryd.prog.wantsStandIn u) = true := by kernel_rfl
        exact (show Tryd.prog.wantsStandIn t = false by simpa using List.all_eq_true.1 hall t hm)⟩)
    (by kernel_rfl)
#print axioms proved
end Go.Proofs.YtecdmafhjfnloaaDoor.fnExactCodText
