/- For every code (any bytes), law FnAluShift returns true and its argument reads as before (no condition). -/
/-
  THE SHELL OF A PROOF OF 'Rows.FnAluShiftSaid' ('loop.example/harbinger/laws.FnAluShift'), WRITTEN BY PROGRAM (proof-skeleton.mjs, third state) off the guide's own print for that function. Not trusted: Lean checks it.
  YOURS IS THE HOLE MARKED 'HOLE' (it bears 'sorry'). ALL ELSE IS THE GUIDE's OWN WAY (howto/template/XProofs.lean; Derived/Test/ChunkProofs.lean for 'Below') at this function's number and types: leave it.
-/
import Derived.Test.YtgiiadmpbnkpkaaRows
import Derived.Test.YtgiiadmpbnkpkaaWords
import Derived.Test.YtgiiadmpbnkpkaaAluMath
import Derived.Test.YtgiiadmpbnkpkaaReader
import Derived.Test.YtgiiadmpbnkpkaaDraws1
import Derived.Test.YtgiiadmpbnkpkaaRegion
import Derived.Test.YtgiiadmpbnkpkaaDrawAlu
import Derived.WalkKit
import Derived.ProofKit
import Derived.OpenShut
import Derived.ShutString
import Derived.ChangeOld
import Derived.Below
namespace Go.Proofs.Ytgiiadmpbnkpkaa.fnAluShift
open Go.ChangeShapes Go.WideShapes Go.ChangeAt Go.RowKit
open Go.ChangeMaps (open_string shut_string)
set_option linter.unusedVariables false

theorem own : ownKnob Try.prog.godebug = none := by kernel_rfl
theorem laidOut : laidOutB Try.prog = true := by kernel_rfl

/-- WHAT THE WALK IS TOLD OF A SLICE OF INTEGERS THAT CAME IN: it is nil; or it leads to a row of 'cap' cells, the numbers 'zs' (the first 'len' are its elements, the rest its spare room), each fitting its kind. -/
def IsRow (k : IntKind) (w : World) (a : Option Addr) (len cap : Nat) (zs : List Int) : Prop :=
  (a = none ∧ len = 0 ∧ cap = 0 ∧ zs = []) ∨
  ∃ x, a = some x ∧ len ≤ cap ∧ cap ≤ maxLen ∧ zs.length = cap ∧ (∀ i, i < zs.length → w.cell? (x.add i) = some (.int k (zs.getD i 0))) ∧ ∀ n ∈ zs, (Lit.int k n).wf = true

/-! ### STEP 1: THE WALK: the Go text returns true, AND WRITES NOTHING THAT WAS THERE: 'Below w.heap.size w w'' (Derived/Below.lean: '.refl', '.alloc', '.drew', '.setCell' at a new block, '.trans'). Open each 'IsRow' by 'rcases' AHEAD of 'go_enter'; part every test ahead of the walk. -/
set_option maxRecDepth 100000 in
set_option maxHeartbeats 2000000 in
theorem walk (a0 : Option Addr) (len0 cap0 : Nat) (z0 : List Int) (w : World) (w0 : IsRow .u8 w a0 len0 cap0 z0) :
    Calls Try.prog 10 #[.slice a0 len0 cap0] w fun e w' => e = .returned (.bool true) ∧ Below w.heap.size w w' := by
  have hc : Code1 w.heap.size w a0 len0 cap0 := by
    rcases w0 with ⟨rfl, rfl, rfl, rfl⟩ | ⟨x, rfl, hl, hm, hz, hcell, hwz⟩
    · exact ⟨Nat.le_refl _, Nat.le_refl _, Nat.zero_le _, .inl rfl, fun _ => rfl⟩
    · exact ⟨Nat.le_refl _, hl, hm, bytes_of_row hl hz hcell hwz, by simp⟩
  clear w0
  by_cases hlen : (1048576 : Int) < (len0 : Int)
  · go_enter Try.func10, Try.ntmps10
    go_wp2
    go_ret
    exact ⟨rfl, Below.refl _ _⟩
  · go_enter Try.func10, Try.ntmps10
    go_wp2_with fail
    refine (DrawAluDo w.heap.size a0 len0 cap0 w hc).mono ?_
    rintro e w1 ⟨f, a, b, rfl, b1⟩
    cases ha : okB a
    · have hm : aluD f a b = -1 := by simp [aluD, ha]
      go_wp2_with (first | (go_at_call 27; refine (impl_AluDo _ _ _ _).mono ?_; rintro e w' ⟨rfl, rfl⟩) | (go_at_call 28; refine (spec_AluDo _ _ _ _).mono ?_; rintro e w' ⟨rfl, rfl⟩) | (go_at_call 17; refine (spec_WrdOk _ _).mono ?_; rintro e w' ⟨rfl, rfl⟩) | (go_at_call 21; refine (laws_haOk _).mono ?_; rintro e w' ⟨rfl, rfl⟩))
      all_goals
        go_ret
        exact ⟨rfl, b1⟩
    cases hb : okB b
    · have hm : aluD f a b = -1 := by simp [aluD, hb]
      go_wp2_with (first | (go_at_call 27; refine (impl_AluDo _ _ _ _).mono ?_; rintro e w' ⟨rfl, rfl⟩) | (go_at_call 28; refine (spec_AluDo _ _ _ _).mono ?_; rintro e w' ⟨rfl, rfl⟩) | (go_at_call 17; refine (spec_WrdOk _ _).mono ?_; rintro e w' ⟨rfl, rfl⟩) | (go_at_call 21; refine (laws_haOk _).mono ?_; rintro e w' ⟨rfl, rfl⟩))
      all_goals
        go_ret
        exact ⟨rfl, b1⟩
    obtain ⟨a0, a1⟩ := okB_true ha
    obtain ⟨c0, c1⟩ := okB_true hb
    obtain ⟨L1, L2, L3, L4, L5⟩ := shift_laws a b ha hb
    obtain ⟨p0, p1⟩ := shl_bd a b a0 a1
    have H1 := Lib.hid L1
    have H2 := Lib.hid L2
    have H3 := Lib.hid L3
    have H4 := Lib.hid L4
    have H5 := Lib.hid L5
    clear L1 L2 L3 L4 L5
    go_wp2_with (first | (go_at_call 27; refine (impl_AluDo _ _ _ _).mono ?_; rintro e w' ⟨rfl, rfl⟩) | (go_at_call 28; refine (spec_AluDo _ _ _ _).mono ?_; rintro e w' ⟨rfl, rfl⟩) | (go_at_call 17; refine (spec_WrdOk _ _).mono ?_; rintro e w' ⟨rfl, rfl⟩) | (go_at_call 21; refine (laws_haOk _).mono ?_; rintro e w' ⟨rfl, rfl⟩))
    go_loop [7, 8, 9] (fun l r k => ∃ n : Nat, (n : Int) ≤ b % 16 ∧ l = .int .i64 (a * 2 ^ n % 65536) ∧ r = .int .i64 (a / 2 ^ n) ∧ k = .int .i64 n) (fun _ _ k => 16 - (intOf k).toNat)
    case atStart => exact ⟨0, by omega, by rw [Int.pow_zero, Int.mul_one, Int.emod_eq_of_lt a0 a1], by rw [Int.pow_zero, Int.ediv_one], rfl⟩
    case round =>
      obtain ⟨n, hn, rfl, rfl, rfl⟩ := hrel
      obtain ⟨S1, S2⟩ := shift_step a n ha
      have T1 := Lib.hid S1
      have T2 := Lib.hid S2
      clear S1 S2
      by_cases hlt : (n : Int) < b % 16
      · have q0 : 0 ≤ a / 2 ^ n := Int.ediv_nonneg a0 (Int.le_of_lt (Int.pow_pos (by decide)))
        have q1 : a / 2 ^ n < 65536 := Int.lt_of_le_of_lt (Int.ediv_le_self _ a0) a1
        go_wp2_with (go_at_call 27; refine (impl_AluDo _ _ _ _).mono ?_; rintro e w' ⟨rfl, rfl⟩; try (first | rw [T1.out]))
        go_round
        case rel => exact ⟨n + 1, by omega, rfl, by rw [T2.out], by go_num⟩
        case measure => simp [intOf]; omega
      · obtain rfl : n = (b % 16).toNat := by omega
        by_cases hs : a * 2 ^ (b % 16).toNat < 65536
        · have H6 := Lib.hid (H5.out hs)
          go_wp2_with (go_at_call 27; refine (impl_AluDo _ _ _ _).mono ?_; rintro e w' ⟨rfl, rfl⟩; try (first | rw [H1.out] | rw [H2.out] | rw [H3.out] | rw [H4.out] | rw [H6.out]))
          all_goals
            go_ret
            exact ⟨rfl, b1⟩
        · go_wp2_with (go_at_call 27; refine (impl_AluDo _ _ _ _).mono ?_; rintro e w' ⟨rfl, rfl⟩; try (first | rw [H1.out] | rw [H2.out] | rw [H3.out] | rw [H4.out]))
          all_goals
            go_ret
            exact ⟨rfl, b1⟩

/-! ### THE ROW's STEP: WRITTEN OUT: LEAVE IT -/
set_option maxRecDepth 100000 in
theorem lifted (os : Os) (started : os.Started) (H : Type) (enc : TypeId × Value → H) :
    ReturnsInHanded {} Try.checked os 10 .any (Rows.fnAluShiftSpec.pre6 enc Try.prog Try.f10 Rows.fnAluShiftRow.domain false) (Rows.fnAluShiftSpec.post enc Try.prog Try.f10 false true false false) := by
  refine returnsInHanded_of_change (C := Try.checked) own started (by kernel_rfl) Try.func10
    (ChangeSpec.witness6 (enc := enc) (C := Try.checked) false ⟨#[], #[.slice none 0 0], []⟩ 8 (by kernel_rfl) (by kernel_rfl) (by kernel_rfl) (by kernel_rfl)) ?_
  intro W base args ds gs before hval0 hW hcnd _
  have hval : ∀ (j : Nat) t v, Try.f10.params[j]? = some t → args[j]? = some v → Value.okWide Try.prog W .any base t v := hval0
  have hW' := hW
  obtain ⟨p, q, hA0, hV, rfl, hfz, hnd⟩ := hW
  have hA : DataW.TrodAll enc Try.prog W 0 (fun _ => true) true Try.f10.params.toList args.toList ds p := hA0
  rw [Try.params10] at hA hval
  obtain ⟨v0, vs0, d0, ds0, p0, q0, hargs, rfl, rfl, h0, r0⟩ := trodAll_cons hA
  obtain ⟨rfl, rfl, rfl⟩ := trodAll_nil r0
  obtain rfl : args = #[v0] := by cases args; simp_all
  obtain ⟨rfl, rfl⟩ := trodVars_none hV
  obtain ⟨a0, len0, cap0, rfl⟩ := okWide_slice Try.underlying22 (hval 0 22 v0 rfl rfl)
  have k0 := h0
  have lt0 : ∀ x ∈ p0, x.block < W.heap.size := by obtain ⟨m, hm⟩ := k0; exact DataW.trod_lt m _ _ _ hm
  obtain ⟨z0, w0⟩ : ∃ zs, IsRow .u8 W a0 len0 cap0 zs := by
    obtain ⟨fuel, hf⟩ := h0
    rcases open_ints Try.underlying22 Try.underlying5 (by kernel_rfl) hf with ⟨hcs, _⟩ | ⟨x, l, c, zs, hcs, _, hl, hm, hz, _, hcell, hwz⟩
    · simp [Value.cells] at hcs
      obtain ⟨rfl, rfl, rfl⟩ := hcs
      exact ⟨[], .inl ⟨rfl, rfl, rfl, rfl⟩⟩
    · simp [Value.cells] at hcs
      obtain ⟨rfl, rfl, rfl⟩ := hcs
      exact ⟨zs, .inr ⟨_, rfl, hl, hm, by simpa using hz, hcell, hwz⟩⟩
  clear hA0 hval0
  refine (walk a0 len0 cap0 z0 W w0).mono fun e W' ⟨he, bel⟩ => ?_
  subst he
  exact ⟨_, rfl, _, _, _, [], _, [], hW', trodAll_mk1 (shut_bool Try.underlying4 _), (trodAll_cons_mk (Below.trod laidOut (by kernel_rfl) (of_decide_eq_true (by kernel_rfl)) k0 bel lt0) trodAll_mk0), rfl, bel.frame _, fun h => by cases h⟩

theorem over : Rows.fnAluShiftRow.holds Try.pinned (OpenSpec.ofChange Rows.fnAluShiftSpec) :=
  OpenClaim.holds_of_wide 10 Try.f10 rfl rfl rfl rfl rfl rfl rfl ⟨rfl, rfl, rfl, rfl, rfl⟩ rfl rfl rfl rfl rfl (by kernel_rfl) Try.func10 (by kernel_rfl)
    (of_decide_eq_true (by kernel_rfl)) (by unfold Func.isWrapper; first | (rw [if_pos (by decide +kernel)]; kernel_rfl) | (rw [if_neg (by decide +kernel)]; exact ⟨rfl, rfl⟩))
    (fun os started H enc _ => lifted os started H enc)

/-- ████ THE STATEMENT ████ -/
theorem proved : Rows.FnAluShiftSaid := over
#print axioms proved
end Go.Proofs.Ytgiiadmpbnkpkaa.fnAluShift
