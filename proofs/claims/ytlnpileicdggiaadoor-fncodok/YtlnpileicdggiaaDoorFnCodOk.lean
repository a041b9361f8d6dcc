/- For every code (any bytes), law FnCodOk returns true and its argument reads as before (no condition; the two tables read as the program's text lays them, which the card ties). -/
import Derived.Test.YtlnpileicdggiaaDoorCards
import Derived.Test.YtlnpileicdggiaaDoorTie
import Derived.Test.YtlnpileicdggiaaDoorLaid
import Derived.Test.YtlnpileicdggiaaDoorCodSd
import Derived.Test.YtlnpileicdggiaaDoorCodUp
import Derived.Test.YtlnpileicdggiaaDoorCodFacts
import Derived.WalkKit
import Derived.ProofKit
import Derived.OpenShut
import Derived.ShutString
import Derived.ChangeOld
import Derived.Below
import Derived.SevenTiedAt
namespace Go.Proofs.YtlnpileicdggiaaDoor.fnCodOk
open Go.ChangeShapes Go.WideShapes Go.ChangeAt Go.RowKit
set_option linter.unusedVariables false

def IsRow (k : IntKind) (w : World) (a : Option Addr) (len cap : Nat) (zs : List Int) : Prop :=
  (a = none ∧ len = 0 ∧ cap = 0 ∧ zs = []) ∨
  ∃ x, a = some x ∧ len ≤ cap ∧ cap ≤ maxLen ∧ zs.length = cap ∧ (∀ i, i < zs.length → w.cell? (x.add i) = some (.int k (zs.getD i 0))) ∧ ∀ n ∈ zs, (Lit.int k n).wf = true

set_option maxRecDepth 100000 in
set_option maxHeartbeats 4000000 in
theorem walk (a0 : Option Addr) (len0 cap0 : Nat) (z0 : List Int) (w : World) (ht : Tabs w) (w0 : IsRow .u8 w a0 len0 cap0 z0) :
    Calls Tryd.prog 3 #[.slice a0 len0 cap0] w fun e w' => e = .returned (.bool true) ∧ Below w.heap.size w w' := by
  have hc : Code1 w.heap.size w a0 len0 cap0 := by
    rcases w0 with ⟨rfl, rfl, rfl, rfl⟩ | ⟨x, rfl, hl, hm, hz, hcell, hwz⟩
    · exact ⟨Nat.le_refl _, Nat.le_refl _, Nat.zero_le _, .inl rfl, fun _ => rfl⟩
    · exact ⟨Nat.le_refl _, hl, hm, bytes_of_row hl hz hcell hwz, by simp⟩
  clear w0
  by_cases hlen : (1048576 : Int) < (len0 : Int)
  · go_enter Tryd.func3, Tryd.ntmps3
    go_wp2
    go_ret
    exact ⟨rfl, Below.refl _ _⟩
  go_enter Tryd.func3, Tryd.ntmps3
  go_wp2_with fail
  refine (DrawCodOk w.heap.size a0 len0 cap0 w hc).mono ?_
  rintro e u1 ⟨k, d, a, b, f, n, rfl, b1⟩
  have F1 : Fr w (u1.alloc (.cells #[.int .i64 k, .int .i64 d, .int .i64 a, .int .i64 b, .int .i64 f, .int .i64 n] 24)) := Fr.trans b1 (Fr.alloc _ _)
  go_wp2_with fail
  refine (impl_CodOk _ _ _ _ _ _ _ (ht.fr F1)).mono ?_
  rintro e u2 ⟨rfl, f2⟩
  have B2 := (Box.new u1 k d a b f n 24).fr f2
  obtain ⟨c0, c1, c2, c3, c4, c5⟩ := id B2
  go_wp2_with fail
  refine (spec_CodOk _ _ _ _ _ _ _).mono ?_
  rintro e u3 ⟨rfl, f3⟩
  rw [sok_eq]
  have B3 := Lib.hid (B2.fr f3)
  have F3 := (F1.trans f2).trans f3
  clear c0 c1 c2 c3 c4 c5 B2
  cases hq : iok k d a b f n
  · go_wp2_with (go_at_call 14; refine (laws_haOk _).mono ?_; rintro e w' ⟨rfl, rfl⟩)
    go_ret
    exact ⟨rfl, F3⟩
  · have hk := iok_k hq
    have H1 := Lib.hid (iok_d8 (k := k) (a := a) (b := b) (f := f) (n := n))
    have H2 := Lib.hid (iok_n512 (k := k) (d := d) (a := a) (b := b) (f := f))
    have H3 := Lib.hid (iok_b1 hq)
    have H4 := Lib.hid (iok_zero hk)
    clear hk
    obtain ⟨c0, c1, c2, c3, c4, c5⟩ := id B3.out
    obtain ⟨d0, d1, d2, d3, d4, d5⟩ := B3.out.fr (Fr.alloc u3 (.cells #[.int .i64 k, .int .i64 8, .int .i64 a, .int .i64 b, .int .i64 f, .int .i64 n] 24))
    obtain ⟨e0, e1, e2, e3, e4, e5⟩ := (B3.out.fr (Fr.alloc u3 (.cells #[.int .i64 k, .int .i64 8, .int .i64 a, .int .i64 b, .int .i64 f, .int .i64 n] 24))).fr (Fr.alloc _ (.cells #[.int .i64 k, .int .i64 d, .int .i64 a, .int .i64 b, .int .i64 f, .int .i64 512] 24))
    have BC := Lib.hid (((B3.out.fr (Fr.alloc u3 (.cells #[.int .i64 k, .int .i64 8, .int .i64 a, .int .i64 b, .int .i64 f, .int .i64 n] 24))).fr (Fr.alloc _ (.cells #[.int .i64 k, .int .i64 d, .int .i64 a, .int .i64 b, .int .i64 f, .int .i64 512] 24))).fr (Fr.alloc _ (.cells #[.int .i64 k, .int .i64 d, .int .i64 a, .int .i64 1, .int .i64 f, .int .i64 n] 24)))
    have BX := Lib.hid (((Box.new u3 k 8 a b f n 24).fr (Fr.alloc _ (.cells #[.int .i64 k, .int .i64 d, .int .i64 a, .int .i64 b, .int .i64 f, .int .i64 512] 24))).fr (Fr.alloc _ (.cells #[.int .i64 k, .int .i64 d, .int .i64 a, .int .i64 1, .int .i64 f, .int .i64 n] 24)))
    have BY := Lib.hid ((Box.new' (u3.alloc (.cells #[.int .i64 k, .int .i64 8, .int .i64 a, .int .i64 b, .int .i64 f, .int .i64 n] 24)) (u3.heap.size + 1) (by simp) k d a b f 512 24).fr (Fr.alloc _ (.cells #[.int .i64 k, .int .i64 d, .int .i64 a, .int .i64 1, .int .i64 f, .int .i64 n] 24)))
    have BZ := Lib.hid (Box.new' ((u3.alloc (.cells #[.int .i64 k, .int .i64 8, .int .i64 a, .int .i64 b, .int .i64 f, .int .i64 n] 24)).alloc (.cells #[.int .i64 k, .int .i64 d, .int .i64 a, .int .i64 b, .int .i64 f, .int .i64 512] 24)) (u3.heap.size + 1 + 1) (by simp) k d a 1 f n 24)
    have F4 : Fr w (((u3.alloc (.cells #[.int .i64 k, .int .i64 8, .int .i64 a, .int .i64 b, .int .i64 f, .int .i64 n] 24)).alloc (.cells #[.int .i64 k, .int .i64 d, .int .i64 a, .int .i64 b, .int .i64 f, .int .i64 512] 24)).alloc (.cells #[.int .i64 k, .int .i64 d, .int .i64 a, .int .i64 1, .int .i64 f, .int .i64 n] 24)) := F3.trans ((Fr.alloc _ _).trans ((Fr.alloc _ _).trans (Fr.alloc _ _)))
    go_upto_region 15 with fail
    generalize (((u3.alloc (.cells #[.int .i64 k, .int .i64 8, .int .i64 a, .int .i64 b, .int .i64 f, .int .i64 n] 24)).alloc (.cells #[.int .i64 k, .int .i64 d, .int .i64 a, .int .i64 b, .int .i64 f, .int .i64 512] 24)).alloc (.cells #[.int .i64 k, .int .i64 d, .int .i64 a, .int .i64 1, .int .i64 f, .int .i64 n] 24)) = u4 at *
    obtain ⟨m0, m1, m2, m3, m4, m5⟩ := id BC.out
    clear c0 c1 c2 c3 c4 c5 d0 d1 d2 d3 d4 d5 e0 e1 e2 e3 e4 e5
    go_cut [8] (fun s wx => s = .bool (hB k) ∧ u4 = wx)
    case first =>
      cases q0 : (k == 0)
      · cases q4 : (k == 4)
        · cases q5 : (k == 5)
          · cases q6 : (k == 6)
            · cases q9 : (k == 9)
              · cases q10 : (k == 10)
                · go_wp2_with fail
                  go_meet
                  exact ⟨by simp [hB, q0, q4, q5, q6, q9, q10], rfl⟩
                · go_wp2_with fail
                  go_meet
                  exact ⟨by simp [hB, q10], rfl⟩
              · go_wp2_with fail
                go_meet
                exact ⟨by simp [hB, q9], rfl⟩
            · go_wp2_with fail
              go_meet
              exact ⟨by simp [hB, q6], rfl⟩
          · go_wp2_with fail
            go_meet
            exact ⟨by simp [hB, q5], rfl⟩
        · go_wp2_with fail
          go_meet
          exact ⟨by simp [hB, q4], rfl⟩
      · go_wp2_with fail
        go_meet
        exact ⟨by simp [hB, q0], rfl⟩
    case rest =>
      obtain ⟨rfl, rfl⟩ := hcut
      generalize hB k = hb at *
      obtain ⟨p0, p1, p2, p3, p4, p5⟩ := id BX.out
      go_wp2_with fail
      refine (impl_CodOk _ _ _ _ _ _ _ (ht.fr F4)).mono ?_
      rintro e u5 ⟨rfl, f5⟩
      rw [H1.out]
      clear p0 p1 p2 p3 p4 p5
      obtain ⟨p0, p1, p2, p3, p4, p5⟩ := BY.out.fr f5
      go_wp2_with fail
      refine (impl_CodOk _ _ _ _ _ _ _ (ht.fr (F4.trans f5))).mono ?_
      rintro e u6 ⟨rfl, f6⟩
      rw [H2.out]
      clear p0 p1 p2 p3 p4 p5
      obtain ⟨p0, p1, p2, p3, p4, p5⟩ := (BZ.out.fr f5).fr f6
      go_wp2_with fail
      refine (impl_CodOk _ _ _ _ _ _ _ (ht.fr ((F4.trans f5).trans f6))).mono ?_
      rintro e u7 ⟨rfl, f7⟩
      rw [H3.out]
      clear p0 p1 p2 p3 p4 p5
      obtain ⟨p0, p1, p2, p3, p4, p5⟩ := ((BC.out.fr f5).fr f6).fr f7
      go_wp2_with fail
      refine (impl_CodOk _ _ _ _ _ _ _ (ht.fr (((F4.trans f5).trans f6).trans f7))).mono ?_
      rintro e u8 ⟨rfl, f8⟩
      rw [H4.out]
      go_wp2
      go_ret
      exact ⟨rfl, (((F4.trans f5).trans f6).trans f7).trans f8⟩

set_option maxRecDepth 100000 in
theorem lifted (os : Os) (started : os.Started) (H : Type) (enc : TypeId × Value → H) :
    ReturnsInHanded {} Tryd.checked os 3 .any (fun w args => (Rows.fnCodOkSpec.pre enc Tryd.prog Tryd.f3 [] false w args ∧ laidMetH Tryd.prog laidAll w) ∧ sizedMet enc Tryd.prog Tryd.f3 (OpenSpec.ofChange Rows.fnCodOkSpec) false w args)
      (Rows.fnCodOkSpec.post enc Tryd.prog Tryd.f3 false true false false) := by
  refine returnsInHanded_of_change_and (C := Tryd.checked) (X := fun w _ => laidMetH Tryd.prog laidAll w) (fun _ _ _ hh h => h.of_heap hh) own started (by kernel_rfl) Tryd.func3
    (ChangeSpec.witness_shaped (enc := enc) (C := Tryd.checked) (os := os) (X := fun w _ => laidMetH Tryd.prog laidAll w) false (World.doorLaid Tryd.prog 400 os) #[.slice none 0 0] 8 rfl (World.shaped_of_RefB (by kernel_rfl) (by kernel_rfl)) (by kernel_rfl) (by kernel_rfl) (by kernel_rfl) (door_met os _)) ?_
  intro W base args ds gs before hval0 hW _ _ hL _
  have hval : ∀ (j : Nat) t v, Tryd.f3.params[j]? = some t → args[j]? = some v → Value.okWide Tryd.prog W .any base t v := hval0
  have hW' := hW
  obtain ⟨p, q, hA0, hV0, rfl, hfz, hnd⟩ := hW
  have hA : DataW.TrodAll enc Tryd.prog W 0 (fun _ => true) true Tryd.f3.params.toList args.toList ds p := hA0
  have hV : DataW.TrodVars enc Tryd.prog W (fun _ => true) laidNames gs q := hV0
  rw [Tryd.params3] at hA hval
  obtain ⟨v0, vs0, d0, ds0, p0, q0, hargs, rfl, rfl, h0, r0⟩ := trodAll_cons hA
  obtain ⟨rfl, rfl, rfl⟩ := trodAll_nil r0
  obtain rfl : args = #[v0] := by cases args; simp_all
  have hV1 := hV
  obtain ⟨g0, t0, cs0, f0, e0, s0, g1, t1, cs1, f1, e1, s1, rfl, _⟩ := trodVars_two hV1
  obtain ⟨a0, len0, cap0, rfl⟩ := okWide_slice Tryd.underlying22 (hval 0 22 v0 rfl rfl)
  have k0 := h0
  have lt0 : ∀ x ∈ p0, x.block < W.heap.size := by obtain ⟨m, hm⟩ := k0; exact DataW.trod_lt m _ _ _ hm
  obtain ⟨z0, w0⟩ : ∃ zs, IsRow .u8 W a0 len0 cap0 zs := by
    obtain ⟨fuel, hf⟩ := h0
    rcases open_ints Tryd.underlying22 Tryd.underlying5 (by kernel_rfl) hf with ⟨hcs, _⟩ | ⟨x, l, c, zs, hcs, _, hl, hm, hz, _, hcell, hwz⟩
    · simp [Value.cells] at hcs
      obtain ⟨rfl, rfl, rfl⟩ := hcs
      exact ⟨[], .inl ⟨rfl, rfl, rfl, rfl⟩⟩
    · simp [Value.cells] at hcs
      obtain ⟨rfl, rfl, rfl⟩ := hcs
      exact ⟨zs, .inr ⟨_, rfl, hl, hm, by simpa using hz, hcell, hwz⟩⟩
  clear hA0 hval0 hV1
  refine (walk a0 len0 cap0 z0 W (tabs_of_laid hL) w0).mono fun e W' ⟨he, bel⟩ => ?_
  subst he
  exact ⟨_, rfl, _, _, _, [], _, _, hW', trodAll_mk1 (shut_bool Tryd.underlying4 _), (trodAll_cons_mk (Below.trod laidOut (by kernel_rfl) (of_decide_eq_true (by kernel_rfl)) k0 bel lt0) trodAll_mk0), bel.trodVars laidOut (by kernel_rfl) hV, bel.frame _, fun h => by cases h⟩

theorem over : Rows.fnCodOkRow.holds Tryd.pinned (OpenSpec.ofChange Rows.fnCodOkSpec) :=
  OpenClaim.holds_of_wide 3 Tryd.f3 rfl rfl rfl rfl rfl rfl rfl ⟨rfl, rfl, rfl, rfl, rfl⟩ rfl rfl rfl rfl rfl (by kernel_rfl) Tryd.func3 (by kernel_rfl)
    (of_decide_eq_true (by kernel_rfl)) (by unfold Func.isWrapper; first | (rw [if_pos (by decide +kernel)]; kernel_rfl) | (rw [if_neg (by decide +kernel)]; exact ⟨rfl, rfl⟩))
    (fun os started H enc _ => lifted os started H enc)

/-- THE STATEMENT: the tied card. -/
theorem proved : Rows.FnCodOkCardSaid :=
  Claim7.holds_tied_plain_at .later [] [.wider, .data] true (true, "756414037e381c4a4d4b5db854b326f9094ec1dc1a8250e609331890c4ee4a44") false
    over (fun _ h => by cases h) (by kernel_rfl) (fun _ h => by cases h) fnCodOk_row_tie rfl ⟨rfl, rfl⟩ (by kernel_rfl) rfl
    (fun f fn hf hfn => by
      obtain rfl : f = 3 := Option.some.inj ((show Tryd.prog.funcNamed "loop.example/harbinger/laws.FnCodOk" = some 3 by kernel_rfl).symm.trans hf) |>.symm
      obtain rfl : fn = Tryd.f3 := (Option.some.inj (Tryd.func3.symm.trans hfn)).symm
      exact ⟨by kernel_rfl, fun j t ht => by
        rw [Tryd.params3] at ht
        have hm : t ∈ [22] := by simpa using Array.mem_of_getElem? ht
        have hall : ([22].all fun u => !Tryd.prog.wantsStandIn u) = true := by kernel_rfl
        exact (show Tryd.prog.wantsStandIn t = false by simpa using List.all_eq_true.1 hall t hm)⟩)
    (by kernel_rfl)
#print axioms proved
end Go.Proofs.YtlnpileicdggiaaDoor.fnCodOk
