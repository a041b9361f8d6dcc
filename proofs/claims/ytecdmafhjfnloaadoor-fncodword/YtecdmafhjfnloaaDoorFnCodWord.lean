/- For every two codes (any bytes), law FnCodWord returns true and its arguments read as before (no condition; the two tables read as the program's text lays them, which the card ties). -/
import Derived.Test.YtecdmafhjfnloaaDoorCards
import Derived.Test.YtecdmafhjfnloaaDoorTie
import Derived.Test.YtecdmafhjfnloaaDoorLaid
import Derived.Test.YtecdmafhjfnloaaDoorCodSd
import Derived.Test.YtecdmafhjfnloaaDoorCodUp
import Derived.Test.YtecdmafhjfnloaaDoorCodFacts
import Derived.WalkKit
import Derived.ProofKit
import Derived.OpenShut
import Derived.ShutString
import Derived.ChangeOld
import Derived.Below
import Derived.SevenTiedAt
namespace Go.Proofs.YtecdmafhjfnloaaDoor.fnCodWord
open Go.ChangeShapes Go.WideShapes Go.ChangeAt Go.RowKit
set_option linter.unusedVariables false

def IsRow (k : IntKind) (w : World) (a : Option Addr) (len cap : Nat) (zs : List Int) : Prop :=
  (a = none ∧ len = 0 ∧ cap = 0 ∧ zs = []) ∨
  ∃ x, a = some x ∧ len ≤ cap ∧ cap ≤ maxLen ∧ zs.length = cap ∧ (∀ i, i < zs.length → w.cell? (x.add i) = some (.int k (zs.getD i 0))) ∧ ∀ n ∈ zs, (Lit.int k n).wf = true

set_option maxRecDepth 100000 in
set_option maxHeartbeats 4000000 in
theorem walk (a0 : Option Addr) (len0 cap0 : Nat) (z0 : List Int) (a1 : Option Addr) (len1 cap1 : Nat) (z1 : List Int) (w : World) (ht : Tabs w) (w0 : IsRow .u8 w a0 len0 cap0 z0) (w1 : IsRow .u8 w a1 len1 cap1 z1) :
    Calls Tryd.prog 3 #[.slice a0 len0 cap0, .slice a1 len1 cap1] w fun e w' => e = .returned (.bool true) ∧ Below w.heap.size w w' := by
  have hc : Code1 w.heap.size w a0 len0 cap0 := by
    rcases w0 with ⟨rfl, rfl, rfl, rfl⟩ | ⟨x, rfl, hl, hm, hz, hcell, hwz⟩
    · exact ⟨Nat.le_refl _, Nat.le_refl _, Nat.zero_le _, .inl rfl, fun _ => rfl⟩
    · exact ⟨Nat.le_refl _, hl, hm, bytes_of_row hl hz hcell hwz, by simp⟩
  have hd : Code1 w.heap.size w a1 len1 cap1 := by
    rcases w1 with ⟨rfl, rfl, rfl, rfl⟩ | ⟨x, rfl, hl, hm, hz, hcell, hwz⟩
    · exact ⟨Nat.le_refl _, Nat.le_refl _, Nat.zero_le _, .inl rfl, fun _ => rfl⟩
    · exact ⟨Nat.le_refl _, hl, hm, bytes_of_row hl hz hcell hwz, by simp⟩
  clear w0 w1
  by_cases hlen : (1048576 : Int) < (len0 : Int)
  · go_enter Tryd.func3, Tryd.ntmps3
    go_wp2
    go_ret
    exact ⟨rfl, Below.refl _ _⟩
  by_cases hlen' : (1048576 : Int) < (len1 : Int)
  · go_enter Tryd.func3, Tryd.ntmps3
    go_wp2
    go_ret
    exact ⟨rfl, Below.refl _ _⟩
  go_enter Tryd.func3, Tryd.ntmps3
  go_wp2_with fail
  refine (DrawCodWord w.heap.size a0 len0 cap0 w hc).mono ?_
  rintro e u1 ⟨k, d, a, b, f, n, rfl, b1⟩
  have F1 : Fr w (u1.alloc (.cells #[.int .i64 k, .int .i64 d, .int .i64 a, .int .i64 b, .int .i64 f, .int .i64 n] 24)) := Fr.trans b1 (Fr.alloc _ _)
  go_wp2_with fail
  refine (DrawCodRead _ a1 len1 cap1 _ (hd.up F1)).mono ?_
  rintro e u2 ⟨x, rfl, f2⟩
  have F2 := F1.trans f2
  have BC := (Box.new u1 k d a b f n 24).fr f2
  clear hc hd b1
  obtain ⟨c0, c1, c2, c3, c4, c5⟩ := id BC
  go_wp2_with fail
  refine (impl_CodWord _ _ _ _ _ _ _ (ht.fr F2)).mono ?_
  rintro e u3 ⟨rfl, f3⟩
  clear c0 c1 c2 c3 c4 c5
  cases hg : gd x
  · have HR := Lib.hid (rV_f hg)
    have F3 := F2.trans f3
    have BC3 := BC.fr f3
    go_wp2_with fail
    refine (impl_CodRead x _ (ht.fr F3)).mono ?_
    rintro e u4 ⟨rfl, f4⟩
    rw [HR.out]
    have F4 := (F3.trans f4).trans (Fr.alloc u4 (.cells #[.int .i64 0, .int .i64 0, .int .i64 0, .int .i64 0, .int .i64 0, .int .i64 0] 24))
    have BC4 := (BC3.fr f4).fr (Fr.alloc u4 (.cells #[.int .i64 0, .int .i64 0, .int .i64 0, .int .i64 0, .int .i64 0, .int .i64 0] 24))
    have BX4 := Box.new u4 (0) (0) (0) (0) (0) (0) 24
    go_wp2_with fail
    refine (spec_CodRead x _).mono ?_
    rintro e u5 ⟨rfl, f5⟩
    rw [HR.out]
    have F5 := (F4.trans f5).trans (Fr.alloc u5 (.cells #[.int .i64 0, .int .i64 0, .int .i64 0, .int .i64 0, .int .i64 0, .int .i64 0] 24))
    have BC5 := (BC4.fr f5).fr (Fr.alloc u5 (.cells #[.int .i64 0, .int .i64 0, .int .i64 0, .int .i64 0, .int .i64 0, .int .i64 0] 24))
    have BX5 := (BX4.fr f5).fr (Fr.alloc u5 (.cells #[.int .i64 0, .int .i64 0, .int .i64 0, .int .i64 0, .int .i64 0, .int .i64 0] 24))
    have BW5 := Box.new u5 (0) (0) (0) (0) (0) (0) 24
    obtain ⟨c0, c1, c2, c3, c4, c5⟩ := id BC5
    go_wp2_with fail
    refine (spec_CodWord _ _ _ _ _ _ _).mono ?_
    rintro e u6 ⟨rfl, f6⟩
    clear c0 c1 c2 c3 c4 c5
    obtain ⟨p0, p1, p2, p3, p4, p5⟩ := BX5.fr f6
    obtain ⟨q0, q1, q2, q3, q4, q5⟩ := BW5.fr f6
    have F6 := F5.trans f6
    have BC6 := BC5.fr f6
    have BX6 := BX5.fr f6
    obtain ⟨c0, c1, c2, c3, c4, c5⟩ := id BC6
    have F8 := F6
    have BC8 := BC6
    go_wp2_with fail
    refine (spec_CodOk _ _ _ _ _ _ _).mono ?_
    rintro e u9 ⟨rfl, f9⟩
    rw [sok_eq]
    have F9 := F8.trans f9
    cases hq : iok k d a b f n
    · have N1 : worD k d a b f n = -1 := worD_f hq
      go_wp2_with (go_at_call 19; refine (laws_haOk _).mono ?_; rintro e w' ⟨rfl, rfl⟩)
      go_ret
      exact ⟨rfl, F9⟩
    · obtain ⟨G0, G1, G2, G3, G4, G5, G6⟩ := gd_word hq
      have GW := Lib.hid (show rV (worD k d a b f n) = .tuple #[.agg #[.int .i64 k, .int .i64 d, .int .i64 a, .int .i64 b, .int .i64 f, .int .i64 n], .bool true] by rw [rV_t G0, G1, G2, G3, G4, G5, G6])
      have HO := Lib.hid (okB_mk (worD_bd hq).1 (worD_bd hq).2)
      clear G0 G1 G2 G3 G4 G5 G6
      go_wp2_with fail
      refine (impl_CodRead _ _ (ht.fr F9)).mono ?_
      rintro e u10 ⟨rfl, f10⟩
      rw [GW.out]
      clear c0 c1 c2 c3 c4 c5
      have F10 := (F9.trans f10).trans (Fr.alloc u10 (.cells #[.int .i64 k, .int .i64 d, .int .i64 a, .int .i64 b, .int .i64 f, .int .i64 n] 24))
      obtain ⟨c0, c1, c2, c3, c4, c5⟩ := ((BC8.fr f9).fr f10).fr (Fr.alloc u10 (.cells #[.int .i64 k, .int .i64 d, .int .i64 a, .int .i64 b, .int .i64 f, .int .i64 n] 24))
      go_wp2_with fail
      refine (impl_WrdOk _ _).mono ?_
      rintro e u11 ⟨rfl, rfl⟩
      rw [HO.out]
      go_wp2
      go_ret
      exact ⟨rfl, F10⟩
  · obtain ⟨hi0, hw0⟩ := read_ok hg
    have HR := Lib.hid (rV_t hg)
    have hx : okB x = true := by simp only [gd, Bool.and_eq_true] at hg; exact hg.1
    obtain ⟨x0, x1⟩ := okB_true hx
    have HI := Lib.hid hi0
    have HW := Lib.hid hw0
    clear hi0 hw0 hg hx
    generalize rdv x 0 = r1 at *
    generalize rdv x 1 = r2 at *
    generalize rdv x 2 = r3 at *
    generalize rdv x 3 = r4 at *
    generalize rdv x 4 = r5 at *
    have F3 := F2.trans f3
    have BC3 := BC.fr f3
    go_wp2_with fail
    refine (impl_CodRead x _ (ht.fr F3)).mono ?_
    rintro e u4 ⟨rfl, f4⟩
    rw [HR.out]
    have F4 := (F3.trans f4).trans (Fr.alloc u4 (.cells #[.int .i64 (x / 4096), .int .i64 r1, .int .i64 r2, .int .i64 r3, .int .i64 r4, .int .i64 r5] 24))
    have BC4 := (BC3.fr f4).fr (Fr.alloc u4 (.cells #[.int .i64 (x / 4096), .int .i64 r1, .int .i64 r2, .int .i64 r3, .int .i64 r4, .int .i64 r5] 24))
    have BX4 := Box.new u4 (x / 4096) (r1) (r2) (r3) (r4) (r5) 24
    go_wp2_with fail
    refine (spec_CodRead x _).mono ?_
    rintro e u5 ⟨rfl, f5⟩
    rw [HR.out]
    have F5 := (F4.trans f5).trans (Fr.alloc u5 (.cells #[.int .i64 (x / 4096), .int .i64 r1, .int .i64 r2, .int .i64 r3, .int .i64 r4, .int .i64 r5] 24))
    have BC5 := (BC4.fr f5).fr (Fr.alloc u5 (.cells #[.int .i64 (x / 4096), .int .i64 r1, .int .i64 r2, .int .i64 r3, .int .i64 r4, .int .i64 r5] 24))
    have BX5 := (BX4.fr f5).fr (Fr.alloc u5 (.cells #[.int .i64 (x / 4096), .int .i64 r1, .int .i64 r2, .int .i64 r3, .int .i64 r4, .int .i64 r5] 24))
    have BW5 := Box.new u5 (x / 4096) (r1) (r2) (r3) (r4) (r5) 24
    obtain ⟨c0, c1, c2, c3, c4, c5⟩ := id BC5
    go_wp2_with fail
    refine (spec_CodWord _ _ _ _ _ _ _).mono ?_
    rintro e u6 ⟨rfl, f6⟩
    clear c0 c1 c2 c3 c4 c5
    obtain ⟨p0, p1, p2, p3, p4, p5⟩ := BX5.fr f6
    obtain ⟨q0, q1, q2, q3, q4, q5⟩ := BW5.fr f6
    have F6 := F5.trans f6
    have BC6 := BC5.fr f6
    have BX6 := BX5.fr f6
    go_wp2_with fail
    refine (impl_CodOk _ _ _ _ _ _ _ (ht.fr F6)).mono ?_
    rintro e u7 ⟨rfl, f7⟩
    rw [HI.out]
    clear p0 p1 p2 p3 p4 p5 q0 q1 q2 q3 q4 q5
    obtain ⟨p0, p1, p2, p3, p4, p5⟩ := BX6.fr f7
    go_wp2_with fail
    refine (impl_CodWord _ _ _ _ _ _ _ (ht.fr (F6.trans f7))).mono ?_
    rintro e u8 ⟨rfl, f8⟩
    rw [HW.out]
    clear p0 p1 p2 p3 p4 p5
    obtain ⟨p0, p1, p2, p3, p4, p5⟩ := (BX6.fr f7).fr f8
    obtain ⟨c0, c1, c2, c3, c4, c5⟩ := (BC6.fr f7).fr f8
    have F8 := (F6.trans f7).trans f8
    have BC8 := (BC6.fr f7).fr f8
    go_wp2_with fail
    refine (spec_CodOk _ _ _ _ _ _ _).mono ?_
    rintro e u9 ⟨rfl, f9⟩
    rw [sok_eq]
    have F9 := F8.trans f9
    cases hq : iok k d a b f n
    · have N1 : worD k d a b f n = -1 := worD_f hq
      go_wp2_with (go_at_call 19; refine (laws_haOk _).mono ?_; rintro e w' ⟨rfl, rfl⟩)
      go_ret
      exact ⟨rfl, F9⟩
    · obtain ⟨G0, G1, G2, G3, G4, G5, G6⟩ := gd_word hq
      have GW := Lib.hid (show rV (worD k d a b f n) = .tuple #[.agg #[.int .i64 k, .int .i64 d, .int .i64 a, .int .i64 b, .int .i64 f, .int .i64 n], .bool true] by rw [rV_t G0, G1, G2, G3, G4, G5, G6])
      have HO := Lib.hid (okB_mk (worD_bd hq).1 (worD_bd hq).2)
      clear G0 G1 G2 G3 G4 G5 G6
      go_wp2_with fail
      refine (impl_CodRead _ _ (ht.fr F9)).mono ?_
      rintro e u10 ⟨rfl, f10⟩
      rw [GW.out]
      clear c0 c1 c2 c3 c4 c5
      have F10 := (F9.trans f10).trans (Fr.alloc u10 (.cells #[.int .i64 k, .int .i64 d, .int .i64 a, .int .i64 b, .int .i64 f, .int .i64 n] 24))
      obtain ⟨c0, c1, c2, c3, c4, c5⟩ := ((BC8.fr f9).fr f10).fr (Fr.alloc u10 (.cells #[.int .i64 k, .int .i64 d, .int .i64 a, .int .i64 b, .int .i64 f, .int .i64 n] 24))
      go_wp2_with fail
      refine (impl_WrdOk _ _).mono ?_
      rintro e u11 ⟨rfl, rfl⟩
      rw [HO.out]
      go_wp2
      go_ret
      exact ⟨rfl, F10⟩

set_option maxRecDepth 100000 in
theorem lifted (os : Os) (started : os.Started) (H : Type) (enc : TypeId × Value → H) :
    ReturnsInHanded {} Tryd.checked os 3 .any (fun w args => (Rows.fnCodWordSpec.pre enc Tryd.prog Tryd.f3 [] false w args ∧ laidMetH Tryd.prog laidAll w) ∧ sizedMet enc Tryd.prog Tryd.f3 (OpenSpec.ofChange Rows.fnCodWordSpec) false w args)
      (Rows.fnCodWordSpec.post enc Tryd.prog Tryd.f3 false true false false) := by
  refine returnsInHanded_of_change_and (C := Tryd.checked) (X := fun w _ => laidMetH Tryd.prog laidAll w) (fun _ _ _ hh h => h.of_heap hh) own started (by kernel_rfl) Tryd.func3
    (ChangeSpec.witness_shaped (enc := enc) (C := Tryd.checked) (os := os) (X := fun w _ => laidMetH Tryd.prog laidAll w) false (World.doorLaid Tryd.prog 400 os) #[.slice none 0 0, .slice none 0 0] 8 rfl (World.shaped_of_RefB (by kernel_rfl) (by kernel_rfl)) (by kernel_rfl) (by kernel_rfl) (by kernel_rfl) (door_met os _)) ?_
  intro W base args ds gs before hval0 hW _ _ hL _
  have hval : ∀ (j : Nat) t v, Tryd.f3.params[j]? = some t → args[j]? = some v → Value.okWide Tryd.prog W .any base t v := hval0
  have hW' := hW
  obtain ⟨p, q, hA0, hV0, rfl, hfz, hnd⟩ := hW
  have hA : DataW.TrodAll enc Tryd.prog W 0 (fun _ => true) true Tryd.f3.params.toList args.toList ds p := hA0
  have hV : DataW.TrodVars enc Tryd.prog W (fun _ => true) laidNames gs q := hV0
  rw [Tryd.params3] at hA hval
  obtain ⟨v0, vs0, d0, ds0, p0, q0, hargs, rfl, rfl, h0, r0⟩ := trodAll_cons hA
  obtain ⟨v1, vs1, d1, ds1, p1, q1, rfl, rfl, rfl, h1, r1⟩ := trodAll_cons r0
  obtain ⟨rfl, rfl, rfl⟩ := trodAll_nil r1
  obtain rfl : args = #[v0, v1] := by cases args; simp_all
  have hV1 := hV
  obtain ⟨g0, t0, cs0, f0, e0, s0, g1, t1, cs1, f1, e1, s1, rfl, _⟩ := trodVars_two hV1
  obtain ⟨a0, len0, cap0, rfl⟩ := okWide_slice Tryd.underlying22 (hval 0 22 v0 rfl rfl)
  have k0 := h0
  have lt0 : ∀ x ∈ p0, x.block < W.heap.size := by obtain ⟨m, hm⟩ := k0; exact DataW.trod_lt m _ _ _ hm
  obtain ⟨z0, w0⟩ : ∃ zs, IsRow .u8 W a0 len0 cap0 zs := by
    obtain ⟨fuel, hf⟩ := h0
    rcases open_ints Tryd.underlying22 Tryd.underlying5 (by kernel_rfl) hf with ⟨hcs, _⟩ | ⟨x, l, c, zs, hcs, _, hl, hm, hz, _, hcell, hwz⟩
    · simp [Value.cells] at hcs
      obtain ⟨rfl, rfl, rfl⟩ := hcs
      exact ⟨[], .inl ⟨rfl, rfl, rfl, rfl⟩⟩
    · simp [Value.cells] at hcs
      obtain ⟨rfl, rfl, rfl⟩ := hcs
      exact ⟨zs, .inr ⟨_, rfl, hl, hm, by simpa using hz, hcell, hwz⟩⟩
  obtain ⟨a1, len1, cap1, rfl⟩ := okWide_slice Tryd.underlying22 (hval 1 22 v1 rfl rfl)
  have k1 := h1
  have lt1 : ∀ x ∈ p1, x.block < W.heap.size := by obtain ⟨m, hm⟩ := k1; exact DataW.trod_lt m _ _ _ hm
  obtain ⟨z1, w1⟩ : ∃ zs, IsRow .u8 W a1 len1 cap1 zs := by
    obtain ⟨fuel, hf⟩ := h1
    rcases open_ints Tryd.underlying22 Tryd.underlying5 (by kernel_rfl) hf with ⟨hcs, _⟩ | ⟨x, l, c, zs, hcs, _, hl, hm, hz, _, hcell, hwz⟩
    · simp [Value.cells] at hcs
      obtain ⟨rfl, rfl, rfl⟩ := hcs
      exact ⟨[], .inl ⟨rfl, rfl, rfl, rfl⟩⟩
    · simp [Value.cells] at hcs
      obtain ⟨rfl, rfl, rfl⟩ := hcs
      exact ⟨zs, .inr ⟨_, rfl, hl, hm, by simpa using hz, hcell, hwz⟩⟩
  clear hA0 hval0 hV1
  refine (walk a0 len0 cap0 z0 a1 len1 cap1 z1 W (tabs_of_laid hL) w0 w1).mono fun e W' ⟨he, bel⟩ => ?_
  subst he
  exact ⟨_, rfl, _, _, _, [], _, _, hW', trodAll_mk1 (shut_bool Tryd.underlying4 _), (trodAll_cons_mk (Below.trod laidOut (by kernel_rfl) (of_decide_eq_true (by kernel_rfl)) k0 bel lt0) (trodAll_cons_mk (Below.trod laidOut (by kernel_rfl) (of_decide_eq_true (by kernel_rfl)) k1 bel lt1) trodAll_mk0)), bel.trodVars laidOut (by kernel_rfl) hV, bel.frame _, fun h => by cases h⟩

theorem over : Rows.fnCodWordRow.holds Tryd.pinned (OpenSpec.ofChange Rows.fnCodWordSpec) :=
  OpenClaim.holds_of_wide 3 Tryd.f3 rfl rfl rfl rfl rfl rfl rfl ⟨rfl, rfl, rfl, rfl, rfl⟩ rfl rfl rfl rfl rfl (by kernel_rfl) Tryd.func3 (by kernel_rfl)
    (of_decide_eq_true (by kernel_rfl)) (by unfold Func.isWrapper; first | (rw [if_pos (by decide +kernel)]; kernel_rfl) | (rw [if_neg (by decide +kernel)]; exact ⟨rfl, rfl⟩))
    (fun os started H enc _ => lifted os started H enc)

/-- THE STATEMENT: the tied card. -/
theorem proved : Rows.FnCodWordCardSaid :=
  Claim7.holds_tied_plain_at .later [] [.wider, .data] true (true, "b52127b27052be8e1379b4928e638b8b16f290584df6f950925e06d10987c8aa") true
    over (fun _ h => by cases h) (by kernel_rfl) (fun _ h => by cases h) fnCodWord_row_tie rfl ⟨rfl, rfl⟩ (by kernel_rfl) rfl
    (fun f fn hf hfn => by
      obtain rfl : f = 3 := Option.some.inj ((show Tryd.prog.funcNamed "loop.example/harbinger/laws.FnCodWord" = some 3 by kernel_rfl).symm.trans hf) |>.symm
      obtain rfl : fn = Tryd.f3 := (Option.some.inj (Tryd.func3.symm.trans hfn)).symm
      exact ⟨by kernel_rfl, fun j t ht => by
        rw [Tryd.params3] at ht
        have hm : t ∈ [22, 22] := by simpa using Array.mem_of_getElem? ht
        have hall : ([22, 22].all fun u => !Tryd.prog.wantsStandIn u) = true := by kernel_rfl
        exact (show Tryd.prog.wantsStandIn t = false by simpa using List.all_eq_true.1 hall t hm)⟩)
    (by kernel_rfl)
#print axioms proved
end Go.Proofs.YtecdmafhjfnloaaDoor.fnCodWord
