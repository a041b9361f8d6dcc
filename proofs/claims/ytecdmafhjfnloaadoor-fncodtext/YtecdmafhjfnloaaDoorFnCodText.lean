/- For every two codes (any bytes), law FnCodText returns true and its arguments read as before (no condition; the tables and errors read as the program's text lays them, which the card ties). -/
import Derived.Test.YtecdmafhjfnloaaDoorCards
import Derived.Test.YtecdmafhjfnloaaDoorTie
import Derived.Test.YtecdmafhjfnloaaDoorLaid3
import Derived.Test.YtecdmafhjfnloaaDoorSp6
import Derived.Test.YtecdmafhjfnloaaDoorDrawCp
import Derived.Test.YtecdmafhjfnloaaDoorCodLaws2
import Derived.WalkKit
import Derived.ProofKit
import Derived.OpenShut
import Derived.ShutString
import Derived.SliceStrings
import Derived.ChangeOld
import Derived.Below
import Derived.SevenTiedAt
namespace Go.Proofs.YtecdmafhjfnloaaDoor.fnCodText
open Go.ChangeShapes Go.WideShapes Go.ChangeAt Go.RowKit
set_option linter.unusedVariables false

def IsRow (k : IntKind) (w : World) (a : Option Addr) (len cap : Nat) (zs : List Int) : Prop :=
  (a = none ∧ len = 0 ∧ cap = 0 ∧ zs = []) ∨
  ∃ x, a = some x ∧ len ≤ cap ∧ cap ≤ maxLen ∧ zs.length = cap ∧ (∀ i, i < zs.length → w.cell? (x.add i) = some (.int k (zs.getD i 0))) ∧ ∀ n ∈ zs, (Lit.int k n).wf = true

set_option maxRecDepth 100000 in
set_option maxHeartbeats 8000000 in
theorem walk (a0 : Option Addr) (len0 cap0 : Nat) (z0 : List Int) (a1 : Option Addr) (len1 cap1 : Nat) (z1 : List Int) (w : World) (ht : Tabs3 w) (w0 : IsRow .u8 w a0 len0 cap0 z0) (w1 : IsRow .u8 w a1 len1 cap1 z1) :
    Calls Tryd.prog 4 #[.slice a0 len0 cap0, .slice a1 len1 cap1] w fun e w' => e = .returned (.bool true) ∧ Below w.heap.size w w' := by
  have HT := Lib.hid ht
  clear ht
  have hc : Code1 w.heap.size w a0 len0 cap0 := by
    rcases w0 with ⟨rfl, rfl, rfl, rfl⟩ | ⟨x, rfl, hl, hm, hz, hcell, hwz⟩
    · exact ⟨Nat.le_refl _, Nat.le_refl _, Nat.zero_le _, .inl rfl, fun _ => rfl⟩
    · exact ⟨Nat.le_refl _, hl, hm, bytes_of_row hl hz hcell hwz, by simp⟩
  have hd : Code1 w.heap.size w a1 len1 cap1 := by
    rcases w1 with ⟨rfl, rfl, rfl, rfl⟩ | ⟨x, rfl, hl, hm, hz, hcell, hwz⟩
    · exact ⟨Nat.le_refl _, Nat.le_refl _, Nat.zero_le _, .inl rfl, fun _ => rfl⟩
    · exact ⟨Nat.le_refl _, hl, hm, bytes_of_row hl hz hcell hwz, by simp⟩
  clear w0 w1
  by_cases hlen : (1048576 : Int) < (len0 : Int)
  · go_enter Tryd.func4, Tryd.ntmps4
    go_wp2
    go_ret
    exact ⟨rfl, Below.refl _ _⟩
  by_cases hlen' : (1048576 : Int) < (len1 : Int)
  · go_enter Tryd.func4, Tryd.ntmps4
    go_wp2
    go_ret
    exact ⟨rfl, Below.refl _ _⟩
  go_enter Tryd.func4, Tryd.ntmps4
  go_wp2_with fail
  refine (DrawCodText w.heap.size a0 len0 cap0 w hc).mono ?_
  rintro e u1 ⟨k, d, a, b, f, n, rfl, b1⟩
  have F1 : Fr w (u1.alloc (.cells #[.int .i64 k, .int .i64 d, .int .i64 a, .int .i64 b, .int .i64 f, .int .i64 n] 24)) := Fr.trans b1 (Fr.alloc _ _)
  go_wp2_with fail
  refine (DrawCodParse _ a1 len1 cap1 _ (hd.up F1)).mono ?_
  rintro e u2 ⟨l, hl, rfl, f2⟩
  have F2 := F1.trans f2
  have BC := (Box.new u1 k d a b f n 24).fr f2
  clear hc hd b1 f2
  obtain ⟨c0, c1, c2, c3, c4, c5⟩ := id BC
  go_wp2_with fail
  refine (impl_CodText _ _ _ _ _ _ _ (HT.out.fr F2).base).mono ?_
  rintro e u3 ⟨rfl, f3⟩
  clear c0 c1 c2 c3 c4 c5
  have F3 := F2.trans f3
  have BC3 := BC.fr f3
  clear BC f3
  go_wp2_with fail
  refine (impl_CodParse l (by omega) _ (HT.out.fr F3)).mono ?_
  rintro e u4 ⟨q0, q1, q2, q3, q4, q5, g, rfl, f4, t1, t2⟩
  have T1 := Lib.hid t1
  have T2 := Lib.hid t2
  have fA := f4.trans (Fr.alloc u4 (.cells #[.int .i64 q0, .int .i64 q1, .int .i64 q2, .int .i64 q3, .int .i64 q4, .int .i64 q5] 24))
  have F4 := F3.trans fA
  have BC4 := BC3.fr fA
  have BX4 := Box.new u4 q0 q1 q2 q3 q4 q5 24
  clear t1 t2 fA f4 BC3
  go_wp2_with fail
  refine (spec_CodParse l (by omega) _).mono ?_
  rintro e u5 ⟨r0, r1, r2, r3, r4, r5, g', rfl, f5, s1, s2⟩
  have hEq : r0 = q0 ∧ r1 = q1 ∧ r2 = q2 ∧ r3 = q3 ∧ r4 = q4 ∧ r5 = q5 ∧ g' = g := by
    cases g with
    | true =>
      cases g' with
      | true =>
        have h1 := (s1 rfl).symm.trans (T1.out rfl)
        simpa using h1
      | false => exact absurd ((s2 rfl).1.symm.trans (T1.out rfl)) (by simp)
    | false =>
      cases g' with
      | true => exact absurd ((s1 rfl).symm.trans (T2.out rfl).1) (by simp)
      | false =>
        obtain ⟨_, h0, h1, h2, h3, h4, h5⟩ := s2 rfl
        obtain ⟨_, k0, k1, k2, k3, k4, k5⟩ := T2.out rfl
        exact ⟨h0.trans k0.symm, h1.trans k1.symm, h2.trans k2.symm, h3.trans k3.symm, h4.trans k4.symm, h5.trans k5.symm, rfl⟩
  clear s1 s2
  obtain ⟨rfl, rfl, rfl, rfl, rfl, rfl, rfl⟩ := hEq
  have fB := f5.trans (Fr.alloc u5 (.cells #[.int .i64 r0, .int .i64 r1, .int .i64 r2, .int .i64 r3, .int .i64 r4, .int .i64 r5] 24))
  have F5 := F4.trans fB
  have BC5 := Lib.hid (BC4.fr fB)
  have BX5 := Lib.hid (BX4.fr fB)
  have BY5 := Lib.hid (Box.new u5 r0 r1 r2 r3 r4 r5 24)
  clear BC4 BX4 fB f5 F4 F3
  obtain ⟨c0, c1, c2, c3, c4, c5⟩ := BC5.out
  go_wp2_with fail
  refine (spec_CodText _ _ _ _ _ _ _).mono ?_
  rintro e u6 ⟨rfl, f6⟩
  clear c0 c1 c2 c3 c4 c5
  have F6 := F5.trans f6
  have BC6 := Lib.hid (BC5.out.fr f6)
  have BX6 := Lib.hid (BX5.out.fr f6)
  obtain ⟨p0, p1, p2, p3, p4, p5⟩ := BX6.out
  obtain ⟨m0, m1, m2, m3, m4, m5⟩ := BY5.out.fr f6
  clear BC5 BX5 BY5 f6
  cases g'
  · obtain ⟨_, e0, e1, e2, e3, e4, e5⟩ := T2.out rfl
    subst e0 e1 e2 e3 e4 e5
    clear T1 T2
    obtain ⟨c0, c1, c2, c3, c4, c5⟩ := BC6.out
    go_wp2_with fail
    have F7 := F6
    have BC7 := BC6
    clear m0 m1 m2 m3 m4 m5 p0 p1 p2 p3 p4 p5
    cases hi : iok k d a b f n
    · have hT : txtD k d a b f n = [] := by unfold txtD; rw [if_neg (by simp [hi])]
      rw [hT]
      clear hT
      refine (spec_CodOk _ _ _ _ _ _ _).mono ?_
      rintro e u8 ⟨rfl, f8⟩
      rw [sok_eq, hi]
      go_wp2_with (go_at_call 19; refine (laws_haOk _).mono ?_; rintro e u9 ⟨rfl, rfl⟩)
      go_ret
      exact ⟨rfl, F7.trans f8⟩
    · have hT : txtD k d a b f n = txt k d a b f n := by unfold txtD; rw [if_pos hi]
      rw [hT]
      have hlT := txt_len hi
      have HP : Hid (parse (txt k d a b f n) = some (k, [d, a, b, f, n])) := by
        show _ = _
        unfold parse
        rw [if_neg (by omega)]
        exact rd_txt hi 0 (fun _ => none) nofun
      clear hT
      refine (spec_CodOk _ _ _ _ _ _ _).mono ?_
      rintro e u8 ⟨rfl, f8⟩
      rw [sok_eq, hi]
      have F8 := F7.trans f8
      clear c0 c1 c2 c3 c4 c5
      go_wp2_with fail
      refine (impl_CodParse (txt k d a b f n) (by omega) _ (HT.out.fr F8)).mono ?_
      rintro e u9 ⟨y0, y1, y2, y3, y4, y5, g9, rfl, f9, z1, z2⟩
      have hg9 : g9 = true := by
        cases g9
        · exact absurd ((z2 rfl).1.symm.trans HP.out) (by simp)
        · rfl
      subst hg9
      have hy := (z1 rfl).symm.trans HP.out
      simp only [Option.some.injEq, Prod.mk.injEq, List.cons.injEq, and_true] at hy
      obtain ⟨rfl, rfl, rfl, rfl, rfl, rfl⟩ := hy
      clear z1 z2
      have F9 := (F8.trans f9).trans (Fr.alloc u9 (.cells #[.int .i64 y0, .int .i64 y1, .int .i64 y2, .int .i64 y3, .int .i64 y4, .int .i64 y5] 24))
      obtain ⟨c0, c1, c2, c3, c4, c5⟩ := ((BC7.out.fr f8).fr f9).fr (Fr.alloc u9 (.cells #[.int .i64 y0, .int .i64 y1, .int .i64 y2, .int .i64 y3, .int .i64 y4, .int .i64 y5] 24))
      obtain ⟨p0, p1, p2, p3, p4, p5⟩ := Box.new u9 y0 y1 y2 y3 y4 y5 24
      have hlT' : ((txt y0 y1 y2 y3 y4 y5).length : Int) ≤ 30 := by omega
      go_wp2
      go_ret
      exact ⟨rfl, F9⟩
  · obtain ⟨d', a', b', f', n', e1, e2, e3⟩ := parse_txt (T1.out rfl)
    simp only [List.cons.injEq, and_true] at e1
    obtain ⟨rfl, rfl, rfl, rfl, rfl⟩ := e1
    have TX : txtD r0 r1 r2 r3 r4 r5 = l := by unfold txtD; rw [if_pos e2]; exact e3
    have HTX := Lib.hid TX
    have HE2 := Lib.hid e2
    clear T1 T2 TX e2 e3
    go_wp2_with fail
    refine (impl_CodOk _ _ _ _ _ _ _ (HT.out.fr F6).base.base).mono ?_
    rintro e uA ⟨rfl, fA⟩
    rw [HE2.out]
    clear m0 m1 m2 m3 m4 m5 p0 p1 p2 p3 p4 p5
    obtain ⟨p0, p1, p2, p3, p4, p5⟩ := BX6.out.fr fA
    go_wp2_with fail
    refine (impl_CodText _ _ _ _ _ _ _ (HT.out.fr (F6.trans fA)).base).mono ?_
    rintro e uB ⟨rfl, fB⟩
    rw [HTX.out]
    clear p0 p1 p2 p3 p4 p5
    have F7 := (F6.trans fA).trans fB
    have BC7 := Lib.hid (BC6.out.fr (fA.trans fB))
    clear BC6 BX6 fA fB F6 HTX HE2
    obtain ⟨c0, c1, c2, c3, c4, c5⟩ := BC7.out
    go_wp2_with fail
    cases hi : iok k d a b f n
    · have hT : txtD k d a b f n = [] := by unfold txtD; rw [if_neg (by simp [hi])]
      rw [hT]
      clear hT
      refine (spec_CodOk _ _ _ _ _ _ _).mono ?_
      rintro e u8 ⟨rfl, f8⟩
      rw [sok_eq, hi]
      go_wp2_with (go_at_call 19; refine (laws_haOk _).mono ?_; rintro e u9 ⟨rfl, rfl⟩)
      go_ret
      exact ⟨rfl, F7.trans f8⟩
    · have hT : txtD k d a b f n = txt k d a b f n := by unfold txtD; rw [if_pos hi]
      rw [hT]
      have hlT := txt_len hi
      have HP : Hid (parse (txt k d a b f n) = some (k, [d, a, b, f, n])) := by
        show _ = _
        unfold parse
        rw [if_neg (by omega)]
        exact rd_txt hi 0 (fun _ => none) nofun
      clear hT
      refine (spec_CodOk _ _ _ _ _ _ _).mono ?_
      rintro e u8 ⟨rfl, f8⟩
      rw [sok_eq, hi]
      have F8 := F7.trans f8
      clear c0 c1 c2 c3 c4 c5
      go_wp2_with fail
      refine (impl_CodParse (txt k d a b f n) (by omega) _ (HT.out.fr F8)).mono ?_
      rintro e u9 ⟨y0, y1, y2, y3, y4, y5, g9, rfl, f9, z1, z2⟩
      have hg9 : g9 = true := by
        cases g9
        · exact absurd ((z2 rfl).1.symm.trans HP.out) (by simp)
        · rfl
      subst hg9
      have hy := (z1 rfl).symm.trans HP.out
      simp only [Option.some.injEq, Prod.mk.injEq, List.cons.injEq, and_true] at hy
      obtain ⟨rfl, rfl, rfl, rfl, rfl, rfl⟩ := hy
      clear z1 z2
      have F9 := (F8.trans f9).trans (Fr.alloc u9 (.cells #[.int .i64 y0, .int .i64 y1, .int .i64 y2, .int .i64 y3, .int .i64 y4, .int .i64 y5] 24))
      obtain ⟨c0, c1, c2, c3, c4, c5⟩ := ((BC7.out.fr f8).fr f9).fr (Fr.alloc u9 (.cells #[.int .i64 y0, .int .i64 y1, .int .i64 y2, .int .i64 y3, .int .i64 y4, .int .i64 y5] 24))
      obtain ⟨p0, p1, p2, p3, p4, p5⟩ := Box.new u9 y0 y1 y2 y3 y4 y5 24
      have hlT' : ((txt y0 y1 y2 y3 y4 y5).length : Int) ≤ 30 := by omega
      go_wp2
      go_ret
      exact ⟨rfl, F9⟩

set_option maxRecDepth 100000 in
theorem lifted (os : Os) (started : os.Started) (H : Type) (enc : TypeId × Value → H) :
    ReturnsInHanded {} Tryd.checked os 4 .any (fun w args => (Rows.fnCodTextSpec.pre enc Tryd.prog Tryd.f4 [] false w args ∧ laidMetH Tryd.prog laidAll3 w) ∧ sizedMet enc Tryd.prog Tryd.f4 (OpenSpec.ofChange Rows.fnCodTextSpec) false w args)
      (Rows.fnCodTextSpec.post enc Tryd.prog Tryd.f4 false true false false) := by
  refine handed_and_shaped (C := Tryd.checked) (X := fun w _ => laidMetH Tryd.prog laidAll3 w) (fun _ _ _ hh h => h.of_heap hh) own started (by kernel_rfl) Tryd.func4
    (ChangeSpec.witness_shaped (enc := enc) (C := Tryd.checked) (os := os) (X := fun w _ => laidMetH Tryd.prog laidAll3 w) false (World.laidAll Tryd.prog os laidAll3) #[.slice none 0 0, .slice none 0 0] 8 (World.laidAll_os _ _ _) (wit_shape os) (by kernel_rfl) (by kernel_rfl) (by kernel_rfl) (wit_met os _)) ?_
  intro W base args ds gs before hval0 hW _ _ hL hsh _
  have hval : ∀ (j : Nat) t v, Tryd.f4.params[j]? = some t → args[j]? = some v → Value.okWide Tryd.prog W .any base t v := hval0
  have hW' := hW
  obtain ⟨p, q, hA0, hV0, rfl, hfz, hnd⟩ := hW
  have hA : DataW.TrodAll enc Tryd.prog W 0 (fun _ => true) true Tryd.f4.params.toList args.toList ds p := hA0
  have hV : DataW.TrodVars enc Tryd.prog W (fun _ => true) Rows.fnCodTextSpec.vars gs q := hV0
  rw [Tryd.params4] at hA hval
  obtain ⟨v0, vs0, d0, ds0, p0, q0, hargs, rfl, rfl, h0, r0⟩ := trodAll_cons hA
  obtain ⟨v1, vs1, d1, ds1, p1, q1, rfl, rfl, rfl, h1, r1⟩ := trodAll_cons r0
  obtain ⟨rfl, rfl, rfl⟩ := trodAll_nil r1
  obtain rfl : args = #[v0, v1] := by cases args; simp_all
  have hV1 := hV
  obtain ⟨g0, g1, g2, g3, g4, g5, g6, g7, g8, g9, rfl⟩ := list10 (trodVars_len hV1)
  obtain ⟨a0, len0, cap0, rfl⟩ := okWide_slice Tryd.underlying22 (hval 0 22 v0 rfl rfl)
  have k0 := h0
  have lt0 : ∀ x ∈ p0, x.block < W.heap.size := by obtain ⟨m, hm⟩ := k0; exact DataW.trod_lt m _ _ _ hm
  obtain ⟨z0, w0⟩ : ∃ zs, IsRow .u8 W a0 len0 cap0 zs := by
    obtain ⟨fuel, hf⟩ := h0
    rcases open_ints Tryd.underlying22 Tryd.underlying5 (by kernel_rfl) hf with ⟨hcs, _⟩ | ⟨x, l, c, zs, hcs, _, hl, hm, hz, _, hcell, hwz⟩
    · simp [Value.cells] at hcs
      obtain ⟨rfl, rfl, rfl⟩ := hcs
      exact ⟨[], .inl ⟨rfl, rfl, rfl, rfl⟩⟩
    · simp [Value.cells] at hcs
      obtain ⟨rfl, rfl, rfl⟩ := hcs
      exact ⟨zs, .inr ⟨_, rfl, hl, hm, by simpa using hz, hcell, hwz⟩⟩
  obtain ⟨a1, len1, cap1, rfl⟩ := okWide_slice Tryd.underlying22 (hval 1 22 v1 rfl rfl)
  have k1 := h1
  have lt1 : ∀ x ∈ p1, x.block < W.heap.size := by obtain ⟨m, hm⟩ := k1; exact DataW.trod_lt m _ _ _ hm
  obtain ⟨z1, w1⟩ : ∃ zs, IsRow .u8 W a1 len1 cap1 zs := by
    obtain ⟨fuel, hf⟩ := h1
    rcases open_ints Tryd.underlying22 Tryd.underlying5 (by kernel_rfl) hf with ⟨hcs, _⟩ | ⟨x, l, c, zs, hcs, _, hl, hm, hz, _, hcell, hwz⟩
    · simp [Value.cells] at hcs
      obtain ⟨rfl, rfl, rfl⟩ := hcs
      exact ⟨[], .inl ⟨rfl, rfl, rfl, rfl⟩⟩
    · simp [Value.cells] at hcs
      obtain ⟨rfl, rfl, rfl⟩ := hcs
      exact ⟨zs, .inr ⟨_, rfl, hl, hm, by simpa using hz, hcell, hwz⟩⟩
  clear hA0 hval0 hV1
  refine (walk a0 len0 cap0 z0 a1 len1 cap1 z1 W (tabs3_of_laid hL hsh) w0 w1).mono fun e W' ⟨he, bel⟩ => ?_
  subst he
  exact ⟨_, rfl, _, _, _, [], _, _, hW', trodAll_mk1 (shut_bool Tryd.underlying4 _), (trodAll_cons_mk (Below.trod laidOut (by kernel_rfl) (of_decide_eq_true (by kernel_rfl)) k0 bel lt0) (trodAll_cons_mk (Below.trod laidOut (by kernel_rfl) (of_decide_eq_true (by kernel_rfl)) k1 bel lt1) trodAll_mk0)), bel.trodVars laidOut (by kernel_rfl) hV, bel.frame _, fun h => by cases h⟩

theorem over : Rows.fnCodTextRow.holds Tryd.pinned (OpenSpec.ofChange Rows.fnCodTextSpec) :=
  OpenClaim.holds_of_wide 4 Tryd.f4 rfl rfl rfl rfl rfl rfl rfl ⟨rfl, rfl, rfl, rfl, rfl⟩ rfl rfl rfl rfl rfl (by kernel_rfl) Tryd.func4 (by kernel_rfl)
    (of_decide_eq_true (by kernel_rfl)) (by unfold Func.isWrapper; first | (rw [if_pos (by decide +kernel)]; kernel_rfl) | (rw [if_neg (by decide +kernel)]; exact ⟨rfl, rfl⟩))
    (fun os started H enc _ => lifted os started H enc)

/-- THE STATEMENT: the tied card. -/
theorem proved : Rows.FnCodTextCardSaid :=
  Claim7.holds_tied_plain_at .later [] [.data, .data, .data, .data, .sentinel, .sentinel, .wider, .data, .data, .sentinel, .sentinel, .sentinel, .sentinel, .sentinel, .sentinel, .sentinel, .pinned] true (true, "b52127b27052be8e1379b4928e638b8b16f290584df6f950925e06d10987c8aa") true
    over (fun _ h => by cases h) (by kernel_rfl) (fun _ h => by cases h) fnCodText_row_tie rfl ⟨rfl, rfl⟩ (by kernel_rfl) rfl
    (fun f fn hf hfn => by
      obtain rfl : f = 4 := Option.some.inj ((show Tryd.prog.funcNamed "loop.example/harbinger/laws.FnCodText" = some 4 by kernel_rfl).symm.trans hf) |>.symm
      obtain rfl : fn = Tryd.f4 := (Option.some.inj (Tryd.func4.symm.trans hfn)).symm
      exact ⟨by kernel_rfl, fun j t ht => by
        rw [Tryd.params4] at ht
        have hm : t ∈ [22, 22] := by simpa using Array.mem_of_getElem? ht
        have hall : ([22, 22].all fun u => !Tryd.prog.wantsStandIn u) = true := by kernel_rfl
        exact (show Tryd.prog.wantsStandIn t = false by simpa using List.all_eq_true.1 hall t hm)⟩)
    (by kernel_rfl)
#print axioms proved
end Go.Proofs.YtecdmafhjfnloaaDoor.fnCodText
