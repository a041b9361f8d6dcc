/- For every code (any bytes), law FnTxtWrite returns true and its argument reads as before (no condition; the tables and errors read as the program's text lays them, which the card ties). -/
import Derived.Test.YtecdmafhjfnloaaGreatDoorCards
import Derived.Test.YtecdmafhjfnloaaGreatDoorTie
import Derived.Test.YtecdmafhjfnloaaGreatDoorLaid3
import Derived.Test.YtecdmafhjfnloaaGreatDoorTxtBack
import Derived.Test.YtecdmafhjfnloaaGreatDoorTr3
import Derived.Test.YtecdmafhjfnloaaGreatDoorDrawTxt
import Derived.WalkKit
import Derived.ProofKit
import Derived.OpenShut
import Derived.ShutString
import Derived.SliceStrings
import Derived.ChangeOld
import Derived.Below
import Derived.SevenTiedAt
namespace Go.Proofs.YtecdmafhjfnloaaGreatDoor.fnTxtWrite
open Go.ChangeShapes Go.WideShapes Go.ChangeAt Go.RowKit
set_option linter.unusedVariables false

def IsRow (k : IntKind) (w : World) (a : Option Addr) (len cap : Nat) (zs : List Int) : Prop :=
  (a = none ∧ len = 0 ∧ cap = 0 ∧ zs = []) ∨
  ∃ x, a = some x ∧ len ≤ cap ∧ cap ≤ maxLen ∧ zs.length = cap ∧ (∀ i, i < zs.length → w.cell? (x.add i) = some (.int k (zs.getD i 0))) ∧ ∀ n ∈ zs, (Lit.int k n).wf = true

set_option maxRecDepth 8000 in
set_option maxHeartbeats 4000000 in
theorem walk (a0 : Option Addr) (len0 cap0 : Nat) (z0 : List Int) (w : World) (ht : Tabs3 w) (w0 : IsRow .u8 w a0 len0 cap0 z0) :
    Calls Tryz.prog 3 #[.slice a0 len0 cap0] w fun e w' => e = .returned (.bool true) ∧ Below w.heap.size w w' := by
  have HT := Lib.hid ht
  clear ht
  have hc : Code1 w.heap.size w a0 len0 cap0 := by
    rcases w0 with ⟨rfl, rfl, rfl, rfl⟩ | ⟨x, rfl, hl, hm, hz, hcell, hwz⟩
    · exact ⟨Nat.le_refl _, Nat.le_refl _, Nat.zero_le _, .inl rfl, fun _ => rfl⟩
    · exact ⟨Nat.le_refl _, hl, hm, bytes_of_row hl hz hcell hwz, fun h => by cases h⟩
  clear w0 z0
  go_enter Tryz.func3, Tryz.ntmps3
  by_cases hl : len0 ≤ 1048576
  · have hl' : ¬ (1048576 : Int) < (len0 : Int) := by omega
    go_wp2_with fail
    refine (DrawTxtWrite w.heap.size a0 len0 cap0 w hc).mono ?_
    rintro e u1 ⟨xs, aX, cX, rfl, hS, hx, f1⟩
    have F1 : Fr w u1 := f1
    have HS := Lib.hid hS
    clear hS f1 hc
    have hL : (wrT xs).length ≤ 1048576 := by
      unfold wrT
      split
      · simp; omega
      · simp
    go_wp2_with fail
    refine (impl_TxtWrite xs _ _ _ (HT.out.fr F1).base HS.out.src (by omega)).mono ?_
    rintro e u2 ⟨aG, cG, rfl, VG, f2⟩
    have F2 := F1.trans f2
    go_wp2_with fail
    refine (spec_TxtWrite xs _ _ _ (HS.out.src.fr f2) (by omega)).mono ?_
    rintro e u3 ⟨aW, cW, rfl, VW, f3⟩
    have F3 := F2.trans f3
    go_wp2_with fail
    refine (laws_haTexts_same _ _ _ _ (fun i => bs ((wrT xs).getD i [])) _ _ _ _ (VG.fr f3) VW hL).mono ?_
    rintro e u4 ⟨rfl, m4, hm4⟩
    have f4 : Fr u3 u4 := by rw [← hm4]; exact Below.drewN (Below.refl _ _) _
    clear hm4
    have f14 := (f2.trans f3).trans f4
    have F4 := F3.trans f4
    have HS4 := Lib.hid (HS.out.fr f14)
    have HG4 := Lib.hid (VG.fr (f3.trans f4))
    have HF4 := Lib.hid F4
    clear HS VG VW f2 f3 f4 f14 F1 F2 F3 F4
    go_wp2_with fail
    go_loopw [5] (fun i wr => ∃ p : Nat, p ≤ xs.length ∧ i = .int .i64 p ∧ (0 < p → xs.length ≤ 64) ∧ (∀ j, j < p → okB (xs.getD j 0) = true) ∧ u4 = wr) (fun i _ => xs.length - (intOf i).toNat)
    case atStart => exact ⟨0, Nat.zero_le _, rfl, fun h => absurd h (by omega), fun j hj => absurd hj (by omega), rfl⟩
    case round =>
      obtain ⟨p, hp, rfl, h64, hok, rfl⟩ := hrel
      have HK := Lib.hid hok
      have H64 := Lib.hid h64
      clear hok h64
      by_cases hlt : p < xs.length
      · have hlt' : (p : Int) < (xs.length : Int) := by omega
        obtain ⟨g, rfl, _, hg, hcc, _⟩ := HS4.out.at0 (by omega)
        have d0 : u4.cell? ⟨g, p, none⟩ = some (.int .i64 (xs.getD p 0)) := hcc p hlt
        have HN : Hid (okB (xs.getD p 0) = false ∨ 64 < xs.length → wrT xs = []) := fun h => by
          unfold wrT
          rw [if_neg]
          rintro ⟨h1, h2⟩
          rcases h with h | h
          · have := List.all_eq_true.1 h2 (xs.getD p 0) (by rw [List.getD_eq_getElem?_getD, List.getElem?_eq_getElem hlt]; exact List.getElem_mem hlt)
            rw [h] at this
            cases this
          · omega
        have HK2 : Hid (okB (xs.getD p 0) = true → ∀ j, j < p + 1 → okB (xs.getD j 0) = true) := fun h j hj => by
          by_cases e : j = p
          · rw [e]; exact h
          · exact HK.out j (by omega)
        generalize xs.getD p 0 = c at d0 HN HK2
        clear hcc
        go_wp2_with fail
        refine (spec_WrdOk c _).mono ?_
        rintro e u5 ⟨rfl, rfl⟩
        cases hb : okB c
        · have hw := HN.out (.inl hb)
          rw [hw]
          clear hb hw
          go_wp2_with (go_at_call 11; refine (laws_haOk _).mono ?_; rintro e u6 ⟨rfl, rfl⟩)
          go_ret
          exact ⟨rfl, HF4.out⟩
        · by_cases h65 : 64 < xs.length
          · have h65' : (64 : Int) < (xs.length : Int) := by omega
            have hw := HN.out (.inr h65)
            rw [hw]
            clear hb hw
            go_wp2_with (go_at_call 11; refine (laws_haOk _).mono ?_; rintro e u6 ⟨rfl, rfl⟩)
            go_ret
            exact ⟨rfl, HF4.out⟩
          · have h65' : ¬ (64 : Int) < (xs.length : Int) := by omega
            have HB := Lib.hid (HK2.out hb)
            clear hb HK2 HN
            go_wp2_with fail
            go_roundw
            case rel => exact ⟨p + 1, by omega, by go_num, fun _ => by omega, HB.out, by trivial⟩
            case measure => simp [intOf]; omega
      · have hge : ¬ (p : Int) < (xs.length : Int) := by omega
        obtain rfl : p = xs.length := by omega
        have hall : xs.all okB = true := by
          rw [List.all_eq_true]
          intro x hx
          obtain ⟨i, hi, rfl⟩ := List.mem_iff_getElem.1 hx
          have := HK.out i hi
          rwa [List.getD_eq_getElem?_getD, List.getElem?_eq_getElem hi] at this
        have h64 : xs.length ≤ 64 := by
          by_cases h0 : xs.length = 0
          · omega
          · exact H64.out (by omega)
        have hwr : wrT xs = xs.map lineW := if_pos ⟨h64, hall⟩
        have HB := Lib.hid (tread_back h64 hall)
        have HSH := Lib.hid (lines_short hall)
        rw [hwr] at HG4 ⊢
        have hlen : (xs.map lineW).length = xs.length := by simp
        clear hwr hall HK H64
        have C1 := impl_TxtRead (xs.map lineW) aG cG u4 (HT.out.fr HF4.out) HG4.out.src (by rw [hlen]; omega) (fun x hx => by have := HSH.out x hx; omega)
        rw [HB.out, hlen] at C1
        rw [hlen]
        have VX := HS4.out
        replace C1 := Lib.hid C1
        clear HB HSH hlen
        go_wp2_with fail
        refine C1.out.mono ?_
        rintro e u5 ⟨aB, cB, rfl, VB, f5⟩
        clear C1
        go_wp2_with fail
        refine (laws_haInts_same _ _ _ xs.length (fun i => xs.getD i 0) _ _ _ _ VB (VX.fr f5) (by omega)).mono ?_
        rintro e u6 ⟨rfl, m6, hm6⟩
        have f6 : Fr u5 u6 := by rw [← hm6]; exact Below.drewN (Below.refl _ _) _
        clear hm6
        go_wp2_with (go_at_call 11; refine (laws_haOk _).mono ?_; rintro e u7 ⟨rfl, rfl⟩)
        go_ret
        exact ⟨rfl, HF4.out.trans (f5.trans f6)⟩
  · go_wp2
    go_ret
    exact ⟨rfl, Below.refl _ _⟩

set_option maxRecDepth 100000 in
theorem lifted (os : Os) (started : os.Started) (H : Type) (enc : TypeId × Value → H) :
    ReturnsInHanded {} Tryz.checked os 3 .any (fun w args => (Rows.fnTxtWriteSpec.pre enc Tryz.prog Tryz.f3 [] false w args ∧ laidMetH Tryz.prog laidAll3 w) ∧ sizedMet enc Tryz.prog Tryz.f3 (OpenSpec.ofChange Rows.fnTxtWriteSpec) false w args)
      (Rows.fnTxtWriteSpec.post enc Tryz.prog Tryz.f3 false true false false) := by
  refine handed_and_shaped (C := Tryz.checked) (X := fun w _ => laidMetH Tryz.prog laidAll3 w) (fun _ _ _ hh h => h.of_heap hh) own started (by kernel_rfl) Tryz.func3
    (ChangeSpec.witness_shaped (enc := enc) (C := Tryz.checked) (os := os) (X := fun w _ => laidMetH Tryz.prog laidAll3 w) false (World.laidAll Tryz.prog os laidAll3) #[.slice none 0 0] 8 (World.laidAll_os _ _ _) (wit_shape os) (by kernel_rfl) (by kernel_rfl) (by kernel_rfl) (wit_met os _)) ?_
  intro W base args ds gs before hval0 hW _ _ hL hsh _
  have hval : ∀ (j : Nat) t v, Tryz.f3.params[j]? = some t → args[j]? = some v → Value.okWide Tryz.prog W .any base t v := hval0
  have hW' := hW
  obtain ⟨p, q, hA0, hV0, rfl, hfz, hnd⟩ := hW
  have hA : DataW.TrodAll enc Tryz.prog W 0 (fun _ => true) true Tryz.f3.params.toList args.toList ds p := hA0
  have hV : DataW.TrodVars enc Tryz.prog W (fun _ => true) Rows.fnTxtWriteSpec.vars gs q := hV0
  rw [Tryz.params3] at hA hval
  obtain ⟨v0, vs0, d0, ds0, p0, q0, hargs, rfl, rfl, h0, r0⟩ := trodAll_cons hA
  obtain ⟨rfl, rfl, rfl⟩ := trodAll_nil r0
  obtain rfl : args = #[v0] := by cases args; simp_all
  have hV1 := hV
  obtain ⟨g0, g1, g2, g3, g4, g5, g6, g7, g8, g9, rfl⟩ := list10 (trodVars_len hV1)
  obtain ⟨a0, len0, cap0, rfl⟩ := okWide_slice Tryz.underlying22 (hval 0 22 v0 rfl rfl)
  have k0 := h0
  have lt0 : ∀ x ∈ p0, x.block < W.heap.size := by obtain ⟨m, hm⟩ := k0; exact DataW.trod_lt m _ _ _ hm
  obtain ⟨z0, w0⟩ : ∃ zs, IsRow .u8 W a0 len0 cap0 zs := by
    obtain ⟨fuel, hf⟩ := h0
    rcases open_ints Tryz.underlying22 Tryz.underlying5 (by kernel_rfl) hf with ⟨hcs, _⟩ | ⟨x, l, c, zs, hcs, _, hl, hm, hz, _, hcell, hwz⟩
    · simp [Value.cells] at hcs
      obtain ⟨rfl, rfl, rfl⟩ := hcs
      exact ⟨[], .inl ⟨rfl, rfl, rfl, rfl⟩⟩
    · simp [Value.cells] at hcs
      obtain ⟨rfl, rfl, rfl⟩ := hcs
      exact ⟨zs, .inr ⟨_, rfl, hl, hm, by simpa using hz, hcell, hwz⟩⟩
  clear hA0 hval0 hV1
  refine (walk a0 len0 cap0 z0 W (tabs3_of_laid hL hsh) w0).mono fun e W' ⟨he, bel⟩ => ?_
  subst he
  exact ⟨_, rfl, _, _, _, [], _, _, hW', trodAll_mk1 (shut_bool Tryz.underlying4 _), (trodAll_cons_mk (Below.trod laidOut (by kernel_rfl) (of_decide_eq_true (by kernel_rfl)) k0 bel lt0) trodAll_mk0), bel.trodVars laidOut (by kernel_rfl) hV, bel.frame _, fun h => by cases h⟩

theorem over : Rows.fnTxtWriteRow.holds Tryz.pinned (OpenSpec.ofChange Rows.fnTxtWriteSpec) :=
  OpenClaim.holds_of_wide 3 Tryz.f3 rfl rfl rfl rfl rfl rfl rfl ⟨rfl, rfl, rfl, rfl, rfl⟩ rfl rfl rfl rfl rfl (by kernel_rfl) Tryz.func3 (by kernel_rfl)
    (of_decide_eq_true (by kernel_rfl)) (by unfold Func.isWrapper; first | (rw [if_pos (by decide +kernel)]; kernel_rfl) | (rw [if_neg (by decide +kernel)]; exact ⟨rfl, rfl⟩))
    (fun os started H enc _ => lifted os started H enc)

/-- THE STATEMENT: the tied card. -/
theorem proved : Rows.FnTxtWriteCardSaid :=
  Claim7.holds_tied_plain_at .later [] [.data, .data, .data, .data, .sentinel, .sentinel, .wider, .data, .data, .sentinel, .sentinel, .sentinel, .sentinel, .sentinel, .sentinel, .sentinel, .pinned] true (true, "b6d9eca05f39d815bf8bca09b51b97f7150abd1fdf4904d954476c74461fad5b") true
    over (fun _ h => by cases h) (by kernel_rfl) (fun _ h => by cases h) fnTxtWrite_row_tie rfl ⟨rfl, rfl⟩ (by kernel_rfl) rfl
    (fun f fn hf hfn => by
      obtain rfl : f = 3 := Option.some.inj ((show Tryz.prog.funcNamed "loop.example/harbinger/laws.FnTxtWrite" = some 3 by kernel_rfl).symm.trans hf) |>.symm
      obtain rfl : fn = Tryz.f3 := (Option.some.inj (Tryz.func3.symm.trans hfn)).symm
      exact ⟨by kernel_rfl, fun j t ht => by
        rw [Tryz.params3] at ht
        have hm : t ∈ [22] := by simpa using Array.mem_of_getElem? ht
        have hall : ([22].all fun u => !Tryz.prog.wantsStandIn u) = true := by kernel_rfl
        exact (show Tryz.prog.wantsStandIn t = false by simpa using List.all_eq_true.1 hall t hm)⟩)
    (by kernel_rfl)
#print axioms proved
end Go.Proofs.YtecdmafhjfnloaaGreatDoor.fnTxtWrite
