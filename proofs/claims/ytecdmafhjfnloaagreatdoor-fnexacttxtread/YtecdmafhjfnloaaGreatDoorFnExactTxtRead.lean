/- For every slice of strings, TxtRead of the program returns what TxtRead of the model returns, both results; it writes into no argument, and its answer owns its memory (no condition; the tables and errors read as the program's text lays them, which the card ties). -/
import Derived.Test.YtecdmafhjfnloaaGreatDoorCards
import Derived.Test.YtecdmafhjfnloaaGreatDoorTie
import Derived.Test.YtecdmafhjfnloaaGreatDoorLaid3
import Derived.Test.YtecdmafhjfnloaaGreatDoorTr3
import Derived.WalkKit
import Derived.ProofKit
import Derived.OpenShut
import Derived.ShutString
import Derived.SliceStrings
import Derived.ChangeOld
import Derived.Below
import Derived.SevenTiedAt
namespace Go.Proofs.YtecdmafhjfnloaaGreatDoor.fnExactTxtRead
open Go.ChangeShapes Go.WideShapes Go.ChangeAt Go.RowKit
set_option linter.unusedVariables false

def IsRowS (w : World) (a : Option Addr) (len cap : Nat) (zs : List ByteArray) : Prop :=
  (a = none ∧ len = 0 ∧ cap = 0 ∧ zs = []) ∨
  ∃ x, a = some x ∧ len ≤ cap ∧ cap ≤ maxLen ∧ zs.length = cap ∧ (∀ i, i < zs.length → w.cell? (x.add i) = some (.string (zs.getD i ByteArray.empty))) ∧ ∀ n ∈ zs, n.size ≤ maxLen

set_option maxRecDepth 8000 in
set_option maxHeartbeats 4000000 in
theorem walk (a0 : Option Addr) (len0 cap0 : Nat) (z0 : List ByteArray) (w : World) (ht : Tabs3 w) (w0 : IsRowS w a0 len0 cap0 z0) :
    Calls Tryz.prog 5 #[.slice a0 len0 cap0] w fun e w' => e = .returned (.bool true) ∧ Below w.heap.size w w' := by
  have HT := Lib.hid ht
  clear ht
  have hmx : maxLen = 9223372036854775807 := rfl
  obtain ⟨ls, rfl, hs, hlm, hxm⟩ : ∃ ls : List (List UInt8), ls.length = len0 ∧ Src w ls.length (tv ls) a0 ∧ ls.length ≤ 9223372036854775807 ∧ ∀ x ∈ ls, x.length ≤ 9223372036854775807 := by
    rcases w0 with ⟨rfl, rfl, rfl, rfl⟩ | ⟨x, rfl, hl, hm, hz, hcell, hwz⟩
    · exact ⟨[], rfl, fun h => by simp at h, by simp, by simp⟩
    · refine ⟨(z0.take len0).map (fun b => b.data.toList), by simp; omega, src_of_row fun i hi => ?_, by simp; omega, fun y hy => ?_⟩
      · have hi' : i < len0 := by simp at hi; omega
        have hiz : i < z0.length := by omega
        rw [hcell i hiz]
        have e1 : z0.getD i ByteArray.empty = z0[i] := by simp [List.getD_eq_getElem?_getD, List.getElem?_eq_getElem hiz]
        have e2 : ((z0.take len0).map (fun b => b.data.toList)).getD i [] = z0[i].data.toList := by
          rw [List.getD_eq_getElem?_getD, List.getElem?_map, List.getElem?_take_of_lt hi', List.getElem?_eq_getElem hiz]
          rfl
        rw [e1]
        show _ = some (Value.string (bs _))
        rw [e2]
      · obtain ⟨b, hb, rfl⟩ := List.mem_map.1 hy
        have := hwz b (List.mem_of_mem_take hb)
        rw [hmx] at this
        exact this
  clear w0 z0
  have HS := Lib.hid hs
  have HX := Lib.hid hxm
  clear hs hxm
  have hsz0 : ∀ i, (bs (ls.getD i [])).size ≤ 9223372036854775807 := fun i => by
    show (ls.getD i []).length ≤ _
    rw [List.getD_eq_getElem?_getD]
    cases h : ls[i]? with
    | none => simp
    | some y => exact HX.out y (List.mem_of_getElem? h)
  replace hsz0 := Lib.hid hsz0
  go_enter Tryz.func5, Tryz.ntmps5
  go_wp2_with fail
  refine (laws_szStringS _ _ ls.length _ (fun i => bs (ls.getD i [])) 1048576 HS.out hlm hsz0.out (by omega) (by omega)).mono ?_
  rintro e u0 ⟨r, rfl, rfl, hr⟩
  by_cases hr0 : r < 0
  · go_wp2_with fail
    go_ret
    exact ⟨rfl, Below.refl _ _⟩
  · obtain ⟨hl, hxs⟩ := hr (by omega)
    replace hl : ls.length ≤ 1048576 := by omega
    have HX2 : Hid (∀ x ∈ ls, x.length ≤ 1048576) := fun x hx => by
      obtain ⟨i, hi, rfl⟩ := List.mem_iff_getElem.1 hx
      have h2 := hxs i hi
      have e2 : ls.getD i [] = ls[i] := by simp [List.getD_eq_getElem?_getD, List.getElem?_eq_getElem hi]
      simp only [e2] at h2
      have h3 : (bs ls[i]).size = ls[i].length := rfl
      omega
    have HX3 : Hid (∀ x ∈ ls, x.length ≤ 4000000) := fun x hx => by have := HX2.out x hx; omega
    have HX4 : Hid (∀ x ∈ ls, x.length < 4294967281) := fun x hx => by have := HX2.out x hx; omega
    have hr0' : ¬ r < 0 := hr0
    clear hr hxs HX hsz0 HX2 hlm
    have hL : (tread ls).1.length ≤ 1048576 := by have := tread_len ls; omega
    obtain ⟨ws, t0, hws⟩ : ∃ ws t0, tread ls = (ws, t0) := ⟨_, _, rfl⟩
    have HW := Lib.hid hws
    rw [hws] at hL
    replace hL : ws.length ≤ 1048576 := hL
    have CI : ∀ ao cap u, Tabs3 u → Src u ls.length (tv ls) ao → Calls Tryz.prog 12 #[.slice ao ls.length cap] u (RdP u (ws, t0)) := fun ao cap u ht hs => by rw [← HW.out]; exact impl_TxtRead ls ao cap u ht hs hl HX4.out
    have CS : ∀ ao cap u, Src u ls.length (tv ls) ao → Calls Tryz.prog 15 #[.slice ao ls.length cap] u (RdP u (ws, t0)) := fun ao cap u hs => by rw [← HW.out]; exact spec_TxtRead ls ao cap u hs hl HX3.out
    replace CI := Lib.hid CI
    replace CS := Lib.hid CS
    clear HX3 HX4 hws
    go_wp2_with fail
    refine (laws_toStringS _ _ _ _ (fun i => bs (ls.getD i [])) HS.out hl).mono ?_
    rintro e u1 ⟨g1, rfl, b1, l1, V1, F1⟩
    go_wp2_with fail
    refine (CS.out _ _ _ V1.src).mono ?_
    rintro e u2 ⟨aW, cW, rfl, VW, f2⟩
    have F2 := F1.trans f2
    go_wp2_with fail
    refine (laws_toStringS _ _ _ _ (fun i => bs (ls.getD i [])) (HS.out.fr F2) hl).mono ?_
    rintro e u3 ⟨g3, rfl, b3, l3, V3, f3⟩
    have F3 := F2.trans f3
    have VW3 := VW.fr f3
    go_wp2_with fail
    refine (CI.out _ _ _ (HT.out.fr F3) V3.src).mono ?_
    rintro e u4 ⟨aG, cG, rfl, VG, f4⟩
    have F4 := F3.trans f4
    have VW4 := VW3.fr f4
    go_wp2_with fail
    refine (laws_eqIntS_same _ _ _ _ (fun i => ws.getD i 0) _ _ _ _ VG VW4 hL).mono ?_
    rintro e u5 ⟨rfl, m5, hm5⟩
    have f5 : Fr u4 u5 := by rw [← hm5]; exact Below.drewN (Below.refl _ _) _
    clear hm5
    have F5 := F4.trans f5
    have V5 := (V3.fr f4).fr f5
    have VW5 := VW4.fr f5
    have VG5 := VG.fr f5
    have hs3 := f3.size
    have hs45 := Nat.le_trans f4.size f5.size
    clear VW3 VW4 V3 VG f2 f4 f5 V1 F4
    go_wp2_with fail
    refine (laws_toStringS _ _ _ _ (fun i => bs (ls.getD i [])) (HS.out.fr F5) hl).mono ?_
    rintro e u6 ⟨g6, rfl, b6, l6, V6, f6⟩
    go_wp2_with fail
    refine (laws_eqStringS_same _ _ _ _ (fun i => bs (ls.getD i [])) _ _ _ _ (V5.fr f6) V6 hl).mono ?_
    rintro e u7 ⟨rfl, m7, hm7⟩
    have f7 : Fr u6 u7 := by rw [← hm7]; exact Below.drewN (Below.refl _ _) _
    clear hm7
    have f67 := f6.trans f7
    have F7 := F5.trans f67
    have V7 := V5.fr f67
    have VW7 := VW5.fr f67
    have VG7 := VG5.fr f67
    have hs7 := f67.size
    clear VW5 VG5 V5 V6 f6 f7 F5
    go_wp2_with fail
    refine (laws_markStringS _ _ _ (fun i => bs (ls.getD i [])) _ _ 1 V7 (by omega) hl (by omega) (by omega)).mono ?_
    rintro e u8 ⟨rfl, _, r8, q8⟩
    have F8 : Fr w u8 := Below.trans F7 (q8.mono F2.size)
    have VW8 := VW7.grown r8 (fun h0 g b hg hb => by have := VW.blk h0 g hg; cases hb; show g ≠ g3; omega)
    have VG8 := VG7.grown r8 (fun h0 g b hg hb => by have := VG7.blk h0 g hg; cases hb; show g ≠ g3; omega)
    have hs8 := r8.size
    go_wp2_with fail
    refine (laws_eqIntS_same _ _ _ _ (fun i => ws.getD i 0) _ _ _ _ VG8 VW8 hL).mono ?_
    rintro e u9 ⟨rfl, m9, hm9⟩
    have f9 : Fr u8 u9 := by rw [← hm9]; exact Below.drewN (Below.refl _ _) _
    clear hm9
    have F9 := F8.trans f9
    have VW9 := VW8.fr f9
    have VG9 := VG8.fr f9
    have hs9 := f9.size
    clear VW8 VG8 V7 VG7 VW7 F8 f9 F7
    go_wp2_with fail
    refine (laws_markIntS _ _ _ (fun i => ws.getD i 0) _ _ 1 VG9 (by omega) hL (by omega) (by omega)).mono ?_
    rintro e u10 ⟨rfl, VH, r10, q10⟩
    have hs10 := r10.size
    have F10 : Fr w u10 := Below.trans F9 (q10.mono F3.size)
    have VW10 := VW9.low q10 (fun h0 g hg => by have := VW.blk h0 g hg; omega)
    clear VW9 VG9 F9
    go_wp2_with fail
    refine (laws_heldIntS _ _ _ _ _ 1 VH hL (by omega) (by omega)).mono ?_
    rintro e u11 ⟨rfl, f11⟩
    have F11 := F10.trans f11
    have VW11 := VW10.fr f11
    have VH11 := VH.fr f11
    clear VW10 VH F10 f11
    go_wp2_with fail
    refine (laws_toStringS _ _ _ _ (fun i => bs (ls.getD i [])) (HS.out.fr F11) hl).mono ?_
    rintro e u12 ⟨g12, rfl, b12, l12, V12, f12⟩
    have F12 := F11.trans f12
    go_wp2_with fail
    refine (CI.out _ _ _ (HT.out.fr F12) V12.src).mono ?_
    rintro e u13 ⟨aH, cH, rfl, VX, f13⟩
    have f123 := f12.trans f13
    go_wp2_with fail
    refine (laws_eqIntS_same _ _ _ _ (fun i => ws.getD i 0) _ _ _ _ VX (VW11.fr f123) hL).mono ?_
    rintro e u14 ⟨rfl, m14, hm14⟩
    have f14 : Fr u13 u14 := by rw [← hm14]; exact Below.drewN (Below.refl _ _) _
    clear hm14
    have f1234 := f123.trans f14
    go_wp2_with fail
    refine (laws_heldIntS _ _ _ _ _ 1 (VH11.fr f1234) hL (by omega) (by omega)).mono ?_
    rintro e u15 ⟨rfl, f15⟩
    go_wp2_with fail
    go_ret
    exact ⟨rfl, (F11.trans f1234).trans f15⟩

set_option maxRecDepth 100000 in
theorem lifted (os : Os) (started : os.Started) (H : Type) (enc : TypeId × Value → H) :
    ReturnsInHanded {} Tryz.checked os 5 .any (fun w args => (Rows.fnExactTxtReadSpec.pre enc Tryz.prog Tryz.f5 [] false w args ∧ laidMetH Tryz.prog laidAll3 w) ∧ sizedMet enc Tryz.prog Tryz.f5 (OpenSpec.ofChange Rows.fnExactTxtReadSpec) false w args)
      (Rows.fnExactTxtReadSpec.post enc Tryz.prog Tryz.f5 false true false false) := by
  refine handed_and_shaped (C := Tryz.checked) (X := fun w _ => laidMetH Tryz.prog laidAll3 w) (fun _ _ _ hh h => h.of_heap hh) own started (by kernel_rfl) Tryz.func5
    (ChangeSpec.witness_shaped (enc := enc) (C := Tryz.checked) (os := os) (X := fun w _ => laidMetH Tryz.prog laidAll3 w) false (World.laidAll Tryz.prog os laidAll3) #[.slice none 0 0] 8 (World.laidAll_os _ _ _) (wit_shape os) (by kernel_rfl) (by kernel_rfl) (by kernel_rfl) (wit_met os _)) ?_
  intro W base args ds gs before hval0 hW _ _ hL hsh _
  have hval : ∀ (j : Nat) t v, Tryz.f5.params[j]? = some t → args[j]? = some v → Value.okWide Tryz.prog W .any base t v := hval0
  have hW' := hW
  obtain ⟨p, q, hA0, hV0, rfl, hfz, hnd⟩ := hW
  have hA : DataW.TrodAll enc Tryz.prog W 0 (fun _ => true) true Tryz.f5.params.toList args.toList ds p := hA0
  have hV : DataW.TrodVars enc Tryz.prog W (fun _ => true) Rows.fnExactTxtReadSpec.vars gs q := hV0
  rw [Tryz.params5] at hA hval
  obtain ⟨v0, vs0, d0, ds0, p0, q0, hargs, rfl, rfl, h0, r0⟩ := trodAll_cons hA
  obtain ⟨rfl, rfl, rfl⟩ := trodAll_nil r0
  obtain rfl : args = #[v0] := by cases args; simp_all
  have hV1 := hV
  obtain ⟨g0, g1, g2, g3, g4, g5, g6, g7, g8, g9, rfl⟩ := list10 (trodVars_len hV1)
  obtain ⟨a0, len0, cap0, rfl⟩ := okWide_slice Tryz.underlying25 (hval 0 25 v0 rfl rfl)
  have k0 := h0
  have lt0 : ∀ x ∈ p0, x.block < W.heap.size := by obtain ⟨m, hm⟩ := k0; exact DataW.trod_lt m _ _ _ hm
  obtain ⟨z0, w0⟩ : ∃ zs, IsRowS W a0 len0 cap0 zs := by
    obtain ⟨fuel, hf⟩ := h0
    rcases open_strings Tryz.underlying25 Tryz.underlying9 (by kernel_rfl) hf with ⟨hcs, _⟩ | ⟨x, l, c, zs, hcs, _, hl, hm, hz, _, hcell, hwz⟩
    · simp [Value.cells] at hcs
      obtain ⟨rfl, rfl, rfl⟩ := hcs
      exact ⟨[], .inl ⟨rfl, rfl, rfl, rfl⟩⟩
    · simp [Value.cells] at hcs
      obtain ⟨rfl, rfl, rfl⟩ := hcs
      exact ⟨zs, .inr ⟨_, rfl, hl, hm, by simpa using hz, hcell, hwz⟩⟩
  clear hA0 hval0 hV1
  refine (walk a0 len0 cap0 z0 W (tabs3_of_laid hL hsh) w0).mono fun e W' ⟨he, bel⟩ => ?_
  subst he
  exact ⟨_, rfl, _, _, _, [], _, _, hW', trodAll_mk1 (shut_bool Tryz.underlying4 _), (trodAll_cons_mk (Below.trod laidOut (by kernel_rfl) (of_decide_eq_true (by kernel_rfl)) k0 bel lt0) trodAll_mk0), bel.trodVars laidOut (by kernel_rfl) hV, bel.frame _, fun h => by cases h⟩

theorem over : Rows.fnExactTxtReadRow.holds Tryz.pinned (OpenSpec.ofChange Rows.fnExactTxtReadSpec) :=
  OpenClaim.holds_of_wide 5 Tryz.f5 rfl rfl rfl rfl rfl rfl rfl ⟨rfl, rfl, rfl, rfl, rfl⟩ rfl rfl rfl rfl rfl (by kernel_rfl) Tryz.func5 (by kernel_rfl)
    (of_decide_eq_true (by kernel_rfl)) (by unfold Func.isWrapper; first | (rw [if_pos (by decide +kernel)]; kernel_rfl) | (rw [if_neg (by decide +kernel)]; exact ⟨rfl, rfl⟩))
    (fun os started H enc _ => lifted os started H enc)

/-- THE STATEMENT: the tied card. -/
theorem proved : Rows.FnExactTxtReadCardSaid :=
  Claim7.holds_tied_plain_at .later [] [.data, .data, .data, .data, .sentinel, .sentinel, .wider, .data, .data, .sentinel, .sentinel, .sentinel, .sentinel, .sentinel, .sentinel, .sentinel, .pinned] true (true, "b6d9eca05f39d815bf8bca09b51b97f7150abd1fdf4904d954476c74461fad5b") true
    over (fun _ h => by cases h) (by kernel_rfl) (fun _ h => by cases h) fnExactTxtRead_row_tie rfl ⟨rfl, rfl⟩ (by kernel_rfl) rfl
    (fun f fn hf hfn => by
      obtain rfl : f = 5 := Option.some.inj ((show Tryz.prog.funcNamed "loop.example/harbinger/laws.FnExactTxtRead" = some 5 by kernel_rfl).symm.trans hf) |>.symm
      obtain rfl : fn = Tryz.f5 := (Option.some.inj (Tryz.func5.symm.trans hfn)).symm
      exact ⟨by kernel_rfl, fun j t ht => by
        rw [Tryz.params5] at ht
        have hm : t ∈ [25] := by simpa using Array.mem_of_getElem? ht
        have hall : ([25].all fun u => !Tryz.prog.wantsStandIn u) = true := by kernel_rfl
        exact (show Tryz.prog.wantsStandIn t = false by simpa using List.all_eq_true.1 hall t hm)⟩)
    (by kernel_rfl)
#print axioms proved
end Go.Proofs.YtecdmafhjfnloaaGreatDoor.fnExactTxtRead
