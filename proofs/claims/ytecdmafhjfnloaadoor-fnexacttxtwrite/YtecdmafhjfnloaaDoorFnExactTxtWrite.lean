/- For every slice of ints, TxtWrite of the program returns what TxtWrite of the model returns, writes into no argument, and its answer owns its memory (no condition; the tables read as the program's text lays them, which the card ties). -/
import Derived.Test.YtecdmafhjfnloaaDoorCards
import Derived.Test.YtecdmafhjfnloaaDoorTie
import Derived.Test.YtecdmafhjfnloaaDoorLaid2
import Derived.Test.YtecdmafhjfnloaaDoorWr
import Derived.Test.YtecdmafhjfnloaaDoorCodLaws2
import Derived.WalkKit
import Derived.ProofKit
import Derived.OpenShut
import Derived.ShutString
import Derived.SliceStrings
import Derived.ChangeOld
import Derived.Below
import Derived.SevenTiedAt
namespace Go.Proofs.YtecdmafhjfnloaaDoor.fnExactTxtWrite
open Go.ChangeShapes Go.WideShapes Go.ChangeAt Go.RowKit
set_option linter.unusedVariables false

def IsRow (k : IntKind) (w : World) (a : Option Addr) (len cap : Nat) (zs : List Int) : Prop :=
  (a = none ∧ len = 0 ∧ cap = 0 ∧ zs = []) ∨
  ∃ x, a = some x ∧ len ≤ cap ∧ cap ≤ maxLen ∧ zs.length = cap ∧ (∀ i, i < zs.length → w.cell? (x.add i) = some (.int k (zs.getD i 0))) ∧ ∀ n ∈ zs, (Lit.int k n).wf = true

set_option maxRecDepth 8000 in
set_option maxHeartbeats 4000000 in
theorem walk (a0 : Option Addr) (len0 cap0 : Nat) (z0 : List Int) (w : World) (ht : Tabs2 w) (w0 : IsRow .i64 w a0 len0 cap0 z0) :
    Calls Tryd.prog 10 #[.slice a0 len0 cap0] w fun e w' => e = .returned (.bool true) ∧ Below w.heap.size w w' := by
  have HT := Lib.hid ht
  clear ht
  obtain ⟨xs, rfl, hs⟩ : ∃ xs : List Int, xs.length = len0 ∧ Src w xs.length (iv xs) a0 := by
    rcases w0 with ⟨rfl, rfl, rfl, rfl⟩ | ⟨x, rfl, hl, hm, hz, hcell, hwz⟩
    · exact ⟨[], rfl, fun h => by simp at h⟩
    · refine ⟨z0.take len0, by simp; omega, src_of_row fun i hi => ?_⟩
      have hi' : i < len0 := by simp at hi; omega
      rw [hcell i (by omega)]
      simp only [iv, List.getD_eq_getElem?_getD, List.getElem?_take_of_lt hi']
  clear w0 z0
  have HS := Lib.hid hs
  clear hs
  go_enter Tryd.func10, Tryd.ntmps10
  by_cases hl : xs.length ≤ 1048576
  · have hl' : ¬ (1048576 : Int) < (xs.length : Int) := by omega
    have hL : (wrT xs).length ≤ 1048576 := by
      unfold wrT
      split
      · simp; omega
      · simp
    go_wp2_with fail
    refine (laws_toIntS _ _ _ _ (fun i => xs.getD i 0) HS.out hl).mono ?_
    rintro e u1 ⟨g1, rfl, b1, l1, V1, F1⟩
    go_wp2_with fail
    refine (spec_TxtWrite xs _ _ _ V1.src hl).mono ?_
    rintro e u2 ⟨aW, cW, rfl, VW, f2⟩
    have F2 := F1.trans f2
    go_wp2_with fail
    refine (laws_toIntS _ _ _ _ (fun i => xs.getD i 0) (HS.out.fr F2) hl).mono ?_
    rintro e u3 ⟨g3, rfl, b3, l3, V3, f3⟩
    have F3 := F2.trans f3
    have VW3 := VW.fr f3
    go_wp2_with fail
    refine (impl_TxtWrite xs _ _ _ (HT.out.fr F3) V3.src hl).mono ?_
    rintro e u4 ⟨aG, cG, rfl, VG, f4⟩
    have F4 := F3.trans f4
    have VW4 := VW3.fr f4
    go_wp2_with fail
    refine (laws_eqStringS_same _ _ _ _ (fun i => bs ((wrT xs).getD i [])) _ _ _ _ VG VW4 hL).mono ?_
    rintro e u5 ⟨rfl, m5, hm5⟩
    have f5 : Fr u4 u5 := by rw [← hm5]; exact Below.drewN (Below.refl _ _) _
    clear hm5
    have F5 := F4.trans f5
    have V5 := (V3.fr f4).fr f5
    have VW5 := VW4.fr f5
    have VG5 := VG.fr f5
    have hs3 := f3.size
    have hs45 := Nat.le_trans f4.size f5.size
    clear VW3 VW4 V3 VG f2 f4 f5 V1 F4
    go_wp2_with fail
    refine (laws_toIntS _ _ _ _ (fun i => xs.getD i 0) (HS.out.fr F5) hl).mono ?_
    rintro e u6 ⟨g6, rfl, b6, l6, V6, f6⟩
    go_wp2_with fail
    refine (laws_eqIntS_same _ _ _ _ (fun i => xs.getD i 0) _ _ _ _ (V5.fr f6) V6 hl).mono ?_
    rintro e u7 ⟨rfl, m7, hm7⟩
    have f7 : Fr u6 u7 := by rw [← hm7]; exact Below.drewN (Below.refl _ _) _
    clear hm7
    have f67 := f6.trans f7
    have F7 := F5.trans f67
    have V7 := V5.fr f67
    have VW7 := VW5.fr f67
    have VG7 := VG5.fr f67
    have hs7 := f67.size
    clear VW5 VG5 V5 V6 f6 f7 F5
    go_wp2_with fail
    refine (laws_markIntS _ _ _ (fun i => xs.getD i 0) _ _ 1 V7 (by omega) hl (by omega) (by omega)).mono ?_
    rintro e u8 ⟨rfl, _, r8, q8⟩
    have F8 : Fr w u8 := Below.trans F7 (q8.mono F2.size)
    have VW8 := VW7.grown r8 (fun h0 g b hg hb => by have := VW.blk h0 g hg; cases hb; show g ≠ g3; omega)
    have VG8 := VG7.grown r8 (fun h0 g b hg hb => by have := VG7.blk h0 g hg; cases hb; show g ≠ g3; omega)
    have hs8 := r8.size
    go_wp2_with fail
    refine (laws_eqStringS_same _ _ _ _ (fun i => bs ((wrT xs).getD i [])) _ _ _ _ VG8 VW8 hL).mono ?_
    rintro e u9 ⟨rfl, m9, hm9⟩
    have f9 : Fr u8 u9 := by rw [← hm9]; exact Below.drewN (Below.refl _ _) _
    clear hm9
    have F9 := F8.trans f9
    have VW9 := VW8.fr f9
    have VG9 := VG8.fr f9
    have hs9 := f9.size
    clear VW8 VG8 V7 VG7 VW7 F8 f9 F7
    go_wp2_with fail
    refine (laws_markStringS _ _ _ (fun i => bs ((wrT xs).getD i [])) _ _ 1 VG9 (by omega) hL (by omega) (by omega)).mono ?_
    rintro e u10 ⟨rfl, VH, r10, q10⟩
    have hs10 := r10.size
    have F10 : Fr w u10 := Below.trans F9 (q10.mono F3.size)
    have VW10 := VW9.low q10 (fun h0 g hg => by have := VW.blk h0 g hg; omega)
    clear VW9 VG9 F9
    go_wp2_with fail
    refine (laws_heldStringS _ _ _ _ _ 1 VH hL (by omega) (by omega)).mono ?_
    rintro e u11 ⟨rfl, f11⟩
    have F11 := F10.trans f11
    have VW11 := VW10.fr f11
    have VH11 := VH.fr f11
    clear VW10 VH F10 f11
    go_wp2_with fail
    refine (laws_toIntS _ _ _ _ (fun i => xs.getD i 0) (HS.out.fr F11) hl).mono ?_
    rintro e u12 ⟨g12, rfl, b12, l12, V12, f12⟩
    have F12 := F11.trans f12
    go_wp2_with fail
    refine (impl_TxtWrite xs _ _ _ (HT.out.fr F12) V12.src hl).mono ?_
    rintro e u13 ⟨aH, cH, rfl, VX, f13⟩
    have f123 := f12.trans f13
    go_wp2_with fail
    refine (laws_eqStringS_same _ _ _ _ (fun i => bs ((wrT xs).getD i [])) _ _ _ _ VX (VW11.fr f123) hL).mono ?_
    rintro e u14 ⟨rfl, m14, hm14⟩
    have f14 : Fr u13 u14 := by rw [← hm14]; exact Below.drewN (Below.refl _ _) _
    clear hm14
    have f1234 := f123.trans f14
    go_wp2_with fail
    refine (laws_heldStringS _ _ _ _ _ 1 (VH11.fr f1234) hL (by omega) (by omega)).mono ?_
    rintro e u15 ⟨rfl, f15⟩
    go_wp2_with fail
    go_ret
    exact ⟨rfl, (F11.trans f1234).trans f15⟩
  · go_wp2
    go_ret
    exact ⟨rfl, Below.refl _ _⟩

set_option maxRecDepth 100000 in
theorem lifted (os : Os) (started : os.Started) (H : Type) (enc : TypeId × Value → H) :
    ReturnsInHanded {} Tryd.checked os 10 .any (fun w args => (Rows.fnExactTxtWriteSpec.pre enc Tryd.prog Tryd.f10 [] false w args ∧ laidMetH Tryd.prog laidAll2 w) ∧ sizedMet enc Tryd.prog Tryd.f10 (OpenSpec.ofChange Rows.fnExactTxtWriteSpec) false w args)
      (Rows.fnExactTxtWriteSpec.post enc Tryd.prog Tryd.f10 false true false false) := by
  refine returnsInHanded_of_change_and (C := Tryd.checked) (X := fun w _ => laidMetH Tryd.prog laidAll2 w) (fun _ _ _ hh h => h.of_heap hh) own started (by kernel_rfl) Tryd.func10
    (ChangeSpec.witness_shaped (enc := enc) (C := Tryd.checked) (os := os) (X := fun w _ => laidMetH Tryd.prog laidAll2 w) false (World.doorLaid Tryd.prog 400 os) #[.slice none 0 0] 8 rfl (World.shaped_of_RefB (by kernel_rfl) (by kernel_rfl)) (by kernel_rfl) (by kernel_rfl) (by kernel_rfl) (door_met2 os _)) ?_
  intro W base args ds gs before hval0 hW _ _ hL _
  have hval : ∀ (j : Nat) t v, Tryd.f10.params[j]? = some t → args[j]? = some v → Value.okWide Tryd.prog W .any base t v := hval0
  have hW' := hW
  obtain ⟨p, q, hA0, hV0, rfl, hfz, hnd⟩ := hW
  have hA : DataW.TrodAll enc Tryd.prog W 0 (fun _ => true) true Tryd.f10.params.toList args.toList ds p := hA0
  have hV : DataW.TrodVars enc Tryd.prog W (fun _ => true) laidNames2 gs q := hV0
  rw [Tryd.params10] at hA hval
  obtain ⟨v0, vs0, d0, ds0, p0, q0, hargs, rfl, rfl, h0, r0⟩ := trodAll_cons hA
  obtain ⟨rfl, rfl, rfl⟩ := trodAll_nil r0
  obtain rfl : args = #[v0] := by cases args; simp_all
  have hV1 := hV
  obtain ⟨g0, g1, g2, rfl⟩ := three_of (trodVars_len hV1)
  obtain ⟨a0, len0, cap0, rfl⟩ := okWide_slice Tryd.underlying39 (hval 0 39 v0 rfl rfl)
  have k0 := h0
  have lt0 : ∀ x ∈ p0, x.block < W.heap.size := by obtain ⟨m, hm⟩ := k0; exact DataW.trod_lt m _ _ _ hm
  obtain ⟨z0, w0⟩ : ∃ zs, IsRow .i64 W a0 len0 cap0 zs := by
    obtain ⟨fuel, hf⟩ := h0
    rcases open_ints Tryd.underlying39 Tryd.underlying3 (by kernel_rfl) hf with ⟨hcs, _⟩ | ⟨x, l, c, zs, hcs, _, hl, hm, hz, _, hcell, hwz⟩
    · simp [Value.cells] at hcs
      obtain ⟨rfl, rfl, rfl⟩ := hcs
      exact ⟨[], .inl ⟨rfl, rfl, rfl, rfl⟩⟩
    · simp [Value.cells] at hcs
      obtain ⟨rfl, rfl, rfl⟩ := hcs
      exact ⟨zs, .inr ⟨_, rfl, hl, hm, by simpa using hz, hcell, hwz⟩⟩
  clear hA0 hval0 hV1
  refine (walk a0 len0 cap0 z0 W (tabs2_of_laid hL) w0).mono fun e W' ⟨he, bel⟩ => ?_
  subst he
  exact ⟨_, rfl, _, _, _, [], _, _, hW', trodAll_mk1 (shut_bool Tryd.underlying4 _), (trodAll_cons_mk (Below.trod laidOut (by kernel_rfl) (of_decide_eq_true (by kernel_rfl)) k0 bel lt0) trodAll_mk0), bel.trodVars laidOut (by kernel_rfl) hV, bel.frame _, fun h => by cases h⟩

theorem over : Rows.fnExactTxtWriteRow.holds Tryd.pinned (OpenSpec.ofChange Rows.fnExactTxtWriteSpec) :=
  OpenClaim.holds_of_wide 10 Tryd.f10 rfl rfl rfl rfl rfl rfl rfl ⟨rfl, rfl, rfl, rfl, rfl⟩ rfl rfl rfl rfl rfl (by kernel_rfl) Tryd.func10 (by kernel_rfl)
    (of_decide_eq_true (by kernel_rfl)) (by unfold Func.isWrapper; first | (rw [if_pos (by decide +kernel)]; kernel_rfl) | (rw [if_neg (by decide +kernel)]; exact ⟨rfl, rfl⟩))
    (fun os started H enc _ => lifted os started H enc)

/-- THE STATEMENT: the tied card. -/
theorem proved : Rows.FnExactTxtWriteCardSaid :=
  Claim7.holds_tied_plain_at .later [] [.data, .data, .data, .wider, .data, .data] true (true, "b52127b27052be8e1379b4928e638b8b16f290584df6f950925e06d10987c8aa") true
    over (fun _ h => by cases h) (by kernel_rfl) (fun _ h => by cases h) fnExactTxtWrite_row_tie rfl ⟨rfl, rfl⟩ (by kernel_rfl) rfl
    (fun f fn hf hfn => by
      obtain rfl : f = 10 := Option.some.inj ((show Tryd.prog.funcNamed "loop.example/harbinger/laws.FnExactTxtWrite" = some 10 by kernel_rfl).symm.trans hf) |>.symm
      obtain rfl : fn = Tryd.f10 := (Option.some.inj (Tryd.func10.symm.trans hfn)).symm
      exact ⟨by kernel_rfl, fun j t ht => by
        rw [Tryd.params10] at ht
        have hm : t ∈ [39] := by simpa using Array.mem_of_getElem? ht
        have hall : ([39].all fun u => !Tryd.prog.wantsStandIn u) = true := by kernel_rfl
        exact (show Tryd.prog.wantsStandIn t = false by simpa using List.all_eq_true.1 hall t hm)⟩)
    (by kernel_rfl)
#print axioms proved
end Go.Proofs.YtecdmafhjfnloaaDoor.fnExactTxtWrite
