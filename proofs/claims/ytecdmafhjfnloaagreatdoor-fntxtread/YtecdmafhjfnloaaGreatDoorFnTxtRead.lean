/- For every code (any bytes), law FnTxtRead returns true and its argument reads as before (no condition; the tables and errors read as the program's text lays them, which the card ties). -/
import Derived.Test.YtecdmafhjfnloaaGreatDoorCards
import Derived.Test.YtecdmafhjfnloaaGreatDoorTie
import Derived.Test.YtecdmafhjfnloaaGreatDoorLaid3
import Derived.Test.YtecdmafhjfnloaaGreatDoorTxtCntM
import Derived.Test.YtecdmafhjfnloaaGreatDoorTr3
import Derived.Test.YtecdmafhjfnloaaGreatDoorDrawTxtM
import Derived.WalkKit
import Derived.ProofKit
import Derived.OpenShut
import Derived.ShutString
import Derived.SliceStrings
import Derived.ChangeOld
import Derived.Below
import Derived.SevenTiedAt
namespace Go.Proofs.YtecdmafhjfnloaaGreatDoor.fnTxtRead
open Go.ChangeShapes Go.WideShapes Go.ChangeAt Go.RowKit
set_option linter.unusedVariables false

def IsRow (k : IntKind) (w : World) (a : Option Addr) (len cap : Nat) (zs : List Int) : Prop :=
  (a = none ∧ len = 0 ∧ cap = 0 ∧ zs = []) ∨
  ∃ x, a = some x ∧ len ≤ cap ∧ cap ≤ maxLen ∧ zs.length = cap ∧ (∀ i, i < zs.length → w.cell? (x.add i) = some (.int k (zs.getD i 0))) ∧ ∀ n ∈ zs, (Lit.int k n).wf = true

set_option maxRecDepth 8000 in
set_option maxHeartbeats 4000000 in
theorem walk (a0 : Option Addr) (len0 cap0 : Nat) (z0 : List Int) (w : World) (ht : Tabs3 w) (w0 : IsRow .u8 w a0 len0 cap0 z0) :
    Calls Tryz.prog 4 #[.slice a0 len0 cap0] w fun e w' => e = .returned (.bool true) ∧ Below w.heap.size w w' := by
  have HT := Lib.hid ht
  clear ht
  have hc : Code1 w.heap.size w a0 len0 cap0 := by
    rcases w0 with ⟨rfl, rfl, rfl, rfl⟩ | ⟨x, rfl, hl, hm, hz, hcell, hwz⟩
    · exact ⟨Nat.le_refl _, Nat.le_refl _, Nat.zero_le _, .inl rfl, fun _ => rfl⟩
    · exact ⟨Nat.le_refl _, hl, hm, bytes_of_row hl hz hcell hwz, fun h => by cases h⟩
  clear w0 z0
  go_enter Tryz.func4, Tryz.ntmps4
  by_cases hl : len0 ≤ 1048576
  · have hl' : ¬ (1048576 : Int) < (len0 : Int) := by omega
    go_wp2_with fail
    refine (DrawTxtRead w.heap.size a0 len0 cap0 w hc).mono ?_
    rintro e u1 ⟨ys, aY, cY, rfl, hS, hy, hyx, f1⟩
    have F1 : Fr w u1 := f1
    have HS := Lib.hid hS
    have HX := Lib.hid hyx
    clear hS f1 hc hyx
    obtain ⟨ws, t, hws⟩ : ∃ ws t, tread ys = (ws, t) := ⟨_, _, rfl⟩
    have HSD := Lib.hid (tread_said hws)
    have hwl : ws.length ≤ 1048576 := by
      have h1 := tread_len ys
      rw [hws] at h1
      have h2 : ws.length ≤ ys.length := h1
      omega
    have C1 := impl_TxtRead ys aY cY u1 (HT.out.fr F1) HS.out.src (by omega) (fun x hx => by have := HX.out x hx; omega)
    rw [hws] at C1
    have C2 : ∀ u2, Fr u1 u2 → Calls Tryz.prog 15 #[.slice aY ys.length cY] u2 (RdP u2 (ws, t)) := fun u2 f2 => by rw [← hws]; exact spec_TxtRead ys aY cY u2 (HS.out.src.fr f2) (by omega) (fun x hx => by have := HX.out x hx; omega)
    replace C1 := Lib.hid C1
    replace C2 := Lib.hid C2
    clear hws
    go_wp2_with fail
    refine C1.out.mono ?_
    rintro e u2 ⟨aW, cW, rfl, VW, f2⟩
    go_wp2_with fail
    refine (C2.out _ f2).mono ?_
    rintro e u3 ⟨aV, cV, rfl, VV, f3⟩
    clear C1 C2
    go_wp2_with fail
    refine (laws_haInts_same _ _ _ ws.length (fun i => ws.getD i 0) _ _ _ _ (VW.fr f3) VV hwl).mono ?_
    rintro e u4 ⟨rfl, m4, hm4⟩
    have f4 : Fr u3 u4 := by rw [← hm4]; exact Below.drewN (Below.refl _ _) _
    clear hm4
    have f14 := (f2.trans f3).trans f4
    have HF4 := Lib.hid (F1.trans f14)
    have HS4 := Lib.hid (HS.out.fr f14)
    have HW4 := Lib.hid (VW.fr (f3.trans f4))
    clear HS VW VV f2 f3 f4 f14 F1
    by_cases ht : t = 0
    · subst ht
      obtain ⟨hcnt, hfine, hok⟩ := HSD.out.2 rfl
      have HFI := Lib.hid hfine
      have HOK := Lib.hid hok
      have HCN := Lib.hid hcnt
      clear HSD hfine hok hcnt
      go_wp2_with fail
      go_loopw [8, 9] (fun l i wr => ∃ (p m : Nat), p ≤ ys.length ∧ i = .int .i64 p ∧ l = .int .i64 ((ys.take p).countP isMark : Nat) ∧ u4.drewN m = wr) (fun _ i _ => ys.length - (intOf i).toNat)
      case atStart => exact ⟨0, 0, Nat.zero_le _, rfl, rfl, rfl⟩
      case round =>
        obtain ⟨p, m, hp, rfl, rfl, rfl⟩ := hrel
        by_cases hlt : p < ys.length
        · have hlt' : (p : Int) < (ys.length : Int) := by omega
          obtain ⟨g, rfl, _, hg, hcc, _⟩ := HS4.out.at0 (by omega)
          have d0 : u4.cell? ⟨g, p, none⟩ = some (.string (bs (ys.getD p []))) := hcc p hlt
          have hmem : ys.getD p [] ∈ ys := by rw [List.getD_eq_getElem?_getD, List.getElem?_eq_getElem hlt]; exact List.getElem_mem hlt
          have hxl := HX.out _ hmem
          have hct : (ys.take (p + 1)).countP isMark = (ys.take p).countP isMark + (if isMark (ys.getD p []) = true then 1 else 0) := by
            rw [List.take_add_one, List.countP_append, List.getD_eq_getElem?_getD, List.getElem?_eq_getElem hlt]
            simp [List.countP_cons]
          have hcb : (ys.take p).countP isMark ≤ 65 := by
            have h1 := List.countP_le_length (p := isMark) (l := ys.take p)
            rw [List.length_take] at h1
            omega
          obtain ⟨D, c, hx, hc⟩ := HFI.out _ hmem
          rw [hx] at d0 hxl hct hc
          rw [List.length_append, List.length_singleton] at hxl
          have HCT := Lib.hid hct
          generalize (ys.take p).countP isMark = q at hcb HCT ⊢
          clear hcc hmem hx hct
          have HG := get_snoc D c
          have hwr : IntKind.i64.wrap ((D.length : Int) + 1 - 1) = D.length := by rw [IntWalk.i64_in _ (by omega)]; omega
          rcases hc with ⟨rfl, hM⟩ | ⟨hne, hM⟩
          · have HM := Lib.hid hM
            clear hM
            go_wp2_with fail
            go_quiet (fail)
            go_wp2
            go_roundw
            case rel => exact ⟨p + 1, _, by omega, by go_num, by rw [HCT.out, if_pos HM.out]; go_num, rfl⟩
            case measure => simp [intOf]; omega
          · have HM := Lib.hid hM
            have hne' : ((c.toNat : Int) == 58) = false := by
              simp only [beq_eq_false_iff_ne]
              exact fun e => hne (by apply UInt8.toNat_inj.1; simp; omega)
            clear hM hne
            go_wp2_with fail
            go_quiet (fail)
            go_wp2
            go_roundw
            case rel => exact ⟨p + 1, _, by omega, by go_num, by rw [HCT.out, if_neg (by rw [HM.out]; simp)]; go_num, rfl⟩
            case measure => simp [intOf]; omega
        · have hge : ¬ (p : Int) < (ys.length : Int) := by omega
          obtain rfl : p = ys.length := by omega
          have hcn := HCN.out
          rw [List.take_length] 
          have hcb := List.countP_le_length (p := isMark) (l := ys)
          generalize ys.countP isMark = q at hcn hcb ⊢
          clear HCN
          have HW5 := Lib.hid (HW4.out.fr (Below.drewN (Below.refl _ _) m))
          have HF5 := Lib.hid (Fr.trans HF4.out (Below.drewN (Below.refl _ _) m))
          generalize u4.drewN m = u5 at *
          go_wp2_with fail
          go_loopw [10] (fun i wr => ∃ p : Nat, p ≤ ws.length ∧ i = .int .i64 p ∧ u5 = wr) (fun i _ => ws.length - (intOf i).toNat)
          case atStart => exact ⟨0, Nat.zero_le _, rfl, rfl⟩
          case round =>
            obtain ⟨p, hp, rfl, rfl⟩ := hrel
            by_cases hlt : p < ws.length
            · have hlt' : (p : Int) < (ws.length : Int) := by omega
              obtain ⟨g, rfl, _, hg, hcc, _⟩ := HW5.out.at0 (by omega)
              have d0 : u5.cell? ⟨g, p, none⟩ = some (.int .i64 (ws.getD p 0)) := hcc p hlt
              have HO : Hid (okB (ws.getD p 0) = true) := List.all_eq_true.1 HOK.out _ (by rw [List.getD_eq_getElem?_getD, List.getElem?_eq_getElem hlt]; exact List.getElem_mem hlt)
              generalize ws.getD p 0 = v at d0 HO
              clear hcc
              go_wp2_with fail
              refine (impl_WrdOk v _).mono ?_
              rintro e u6 ⟨rfl, rfl⟩
              rw [HO.out]
              go_wp2_with fail
              go_roundw
              case rel => exact ⟨p + 1, by omega, by go_num, by trivial⟩
              case measure => simp [intOf]; omega
            · have hge : ¬ (p : Int) < (ws.length : Int) := by omega
              have hq : ((ws.length : Int) == (ys.length : Int) - (q : Int)) = true := by simp; omega
              go_wp2_with (go_at_call 11; refine (laws_haOk _).mono ?_; rintro e u6 ⟨rfl, rfl⟩)
              go_ret
              exact ⟨rfl, HF5.out⟩
    · obtain ⟨hw0, t1, t2⟩ := HSD.out.1 ht
      subst hw0
      have ht' : (t == 0) = false := by simp [ht]
      have ht2 : (t != 0) = true := by simp [ht]
      clear HSD ht
      go_wp2_with (go_at_call 11; refine (laws_haOk _).mono ?_; rintro e u6 ⟨rfl, rfl⟩)
      go_ret
      exact ⟨rfl, HF4.out⟩
  · go_wp2
    go_ret
    exact ⟨rfl, Below.refl _ _⟩

set_option maxRecDepth 100000 in
theorem lifted (os : Os) (started : os.Started) (H : Type) (enc : TypeId × Value → H) :
    ReturnsInHanded {} Tryz.checked os 4 .any (fun w args => (Rows.fnTxtReadSpec.pre enc Tryz.prog Tryz.f4 [] false w args ∧ laidMetH Tryz.prog laidAll3 w) ∧ sizedMet enc Tryz.prog Tryz.f4 (OpenSpec.ofChange Rows.fnTxtReadSpec) false w args)
      (Rows.fnTxtReadSpec.post enc Tryz.prog Tryz.f4 false true false false) := by
  refine handed_and_shaped (C := Tryz.checked) (X := fun w _ => laidMetH Tryz.prog laidAll3 w) (fun _ _ _ hh h => h.of_heap hh) own started (by kernel_rfl) Tryz.func4
    (ChangeSpec.witness_shaped (enc := enc) (C := Tryz.checked) (os := os) (X := fun w _ => laidMetH Tryz.prog laidAll3 w) false (World.laidAll Tryz.prog os laidAll3) #[.slice none 0 0] 8 (World.laidAll_os _ _ _) (wit_shape os) (by kernel_rfl) (by kernel_rfl) (by kernel_rfl) (wit_met os _)) ?_
  intro W base args ds gs before hval0 hW _ _ hL hsh _
  have hval : ∀ (j : Nat) t v, Tryz.f4.params[j]? = some t → args[j]? = some v → Value.okWide Tryz.prog W .any base t v := hval0
  have hW' := hW
  obtain ⟨p, q, hA0, hV0, rfl, hfz, hnd⟩ := hW
  have hA : DataW.TrodAll enc Tryz.prog W 0 (fun _ => true) true Tryz.f4.params.toList args.toList ds p := hA0
  have hV : DataW.TrodVars enc Tryz.prog W (fun _ => true) Rows.fnTxtReadSpec.vars gs q := hV0
  rw [Tryz.params4] at hA hval
  obtain ⟨v0, vs0, d0, ds0, p0, q0, hargs, rfl, rfl, h0, r0⟩ := trodAll_cons hA
  obtain ⟨rfl, rfl, rfl⟩ := trodAll_nil r0
  obtain rfl : args = #[v0] := by cases args; simp_all
  have hV1 := hV
  obtain ⟨g0, g1, g2, g3, g4, g5, g6, g7, g8, g9, rfl⟩ := list10 (trodVars_len hV1)
  obtain ⟨a0, len0, cap0, rfl⟩ := okWide_slice Tryz.underlying22 (hval 0 22 v0 rfl rfl)
  have k0 := h0
  have lt0 : ∀ x ∈ p0, x.block < W.heap.size := by obtain ⟨m, hm⟩ := k0; exact DataW.trod_lt m _ _ _ hm
  obtain ⟨z0, w0⟩ : ∃ zs, IsRow .u8 W a0 len0 cap0 zs := by
    obtain ⟨fuel, hf⟩ := h0
    rcases open_ints Tryz.underlying22 Tryz.underlying5 (by kernel_rfl) hf with ⟨hcs, _⟩ | ⟨x, l, c, zs, hcs, _, hl, hm, hz, _, hcell, hwz⟩
    · simp [Value.cells] at hcs
      obtain ⟨rfl, rfl, rfl⟩ := hcs
      exact ⟨[], .inl ⟨rfl, rfl, rfl, rfl⟩⟩
    · simp [Value.cells] at hcs
      obtain ⟨rfl, rfl, rfl⟩ := hcs
      exact ⟨zs, .inr ⟨_, rfl, hl, hm, by simpa using hz, hcell, hwz⟩⟩
  clear hA0 hval0 hV1
  refine (walk a0 len0 cap0 z0 W (tabs3_of_laid hL hsh) w0).mono fun e W' ⟨he, bel⟩ => ?_
  subst he
  exact ⟨_, rfl, _, _, _, [], _, _, hW', trodAll_mk1 (shut_bool Tryz.underlying4 _), (trodAll_cons_mk (Below.trod laidOut (by kernel_rfl) (of_decide_eq_true (by kernel_rfl)) k0 bel lt0) trodAll_mk0), bel.trodVars laidOut (by kernel_rfl) hV, bel.frame _, fun h => by cases h⟩

theorem over : Rows.fnTxtReadRow.holds Tryz.pinned (OpenSpec.ofChange Rows.fnTxtReadSpec) :=
  OpenClaim.holds_of_wide 4 Tryz.f4 rfl rfl rfl rfl rfl rfl rfl ⟨rfl, rfl, rfl, rfl, rfl⟩ rfl rfl rfl rfl rfl (by kernel_rfl) Tryz.func4 (by kernel_rfl)
    (of_decide_eq_true (by kernel_rfl)) (by unfold Func.isWrapper; first | (rw [if_pos (by decide +kernel)]; kernel_rfl) | (rw [if_neg (by decide +kernel)]; exact ⟨rfl, rfl⟩))
    (fun os started H enc _ => lifted os started H enc)

/-- THE STATEMENT: the tied card. -/
theorem proved : Rows.FnTxtReadCardSaid :=
  Claim7.holds_tied_plain_at .later [] [.data, .data, .data, .data, .sentinel, .sentinel, .wider, .data, .data, .sentinel, .sentinel, .sentinel, .sentinel, .sentinel, .sentinel, .sentinel, .pinned] true (true, "b6d9eca05f39d815bf8bca09b51b97f7150abd1fdf4904d954476c74461fad5b") true
    over (fun _ h => by cases h) (by kernel_rfl) (fun _ h => by cases h) fnTxtRead_row_tie rfl ⟨rfl, rfl⟩ (by kernel_rfl) rfl
    (fun f fn hf hfn => by
      obtain rfl : f = 4 := Option.some.inj ((show Tryz.prog.funcNamed "loop.example/harbinger/laws.FnTxtRead" = some 4 by kernel_rfl).symm.trans hf) |>.symm
      obtain rfl : fn = Tryz.f4 := (Option.some.inj (Tryz.func4.symm.trans hfn)).symm
      exact ⟨by kernel_rfl, fun j t ht => by
        rw [Tryz.params4] at ht
        have hm : t ∈ [22] := by simpa using Array.mem_of_getElem? ht
        have hall : ([22].all fun u => !Tryz.prog.wantsStandIn u) = true := by kernel_rfl
        exact (show Tryz.prog.wantsStandIn t = false by simpa using List.all_eq_true.1 hall t hm)⟩)
    (by kernel_rfl)
#print axioms proved
end Go.Proofs.YtecdmafhjfnloaaGreatDoor.fnTxtRead
