/- For every code (any bytes), law FnDoZero returns true and its argument reads as before (no condition; the two tables read as the program's text lays them, which the card ties). -/
import Derived.Test.YtbjapncfgancoaaDoorCards
import Derived.Test.YtbjapncfgancoaaDoorTie
import Derived.Test.YtbjapncfgancoaaDoorLaid
import Derived.Test.YtbjapncfgancoaaDoorSx2
import Derived.WalkKit
import Derived.ProofKit
import Derived.OpenShut
import Derived.ShutString
import Derived.SliceStrings
import Derived.ChangeOld
import Derived.Below
import Derived.SevenTiedAt
namespace Go.Proofs.YtbjapncfgancoaaDoor.fnDoZero
open Go.ChangeShapes Go.WideShapes Go.ChangeAt Go.RowKit
set_option linter.unusedVariables false

def IsRow (k : IntKind) (w : World) (a : Option Addr) (len cap : Nat) (zs : List Int) : Prop :=
  (a = none ∧ len = 0 ∧ cap = 0 ∧ zs = []) ∨
  ∃ x, a = some x ∧ len ≤ cap ∧ cap ≤ maxLen ∧ zs.length = cap ∧ (∀ i, i < zs.length → w.cell? (x.add i) = some (.int k (zs.getD i 0))) ∧ ∀ n ∈ zs, (Lit.int k n).wf = true

set_option maxRecDepth 100000 in
set_option maxHeartbeats 8000000 in
theorem walk (a0 : Option Addr) (len0 cap0 : Nat) (z0 : List Int) (w : World) (ht : Tabs w) (w0 : IsRow .u8 w a0 len0 cap0 z0) :
    Calls Tryd.prog 16 #[.slice a0 len0 cap0] w fun e w' => e = .returned (.bool true) ∧ Below w.heap.size w w' := by
  have hc : Code1 w.heap.size w a0 len0 cap0 := by
    rcases w0 with ⟨rfl, rfl, rfl, rfl⟩ | ⟨x, rfl, hl, hm, hz, hcell, hwz⟩
    · exact ⟨Nat.le_refl _, Nat.le_refl _, Nat.zero_le _, .inl rfl, fun _ => rfl⟩
    · exact ⟨Nat.le_refl _, hl, hm, bytes_of_row hl hz hcell hwz, by simp⟩
  clear w0
  by_cases hlen : (1048576 : Int) < (len0 : Int)
  · go_enter Tryd.func16, Tryd.ntmps16
    go_wp2
    go_ret
    exact ⟨rfl, Below.refl _ _⟩
  have HT := Lib.hid ht
  have hl : len0 ≤ 1048576 := by omega
  clear ht
  go_enter Tryd.func16, Tryd.ntmps16
  go_wp2_with fail
  refine (laws_haWords w.heap.size a0 len0 cap0 w hc hl).mono ?_
  rintro e w' ⟨a, b, ha, hb, rfl, rfl⟩
  obtain ⟨a0', a1'⟩ := okB_true ha
  obtain ⟨b0', b1'⟩ := okB_true hb
  clear hc hl
  obtain ⟨f8, hf8⟩ : ∃ x, a % 8 = x := ⟨_, rfl⟩
  have h80 : 0 ≤ f8 := by omega
  have h81 : f8 < 8 := by omega
  obtain ⟨f5, hf5⟩ : ∃ x, a % 5 = x := ⟨_, rfl⟩
  have h50 : 0 ≤ f5 := by omega
  have h51 : f5 < 5 := by omega
  go_wp2_with fail
  clear hf8 hf5
  obtain ⟨L0, hL0⟩ : ∃ x, w.heap.size = x := ⟨_, rfl⟩
  have HL0 := Lib.hid hL0
  rw [hL0]
  clear hL0
  go_loopw [6, 7, 8, 9] (fun kv _ _ _ wr => ∃ k : Int, 0 ≤ k ∧ k ≤ 8 ∧ kv = .int .i64 k ∧ Fr w wr ∧ Cel wr L0 (insL f8 f5)) (fun kv _ _ _ _ => 8 - (intOf kv).toNat)
  case atStart => exact ⟨0, by omega, by omega, rfl, Fr.alloc _ _, Cel.new w (insL f8 f5) _ L0 HL0.out⟩
  case round =>
    obtain ⟨k, k0, k8, rfl, hFr, hC⟩ := hrel
    by_cases hk : k < 8
    · obtain ⟨i0, i1, i2, i3, i4, i5, hi1, hcel, hstp⟩ := ins_at f8 f5 h80 h81 h50 h51 k.toNat (by omega)
      obtain ⟨wd, hwd⟩ : ∃ x, worD i0 i1 i2 i3 i4 i5 = x := ⟨_, rfl⟩
      obtain ⟨p, hp, hst1⟩ := hstp wd a b ha hb hwd
      have hk0 : OkS (hS 40 wd a b) := hS_ok (by omega) (by omega) (worD_ok hi1 hwd) ha hb
      have hk1 := step_okS hk0 hst1
      have HI1 := Lib.hid hi1
      have HWD := Lib.hid hwd
      have HST1 := Lib.hid hst1
      have HK0 := Lib.hid hk0
      have HK1 := Lib.hid hk1
      obtain ⟨y0, y1, y2, y3, y4, y5⟩ := hcel wr L0 hC
      have HC := Lib.hid hC
      clear hi1 hwd hst1 hk0 hk1 hcel hstp hp hC
      have HF : Hid (Fr w wr) := Lib.hid hFr
      clear hFr
      have ix0 : 0 ≤ k := k0
      have ix1 : k < 8 := hk
      have B_l := HC
      clear HC
      go_wp2_with fail
      have m2 := B_l.out.lt
      have m3 := HF.out.size
      refine (run_to (s2 := ⟨p, hR a b, zeros 5, hM 40 wd⟩) (e2 := ⟨40, wd, 0, 0, 0, -1, 0⟩) HI1.out (by omega) (by omega) ha hb HWD.out HST1.out wr (HT.out.fr HF.out)).mono ?_
      rintro e u1 ⟨g1, g2, g3, gr, gc, gm, x1, x2, x3, xr, xc, xm, X0, he, ho, hx, ⟨hl1, hl2, hl3, hl4, hl5, hl6, hl7, hl8, hl9⟩, f⟩
      replace B_l := Lib.hid (B_l.out.fr f)
      replace HF := Lib.hid (Fr.trans HF.out f)
      have O_g := Lib.hid (show Own u1 g1 g2 g3 ⟨40, hR a b, zeros 5, hM 40 wd⟩ from ho)
      have O_x := Lib.hid (show Own u1 x1 x2 x3 ⟨p, hR a b, zeros 5, hM 40 wd⟩ from hx)
      have he2 : e = .returned (.tuple #[.agg #[.int .i64 40, .slice (some ⟨g1, 0, none⟩) 8 gr, .slice (some ⟨g2, 0, none⟩) 5 gc, .slice (some ⟨g3, 0, none⟩) 256 gm], .agg #[.int .i64 p, .slice (some ⟨x1, 0, none⟩) 8 xr, .slice (some ⟨x2, 0, none⟩) 5 xc, .slice (some ⟨x3, 0, none⟩) 256 xm], .agg #[.int .i64 40, .int .i64 wd, .int .i64 0, .int .i64 0, .int .i64 0, .int .i64 (-1), .int .i64 0]]) := he
      subst he2
      clear he ho hx f
      have m4a := O_g.out.R.lt
      have m4b := O_g.out.C.lt
      have m4c := O_g.out.M.lt
      have m5a := O_x.out.R.lt
      have m5b := O_x.out.C.lt
      have m5c := O_x.out.M.lt
      go_upto_region 9 with fail
      refine wp_gen (fun v9 => Cel v9 L0 (insL f8 f5) ∧ Cel v9 u1.heap.size [.int .i64 40, .slice (some ⟨g1, 0, none⟩) 8 gr, .slice (some ⟨g2, 0, none⟩) 5 gc, .slice (some ⟨g3, 0, none⟩) 256 gm] ∧ Cel v9 (u1.heap.size + 1) [.int .i64 p, .slice (some ⟨x1, 0, none⟩) 8 xr, .slice (some ⟨x2, 0, none⟩) 5 xc, .slice (some ⟨x3, 0, none⟩) 256 xm] ∧ Cel v9 (u1.heap.size + 1 + 1) [.int .i64 40, .int .i64 wd, .int .i64 0, .int .i64 0, .int .i64 0, .int .i64 (-1), .int .i64 0] ∧ Own v9 g1 g2 g3 ⟨40, hR a b, zeros 5, hM 40 wd⟩ ∧ Own v9 x1 x2 x3 ⟨p, hR a b, zeros 5, hM 40 wd⟩ ∧ Fr w v9) ⟨?_, ?_, ?_, ?_, ?_, ?_, ?_⟩ ?_
      · have q9 := B_l.out
        (repeat (first | (with_reducible assumption) | (with_reducible exact Cel.new _ _ _ _ (by first | rfl | omega | (simp; done) | (simp; omega))) | (with_reducible refine Cel.alloc ?_ _) | (with_reducible refine Cel.drew ?_) | (with_reducible refine Cel.drewN ?_ _) | (with_reducible refine Cel.other ?_ _ _ _ (by omega))))
      · (repeat (first | (with_reducible assumption) | (with_reducible exact Cel.new _ _ _ _ (by first | rfl | omega | (simp; done) | (simp; omega))) | (with_reducible refine Cel.alloc ?_ _) | (with_reducible refine Cel.drew ?_) | (with_reducible refine Cel.drewN ?_ _) | (with_reducible refine Cel.other ?_ _ _ _ (by omega))))
      · (repeat (first | (with_reducible assumption) | (with_reducible exact Cel.new _ _ _ _ (by first | rfl | omega | (simp; done) | (simp; omega))) | (with_reducible refine Cel.alloc ?_ _) | (with_reducible refine Cel.drew ?_) | (with_reducible refine Cel.drewN ?_ _) | (with_reducible refine Cel.other ?_ _ _ _ (by omega))))
      · (repeat (first | (with_reducible assumption) | (with_reducible exact Cel.new _ _ _ _ (by first | rfl | omega | (simp; done) | (simp; omega))) | (with_reducible refine Cel.alloc ?_ _) | (with_reducible refine Cel.drew ?_) | (with_reducible refine Cel.drewN ?_ _) | (with_reducible refine Cel.other ?_ _ _ _ (by omega))))
      · have q9 := O_g.out
        (repeat (first | (with_reducible assumption) | (with_reducible refine Own.alloc ?_ _) | (with_reducible refine Own.drew ?_) | (with_reducible refine Own.drewN ?_ _) | (with_reducible refine Own.other ?_ _ _ _ (by omega) (by omega) (by omega))))
      · have q9 := O_x.out
        (repeat (first | (with_reducible assumption) | (with_reducible refine Own.alloc ?_ _) | (with_reducible refine Own.drew ?_) | (with_reducible refine Own.drewN ?_ _) | (with_reducible refine Own.other ?_ _ _ _ (by omega) (by omega) (by omega))))
      · refine fr_but (L := []) HF.out ?_ (fun k hk => by first | (cases hk; done) | (simp at hk; omega))
        (repeat (first | (with_reducible exact But.refl _ _) | (with_reducible assumption) | (with_reducible refine But.alloc ?_ _) | (with_reducible refine But.drew ?_) | (with_reducible refine But.drewN ?_ _) | (with_reducible refine But.set ?_ _ _ _ (by first | (left; simp; done) | (right; simp; done) | (right; omega) | (right; simp; omega)))))
      rintro u6 ⟨z0, z1, z2, z3, z4, z5, z6⟩
      replace B_l := Lib.hid z0
      have B_sg := Lib.hid z1
      have B_sx := Lib.hid z2
      have B_ex := Lib.hid z3
      replace O_g := Lib.hid z4
      replace O_x := Lib.hid z5
      replace HF := Lib.hid z6
      clear z0 z1 z2 z3 z4 z5 z6
      generalize u1.heap.size = N_x at *
      have L_x : Hid (Lens ⟨p, hR a b, zeros 5, hM 40 wd⟩) := Lib.hid ⟨HK1.out.Rl, HK1.out.Cl, HK1.out.Ml⟩
      have c7 : u6.cell? ⟨N_x + 1, 1, none⟩ = some (.slice (some ⟨x1, 0, none⟩) 8 xr) := B_sx.out.cel 1 (by simp)
      have r8 : u6.cell? ⟨x1, 0, none⟩ = some (.int .i64 0) := (O_x.out.R.cel 0 (by rw [L_x.out.Rl]; omega)).trans (congrArg (fun x => some (Value.int .i64 x)) (show (hR a b).getD 0 0 = 0 from rfl))
      have c9 : u6.cell? ⟨N_x + 1 + 1, 3, none⟩ = some (.int .i64 0) := B_ex.out.cel 3 (by simp)
      have c10 : u6.cell? ⟨N_x + 1 + 1, 4, none⟩ = some (.int .i64 0) := B_ex.out.cel 4 (by simp)
      have c11 : u6.cell? ⟨N_x + 1 + 1, 2, none⟩ = some (.int .i64 0) := B_ex.out.cel 2 (by simp)
      have c12 : u6.cell? ⟨N_x + 1, 0, none⟩ = some (.int .i64 p) := B_sx.out.cel 0 (by simp)
      have c13 : u6.cell? ⟨N_x + 1, 2, none⟩ = some (.slice (some ⟨x2, 0, none⟩) 5 xc) := B_sx.out.cel 2 (by simp)
      have c14 : u6.cell? ⟨N_x + 1, 3, none⟩ = some (.slice (some ⟨x3, 0, none⟩) 256 xm) := B_sx.out.cel 3 (by simp)
      go_wp2_with fail
      clear c7 r8 c9 c10 c11 c12 c13 c14
      refine (ok_to O_x.out HK1.out rfl).mono ?_
      rintro e u15 ⟨rfl, f⟩
      replace B_l := Lib.hid (B_l.out.fr f)
      replace B_sg := Lib.hid (B_sg.out.fr f)
      replace B_sx := Lib.hid (B_sx.out.fr f)
      replace B_ex := Lib.hid (B_ex.out.fr f)
      replace O_g := Lib.hid (O_g.out.fr f)
      replace O_x := Lib.hid (O_x.out.fr f)
      replace HF := Lib.hid (Fr.trans HF.out f)
      clear f
      go_wp2_with fail
      go_roundw
      case rel => exact ⟨k + 1, by omega, by omega, by go_num, HF.out, B_l.out⟩
      case measure => first | (simp [intOf]; done) | (simp [intOf]; omega)
    · go_wp2
      go_ret
      exact ⟨rfl, hFr⟩

set_option maxRecDepth 100000 in
theorem lifted (os : Os) (started : os.Started) (H : Type) (enc : TypeId × Value → H) :
    ReturnsInHanded {} Tryd.checked os 16 .any (fun w args => (Rows.fnDoZeroSpec.pre enc Tryd.prog Tryd.f16 [] false w args ∧ laidMetH Tryd.prog laidAll w) ∧ sizedMet enc Tryd.prog Tryd.f16 (OpenSpec.ofChange Rows.fnDoZeroSpec) false w args)
      (Rows.fnDoZeroSpec.post enc Tryd.prog Tryd.f16 false true false false) := by
  refine returnsInHanded_of_change_and (C := Tryd.checked) (X := fun w _ => laidMetH Tryd.prog laidAll w) (fun _ _ _ hh h => h.of_heap hh) own started (by kernel_rfl) Tryd.func16
    (ChangeSpec.witness_shaped (enc := enc) (C := Tryd.checked) (os := os) (X := fun w _ => laidMetH Tryd.prog laidAll w) false (World.doorLaid Tryd.prog 400 os) #[.slice none 0 0] 8 rfl (World.shaped_of_RefB (by kernel_rfl) (by kernel_rfl)) (by kernel_rfl) (by kernel_rfl) (by kernel_rfl) (door_met os _)) ?_
  intro W base args ds gs before hval0 hW _ _ hL _
  have hval : ∀ (j : Nat) t v, Tryd.f16.params[j]? = some t → args[j]? = some v → Value.okWide Tryd.prog W .any base t v := hval0
  have hW' := hW
  obtain ⟨p, q, hA0, hV0, rfl, hfz, hnd⟩ := hW
  have hA : DataW.TrodAll enc Tryd.prog W 0 (fun _ => true) true Tryd.f16.params.toList args.toList ds p := hA0
  have hV : DataW.TrodVars enc Tryd.prog W (fun _ => true) laidNames gs q := hV0
  rw [Tryd.params16] at hA hval
  obtain ⟨v0, vs0, d0, ds0, p0, q0, hargs, rfl, rfl, h0, r0⟩ := trodAll_cons hA
  obtain ⟨rfl, rfl, rfl⟩ := trodAll_nil r0
  obtain rfl : args = #[v0] := by cases args; simp_all
  have hV1 := hV
  obtain ⟨g0, t0, cs0, f0, e0, s0, g1, t1, cs1, f1, e1, s1, rfl, _⟩ := trodVars_two hV1
  obtain ⟨a0, len0, cap0, rfl⟩ := okWide_slice Tryd.underlying42 (hval 0 42 v0 rfl rfl)
  have k0 := h0
  have lt0 : ∀ x ∈ p0, x.block < W.heap.size := by obtain ⟨m, hm⟩ := k0; exact DataW.trod_lt m _ _ _ hm
  obtain ⟨z0, w0⟩ : ∃ zs, IsRow .u8 W a0 len0 cap0 zs := by
    obtain ⟨fuel, hf⟩ := h0
    rcases open_ints Tryd.underlying42 Tryd.underlying5 (by kernel_rfl) hf with ⟨hcs, _⟩ | ⟨x, l, c, zs, hcs, _, hl, hm, hz, _, hcell, hwz⟩
    · simp [Value.cells] at hcs
      obtain ⟨rfl, rfl, rfl⟩ := hcs
      exact ⟨[], .inl ⟨rfl, rfl, rfl, rfl⟩⟩
    · simp [Value.cells] at hcs
      obtain ⟨rfl, rfl, rfl⟩ := hcs
      exact ⟨zs, .inr ⟨_, rfl, hl, hm, by simpa using hz, hcell, hwz⟩⟩
  clear hA0 hval0 hV1
  refine (walk a0 len0 cap0 z0 W (tabs_of_laid hL) w0).mono fun e W' ⟨he, bel⟩ => ?_
  subst he
  exact ⟨_, rfl, _, _, _, [], _, _, hW', trodAll_mk1 (shut_bool Tryd.underlying4 _), (trodAll_cons_mk (Below.trod laidOut (by kernel_rfl) (of_decide_eq_true (by kernel_rfl)) k0 bel lt0) trodAll_mk0), bel.trodVars laidOut (by kernel_rfl) hV, bel.frame _, fun h => by cases h⟩

theorem over : Rows.fnDoZeroRow.holds Tryd.pinned (OpenSpec.ofChange Rows.fnDoZeroSpec) :=
  OpenClaim.holds_of_wide 16 Tryd.f16 rfl rfl rfl rfl rfl rfl rfl ⟨rfl, rfl, rfl, rfl, rfl⟩ rfl rfl rfl rfl rfl (by kernel_rfl) Tryd.func16 (by kernel_rfl)
    (of_decide_eq_true (by kernel_rfl)) (by unfold Func.isWrapper; first | (rw [if_pos (by decide +kernel)]; kernel_rfl) | (rw [if_neg (by decide +kernel)]; exact ⟨rfl, rfl⟩))
    (fun os started H enc _ => lifted os started H enc)

/-- THE STATEMENT: the tied card. -/
theorem proved : Rows.FnDoZeroCardSaid :=
  Claim7.holds_tied_plain_at .later [] [.wider, .data] true (true, "9dc2e115a97561e3249269897313e148c9c7960c406c87ea32a23191d0e08754") true
    over (fun _ h => by cases h) (by kernel_rfl) (fun _ h => by cases h) fnDoZero_row_tie rfl ⟨rfl, rfl⟩ (by kernel_rfl) rfl
    (fun f fn hf hfn => by
      obtain rfl : f = 16 := Option.some.inj ((show Tryd.prog.funcNamed "loop.example/harbinger/laws.FnDoZero" = some 16 by kernel_rfl).symm.trans hf) |>.symm
      obtain rfl : fn = Tryd.f16 := (Option.some.inj (Tryd.func16.symm.trans hfn)).symm
      exact ⟨by kernel_rfl, fun j t ht => by
        rw [Tryd.params16] at ht
        have hm : t ∈ [42] := by simpa using Array.mem_of_getElem? ht
        have hall : ([42].all fun u => !Tryd.prog.wantsStandIn u) = true := by kernel_rfl
        exact (show Tryd.prog.wantsStandIn t = false by simpa using List.all_eq_true.1 hall t hm)⟩)
    (by kernel_rfl)
#print axioms proved
end Go.Proofs.YtbjapncfgancoaaDoor.fnDoZero
