/- For every code (any bytes), law FnDoWait returns true and its argument reads as before (no condition; the two tables read as the program's text lays them, which the card ties). -/
import Derived.Test.YtbjapncfgancoaaDoorCards
import Derived.Test.YtbjapncfgancoaaDoorTie
import Derived.Test.YtbjapncfgancoaaDoorLaid
import Derived.Test.YtbjapncfgancoaaDoorPe2
import Derived.WalkKit
import Derived.ProofKit
import Derived.OpenShut
import Derived.ShutString
import Derived.SliceStrings
import Derived.ChangeOld
import Derived.Below
import Derived.SevenTiedAt
namespace Go.Proofs.YtbjapncfgancoaaDoor.fnDoWait
open Go.ChangeShapes Go.WideShapes Go.ChangeAt Go.RowKit
set_option linter.unusedVariables false

def IsRow (k : IntKind) (w : World) (a : Option Addr) (len cap : Nat) (zs : List Int) : Prop :=
  (a = none ∧ len = 0 ∧ cap = 0 ∧ zs = []) ∨
  ∃ x, a = some x ∧ len ≤ cap ∧ cap ≤ maxLen ∧ zs.length = cap ∧ (∀ i, i < zs.length → w.cell? (x.add i) = some (.int k (zs.getD i 0))) ∧ ∀ n ∈ zs, (Lit.int k n).wf = true

set_option maxRecDepth 100000 in
set_option maxHeartbeats 8000000 in
theorem walk (a0 : Option Addr) (len0 cap0 : Nat) (z0 : List Int) (w : World) (ht : Tabs w) (w0 : IsRow .u8 w a0 len0 cap0 z0) :
    Calls Tryd.prog 15 #[.slice a0 len0 cap0] w fun e w' => e = .returned (.bool true) ∧ Below w.heap.size w w' := by
  have hc : Code1 w.heap.size w a0 len0 cap0 := by
    rcases w0 with ⟨rfl, rfl, rfl, rfl⟩ | ⟨x, rfl, hl, hm, hz, hcell, hwz⟩
    · exact ⟨Nat.le_refl _, Nat.le_refl _, Nat.zero_le _, .inl rfl, fun _ => rfl⟩
    · exact ⟨Nat.le_refl _, hl, hm, bytes_of_row hl hz hcell hwz, by simp⟩
  clear w0
  by_cases hlen : (1048576 : Int) < (len0 : Int)
  · go_enter Tryd.func15, Tryd.ntmps15
    go_wp2
    go_ret
    exact ⟨rfl, Below.refl _ _⟩
  have HT := Lib.hid ht
  have hl : len0 ≤ 1048576 := by omega
  clear ht
  go_enter Tryd.func15, Tryd.ntmps15
  go_wp2_with fail
  refine (laws_haWords w.heap.size a0 len0 cap0 w hc hl).mono ?_
  rintro e w' ⟨a, b, ha, hb, rfl, rfl⟩
  obtain ⟨a0', a1'⟩ := okB_true ha
  obtain ⟨b0', b1'⟩ := okB_true hb
  clear hc hl
  have hi : iok 11 0 0 0 0 0 = true := iok_zero (by omega)
  obtain ⟨pc, hpc⟩ : ∃ x, 30 + a % 100 = x := ⟨_, rfl⟩
  have hp0 : 0 ≤ pc := by omega
  have hp1 : pc < 256 := by omega
  have hp2 : pc < 255 := by omega
  have hst := hS_step a b hi hp0 hp1
  rw [eff_11] at hst
  have hnx : nx (hS pc (worD 11 0 0 0 0 0) a b) = pc + 1 := by
    unfold nx
    rw [show (hS pc (worD 11 0 0 0 0 0) a b).pc = pc from rfl]
    omega
  have HST := Lib.hid hst
  have HNX := Lib.hid hnx
  have HI := Lib.hid hi
  clear hst hnx hi
  go_wp2_with fail
  clear hpc
  refine (laws_haRun 11 0 0 0 0 0 pc a b HI.out hp0 hp1 ha hb w HT.out).mono ?_
  rintro e u2 hq
  unfold RunQ at hq
  rw [HST.out] at hq
  simp only [goto, Out.fin, hE] at hq
  rw [HNX.out] at hq
  obtain ⟨g1, g2, g3, gr, gc, gm, x1, x2, x3, xr, xc, xm, X0, he, ho, hx, hb9, f2⟩ := hq
  have HK := Lib.hid (hS_ok (pc := pc) (wd := worD 11 0 0 0 0 0) hp0 hp1 (okB_mk (worD_bd HI.out).1 (worD_bd HI.out).2) ha hb)
  subst he
  obtain ⟨wd, hwd⟩ : ∃ x, worD 11 0 0 0 0 0 = x := ⟨_, rfl⟩
  rw [hwd] at ho hx HK ⊢
  clear hwd HST HNX HI
  have hx' : Own u2 x1 x2 x3 (hS (pc + 1) wd a b) ∨ True := .inr trivial
  obtain ⟨M0, hM0⟩ : ∃ x, hM pc wd = x := ⟨_, rfl⟩
  have HOG := Lib.hid (show Own u2 g1 g2 g3 ⟨pc + 1, hR a b, zeros 5, hM pc wd⟩ from ho.pc (pc + 1))
  have HOX := Lib.hid (show Own u2 x1 x2 x3 ⟨pc + 1, hR a b, zeros 5, hM pc wd⟩ from hx)
  have HL1 := Lib.hid (show (hR a b).length = 8 from HK.out.Rl)
  have HL2 := Lib.hid (show (zeros 5).length = 5 from HK.out.Cl)
  have HL3 := Lib.hid (show (hM pc wd).length = 256 from HK.out.Ml)
  have HF := Lib.hid f2
  clear ho hx f2 hx' hM0 hb9
  go_wp2_with fail
  have FW : Fr u2 (((u2.alloc (.cells #[.int .i64 (pc + 1), .slice (some ⟨g1, 0, none⟩) 8 gr, .slice (some ⟨g2, 0, none⟩) 5 gc, .slice (some ⟨g3, 0, none⟩) 256 gm] 26)).alloc (.cells #[.int .i64 (pc + 1), .slice (some ⟨x1, 0, none⟩) 8 xr, .slice (some ⟨x2, 0, none⟩) 5 xc, .slice (some ⟨x3, 0, none⟩) 256 xm] 26)).alloc (.cells #[.int .i64 pc, .int .i64 wd, .int .i64 0, .int .i64 0, .int .i64 0, .int .i64 (-1), .int .i64 0] 28)) := by
    (repeat' first | (with_reducible exact Below.refl _ _) | (with_reducible assumption) | ((with_reducible refine Below.setCell ?_ ?hb _); (case hb => first | exact Nat.le_refl _ | (simp; done) | (simp; omega) | omega)) | ((with_reducible refine Below.alloc ?_ ?hb _); (case hb => first | exact Nat.le_refl _ | (simp; done) | (simp; omega) | omega)) | (with_reducible refine Below.drew ?_))
  have HF2 := Lib.hid (Fr.trans HF.out FW)
  have HOG2 := Lib.hid (HOG.out.fr FW)
  have HOX2 := Lib.hid (HOX.out.fr FW)
  have HB5 := Lib.hid (((Box4.new u2 (.int .i64 (pc + 1)) (.slice (some ⟨g1, 0, none⟩) 8 gr) (.slice (some ⟨g2, 0, none⟩) 5 gc) (.slice (some ⟨g3, 0, none⟩) 256 gm) 26 _ rfl).alloc (.cells #[.int .i64 (pc + 1), .slice (some ⟨x1, 0, none⟩) 8 xr, .slice (some ⟨x2, 0, none⟩) 5 xc, .slice (some ⟨x3, 0, none⟩) 256 xm] 26)).alloc (.cells #[.int .i64 pc, .int .i64 wd, .int .i64 0, .int .i64 0, .int .i64 0, .int .i64 (-1), .int .i64 0] 28))
  have HB7 := Lib.hid (Box7.new ((u2.alloc (.cells #[.int .i64 (pc + 1), .slice (some ⟨g1, 0, none⟩) 8 gr, .slice (some ⟨g2, 0, none⟩) 5 gc, .slice (some ⟨g3, 0, none⟩) 256 gm] 26)).alloc (.cells #[.int .i64 (pc + 1), .slice (some ⟨x1, 0, none⟩) 8 xr, .slice (some ⟨x2, 0, none⟩) 5 xc, .slice (some ⟨x3, 0, none⟩) 256 xm] 26)) ⟨pc, wd, 0, 0, 0, -1, 0⟩ 28 (u2.heap.size + 1 + 1) (by simp))
  generalize (((u2.alloc (.cells #[.int .i64 (pc + 1), .slice (some ⟨g1, 0, none⟩) 8 gr, .slice (some ⟨g2, 0, none⟩) 5 gc, .slice (some ⟨g3, 0, none⟩) 256 gm] 26)).alloc (.cells #[.int .i64 (pc + 1), .slice (some ⟨x1, 0, none⟩) 8 xr, .slice (some ⟨x2, 0, none⟩) 5 xc, .slice (some ⟨x3, 0, none⟩) 256 xm] 26)).alloc (.cells #[.int .i64 pc, .int .i64 wd, .int .i64 0, .int .i64 0, .int .i64 0, .int .i64 (-1), .int .i64 0] 28)) = u3 at *
  clear FW HF HOG HOX
  refine (same_pln HOG2.out HOX2.out HL1.out HL2.out HL3.out).mono ?_
  rintro e u4 ⟨rfl, f4⟩
  have HF4 := Lib.hid (Fr.trans HF2.out f4)
  obtain ⟨_, c0, c1, c2, c3, _, _, _, _⟩ := HB5.out.fr f4
  obtain ⟨_, v0, v1, v2, v3, v4, v5, v6, _, _, _, _, _, _, _⟩ := HB7.out.fr f4
  clear f4 HB5 HB7 HF2 HOG2 HOX2
  have e1 : pc + 1 - 1 = pc := by omega
  have e2 : (pc == pc) = true := by simp
  go_wp2_with fail
  go_ret
  exact ⟨rfl, HF4.out⟩

set_option maxRecDepth 100000 in
theorem lifted (os : Os) (started : os.Started) (H : Type) (enc : TypeId × Value → H) :
    ReturnsInHanded {} Tryd.checked os 15 .any (fun w args => (Rows.fnDoWaitSpec.pre enc Tryd.prog Tryd.f15 [] false w args ∧ laidMetH Tryd.prog laidAll w) ∧ sizedMet enc Tryd.prog Tryd.f15 (OpenSpec.ofChange Rows.fnDoWaitSpec) false w args)
      (Rows.fnDoWaitSpec.post enc Tryd.prog Tryd.f15 false true false false) := by
  refine returnsInHanded_of_change_and (C := Tryd.checked) (X := fun w _ => laidMetH Tryd.prog laidAll w) (fun _ _ _ hh h => h.of_heap hh) own started (by kernel_rfl) Tryd.func15
    (ChangeSpec.witness_shaped (enc := enc) (C := Tryd.checked) (os := os) (X := fun w _ => laidMetH Tryd.prog laidAll w) false (World.doorLaid Tryd.prog 400 os) #[.slice none 0 0] 8 rfl (World.shaped_of_RefB (by kernel_rfl) (by kernel_rfl)) (by kernel_rfl) (by kernel_rfl) (by kernel_rfl) (door_met os _)) ?_
  intro W base args ds gs before hval0 hW _ _ hL _
  have hval : ∀ (j : Nat) t v, Tryd.f15.params[j]? = some t → args[j]? = some v → Value.okWide Tryd.prog W .any base t v := hval0
  have hW' := hW
  obtain ⟨p, q, hA0, hV0, rfl, hfz, hnd⟩ := hW
  have hA : DataW.TrodAll enc Tryd.prog W 0 (fun _ => true) true Tryd.f15.params.toList args.toList ds p := hA0
  have hV : DataW.TrodVars enc Tryd.prog W (fun _ => true) laidNames gs q := hV0
  rw [Tryd.params15] at hA hval
  obtain ⟨v0, vs0, d0, ds0, p0, q0, hargs, rfl, rfl, h0, r0⟩ := trodAll_cons hA
  obtain ⟨rfl, rfl, rfl⟩ := trodAll_nil r0
  obtain rfl : args = #[v0] := by cases args; simp_all
  have hV1 := hV
  obtain ⟨g0, t0, cs0, f0, e0, s0, g1, t1, cs1, f1, e1, s1, rfl, _⟩ := trodVars_two hV1
  obtain ⟨a0, len0, cap0, rfl⟩ := okWide_slice Tryd.underlying42 (hval 0 42 v0 rfl rfl)
  have k0 := h0
  have lt0 : ∀ x ∈ p0, x.block < W.heap.size := by obtain ⟨m, hm⟩ := k0; exact DataW.trod_lt m _ _ _ hm
  obtain ⟨z0, w0⟩ : ∃ zs, IsRow .u8 W a0 len0 cap0 zs := by
    obtain ⟨fuel, hf⟩ := h0
    rcases open_ints Tryd.underlying42 Tryd.underlying5 (by kernel_rfl) hf with ⟨hcs, _⟩ | ⟨x, l, c, zs, hcs, _, hl, hm, hz, _, hcell, hwz⟩
    · simp [Value.cells] at hcs
      obtain ⟨rfl, rfl, rfl⟩ := hcs
      exact ⟨[], .inl ⟨rfl, rfl, rfl, rfl⟩⟩
    · simp [Value.cells] at hcs
      obtain ⟨rfl, rfl, rfl⟩ := hcs
      exact ⟨zs, .inr ⟨_, rfl, hl, hm, by simpa using hz, hcell, hwz⟩⟩
  clear hA0 hval0 hV1
  refine (walk a0 len0 cap0 z0 W (tabs_of_laid hL) w0).mono fun e W' ⟨he, bel⟩ => ?_
  subst he
  exact ⟨_, rfl, _, _, _, [], _, _, hW', trodAll_mk1 (shut_bool Tryd.underlying4 _), (trodAll_cons_mk (Below.trod laidOut (by kernel_rfl) (of_decide_eq_true (by kernel_rfl)) k0 bel lt0) trodAll_mk0), bel.trodVars laidOut (by kernel_rfl) hV, bel.frame _, fun h => by cases h⟩

theorem over : Rows.fnDoWaitRow.holds Tryd.pinned (OpenSpec.ofChange Rows.fnDoWaitSpec) :=
  OpenClaim.holds_of_wide 15 Tryd.f15 rfl rfl rfl rfl rfl rfl rfl ⟨rfl, rfl, rfl, rfl, rfl⟩ rfl rfl rfl rfl rfl (by kernel_rfl) Tryd.func15 (by kernel_rfl)
    (of_decide_eq_true (by kernel_rfl)) (by unfold Func.isWrapper; first | (rw [if_pos (by decide +kernel)]; kernel_rfl) | (rw [if_neg (by decide +kernel)]; exact ⟨rfl, rfl⟩))
    (fun os started H enc _ => lifted os started H enc)

/-- THE STATEMENT: the tied card. -/
theorem proved : Rows.FnDoWaitCardSaid :=
  Claim7.holds_tied_plain_at .later [] [.wider, .data] true (true, "9dc2e115a97561e3249269897313e148c9c7960c406c87ea32a23191d0e08754") true
    over (fun _ h => by cases h) (by kernel_rfl) (fun _ h => by cases h) fnDoWait_row_tie rfl ⟨rfl, rfl⟩ (by kernel_rfl) rfl
    (fun f fn hf hfn => by
      obtain rfl : f = 15 := Option.some.inj ((show Tryd.prog.funcNamed "loop.example/harbinger/laws.FnDoWait" = some 15 by kernel_rfl).symm.trans hf) |>.symm
      obtain rfl : fn = Tryd.f15 := (Option.some.inj (Tryd.func15.symm.trans hfn)).symm
      exact ⟨by kernel_rfl, fun j t ht => by
        rw [Tryd.params15] at ht
        have hm : t ∈ [42] := by simpa using Array.mem_of_getElem? ht
        have hall : ([42].all fun u => !Tryd.prog.wantsStandIn u) = true := by kernel_rfl
        exact (show Tryd.prog.wantsStandIn t = false by simpa using List.all_eq_true.1 hall t hm)⟩)
    (by kernel_rfl)
#print axioms proved
end Go.Proofs.YtbjapncfgancoaaDoor.fnDoWait
