/- For every code (any bytes), law FnChcWrite returns true and its argument reads as before (no condition). -/
import Derived.Test.YtoacgjjpipdkjaaRows
import Derived.Test.YtoacgjjpipdkjaaK36
import Derived.Test.YtoacgjjpipdkjaaK40
import Derived.Test.YtoacgjjpipdkjaaK44
import Derived.WalkKit
import Derived.ProofKit
import Derived.OpenShut
import Derived.ShutString
import Derived.ChangeOld
import Derived.Below
namespace Go.Proofs.Ytoacgjjpipdkjaa.fnChcWrite
open Go.ChangeShapes Go.WideShapes Go.ChangeAt Go.RowKit
set_option linter.unusedVariables false
set_option linter.unusedSimpArgs false

theorem own : ownKnob Try.prog.godebug = none := by kernel_rfl
theorem laidOut : laidOutB Try.prog = true := by kernel_rfl

def IsRow (k : IntKind) (w : World) (a : Option Addr) (len cap : Nat) (zs : List Int) : Prop :=
  (a = none ∧ len = 0 ∧ cap = 0 ∧ zs = []) ∨
  ∃ x, a = some x ∧ len ≤ cap ∧ cap ≤ maxLen ∧ zs.length = cap ∧ (∀ i, i < zs.length → w.cell? (x.add i) = some (.int k (zs.getD i 0))) ∧ ∀ n ∈ zs, (Lit.int k n).wf = true

set_option maxRecDepth 8000 in
set_option maxHeartbeats 8000000 in
theorem walk (a0 : Option Addr) (len0 cap0 : Nat) (z0 : List Int) (w : World) (w0 : IsRow .u8 w a0 len0 cap0 z0) :
    Calls Try.prog 14 #[.slice a0 len0 cap0] w fun e w' => e = .returned (.bool true) ∧ Below w.heap.size w w' := by
  have hc0 : Code1 w.heap.size w a0 len0 cap0 := by
    rcases w0 with ⟨rfl, rfl, rfl, rfl⟩ | ⟨x, rfl, hl, hm, hz, hcell, hwz⟩
    · exact ⟨Nat.le_refl _, Nat.le_refl _, Nat.zero_le _, .inl rfl, fun _ => rfl⟩
    · exact ⟨Nat.le_refl _, hl, hm, bytes_of_row hl hz hcell hwz, fun h => by cases h⟩
  clear w0 z0
  go_enter Try.func14, Try.ntmps14
  by_cases hl : len0 ≤ 1048576
  · have hl' : ¬ (1048576 : Int) < (len0 : Int) := by omega
    go_wp2_with fail
    refine (DrawChcWrite a0 len0 cap0 w hc0).mono ?_
    rintro e u1 ⟨M, X, aM, aL, cM, cL, at1, n1, hf, hcM, ⟨b0, b1⟩, rfl, hS, f1⟩
    have FA := Fr.alloc u1 (.cells #[.slice aM M.length cM, .slice aL X.length cL] 30)
    have HS := Lib.hid (hS.fr FA)
    have HF := Lib.hid (Fr.trans f1 FA)
    have HX := Lib.hid (Box2.new u1 (.slice aM M.length cM) (.slice aL X.length cL) 30 _ rfl)
    have FC := Lib.hid hf
    clear hS f1 FA hc0 hf
    dsimp only [caV]
    go_wp2_with fail
    generalize (u1.alloc (.cells #[.slice aM M.length cM, .slice aL X.length cL] 30)) = u2 at *
    generalize u1.heap.size = Z at *
    refine (impl_ChcWrite M X aM aL cM cL at1 n1 u2 HS.out FC.out hcM).mono ?_
    rintro e u3 ⟨M3, X3, a3, d3, c3, k3, rfl, h3, V3, rm3, f3⟩
    have FB := Fr.alloc u3 (.cells #[.slice a3 M3.length c3, .slice d3 X3.length k3] 30)
    have HS3 := Lib.hid (HS.out.fr (Fr.trans f3 FB))
    have HF3 := Lib.hid (Fr.trans HF.out (Fr.trans f3 FB))
    have HX3 := Lib.hid (HX.out.fr (Fr.trans f3 FB))
    have HY3 := Lib.hid (Box2.new u3 (.slice a3 M3.length c3) (.slice d3 X3.length k3) 30 _ rfl)
    have HV := Lib.hid (V3.apart (L := []) (But.of FB) (fun _ _ => by simp))
    have HQ := Lib.hid h3
    have FT := Lib.hid (okA_few (okA_write ⟨M, lns X⟩ at1 n1) h3).few
    have nzy : ¬ Z = u3.heap.size := by have := HX.out.lt; have := f3.size; omega
    have nzy2 : ¬ u3.heap.size = Z := fun e => nzy e.symm
    have hl3 := rm3.le
    have s23 : u2.heap.size ≤ u3.heap.size := f3.size
    have hs34 : u3.heap.size < (u3.alloc (.cells #[.slice a3 M3.length c3, .slice d3 X3.length k3] 30)).heap.size := by simp
    clear h3 V3 rm3 f3 FB HS HF HX
    dsimp only [caV]
    go_upto_region 5 with fail
    generalize (u3.alloc (.cells #[.slice a3 M3.length c3, .slice d3 X3.length k3] 30)) = u4 at *
    generalize u3.heap.size = Y at *
    obtain ⟨_, x0, x1, _, _⟩ := HX3.out
    obtain ⟨_, y0, y1, _, _⟩ := HY3.out
    have KT := Lib.hid (fun v (f : Fr u4 v) => spec_ChcWrite M X aM aL cM cL at1 n1 v (HS3.out.fr f) FC.out)
    go_region_held3 (fun v => v.cell? ⟨Z, 0, none⟩ = some (.slice aM M.length cM) ∧ v.cell? ⟨Z, 1, none⟩ = some (.slice aL X.length cL) ∧ v.cell? ⟨Y, 0, none⟩ = some (.slice a3 M3.length c3) ∧ v.cell? ⟨Y, 1, none⟩ = some (.slice d3 X3.length k3))
      (first | (go_keep; done))
      (first
        | (go_at_call 27; refine (KT.out _ (Below.drew (Below.refl _ _))).mono ?_; rintro e u5 ⟨M5, X5, a5, d5, c5, k5, rfl, h5, V5, rm5, f5⟩; obtain ⟨rfl, hx5⟩ : M3 = M5 ∧ lns X3 = lns X5 := ⟨congrArg Ch.M (HQ.out.symm.trans h5), congrArg Ch.L (HQ.out.symm.trans h5)⟩; have F5 := Lib.hid (show Fr u4 u5 from Fr.trans (Below.drew (Below.refl _ _)) f5); have HX5 := Lib.hid hx5; have HV5 := Lib.hid V5; have XT := Lib.hid (HX3.out.fr F5.out); have AT := Lib.hid (HY3.out.fr F5.out); obtain ⟨_, e0, e1, _, _⟩ := XT.out; obtain ⟨_, p0, p1, _, _⟩ := AT.out; clear hx5 h5 V5 rm5 f5; unfold caV)
        | (go_at_call 52; refine (laws_haChc_same M3 X3 X5 a3 d3 a5 d5 c3 k3 c5 k5 u5 (HV.out.src.fr F5.out) HV5.out.src HX5.out FT.out).mono ?_; rintro e u6 ⟨rfl, f6⟩; have F6 := Lib.hid f6; have XT2 := Lib.hid (HX3.out.fr (Fr.trans F5.out f6)); have AT2 := Lib.hid (HY3.out.fr (Fr.trans F5.out f6)); obtain ⟨_, i0, i1, _, _⟩ := XT2.out; obtain ⟨_, j0, j1, _, _⟩ := AT2.out; clear f6))
    clear KT XT AT XT2 AT2 e0 e1 p0 p1 i0 i1 j0 j1
    have FW := Fr.trans F5.out F6.out
    have HS7 := Lib.hid (HS3.out.fr FW)
    have HF7 := Lib.hid (Fr.trans HF3.out FW)
    have HX7 := Lib.hid (HX3.out.fr FW)
    have HY7 := Lib.hid (HY3.out.fr FW)
    have HV7 := Lib.hid (HV.out.apart (L := []) (But.of FW) (fun _ _ => by simp))
    have s6 : u4.heap.size ≤ u6.heap.size := FW.size
    clear FW HS3 HF3 HX3 HY3 HV HV5 HX5 F5 F6 x0 x1 y0 y1
    obtain ⟨_, x0, x1, _, _⟩ := HX7.out
    go_wp2_with fail
    clear x0 x1
    refine (spec_ChcOk M X aM aL cM cL _ HS7.out FC.out).mono ?_
    rintro e u7 ⟨rfl, f7⟩
    replace HS7 := Lib.hid (HS7.out.fr f7)
    replace HF7 := Lib.hid (Fr.trans HF7.out f7)
    replace HX7 := Lib.hid (HX7.out.fr f7)
    replace HY7 := Lib.hid (HY7.out.fr f7)
    have HV := Lib.hid (HV7.out.apart (L := []) (But.of f7) (fun _ _ => by simp))
    have s7 := f7.size
    clear HV7 f7
    cases hok : okC ⟨M, lns X⟩
    · skip
      have hz : writeA ⟨M, lns X⟩ at1 n1 = ch0 := by simp only [writeA, hok, Bool.false_and]; rfl
      rw [hz] at HQ
      have hM3 : M3 = [] := (congrArg Ch.M HQ.out).symm
      subst hM3
      clear HQ HV hz
      obtain ⟨_, y0, y1, _, _⟩ := HY7.out
      go_wp2_with (first | (go_at_call 49; refine (laws_haOk _).mono ?_; rintro e w' ⟨rfl, rfl⟩))
      go_ret
      exact ⟨rfl, HF7.out⟩
    · by_cases h0 : at1 < 0
      · have hp : plcB at1 = false := by unfold plcB; simp; omega
        have hz : writeA ⟨M, lns X⟩ at1 n1 = ch0 := by simp only [writeA, hok, hp, Bool.and_false, Bool.false_and]; rfl
        rw [hz] at HQ
        have hM3 : M3 = [] := (congrArg Ch.M HQ.out).symm
        subst hM3
        clear HQ HV hz
        obtain ⟨_, y0, y1, _, _⟩ := HY7.out
        go_wp2_with (first | (go_at_call 49; refine (laws_haOk _).mono ?_; rintro e w' ⟨rfl, rfl⟩))
        go_ret
        exact ⟨rfl, HF7.out⟩
      · by_cases h1 : 256 ≤ at1
        · have hp : plcB at1 = false := by unfold plcB; simp; omega
          have hz : writeA ⟨M, lns X⟩ at1 n1 = ch0 := by simp only [writeA, hok, hp, Bool.and_false, Bool.false_and]; rfl
          rw [hz] at HQ
          have hM3 : M3 = [] := (congrArg Ch.M HQ.out).symm
          subst hM3
          clear HQ HV hz
          obtain ⟨_, y0, y1, _, _⟩ := HY7.out
          go_wp2_with (first | (go_at_call 49; refine (laws_haOk _).mono ?_; rintro e w' ⟨rfl, rfl⟩))
          go_ret
          exact ⟨rfl, HF7.out⟩
        · have hp : plcB at1 = true := plcB7 (by omega) (by omega)
          have hwo := fun u => spec_WrdOk n1 u
          cases hn : okB n1
          · rw [hn] at hwo
            have hz : writeA ⟨M, lns X⟩ at1 n1 = ch0 := by simp only [writeA, hok, hp, hn, Bool.and_false]; rfl
            rw [hz] at HQ
            have hM3 : M3 = [] := (congrArg Ch.M HQ.out).symm
            subst hM3
            clear HQ HV hz
            obtain ⟨_, y0, y1, _, _⟩ := HY7.out
            go_wp2_with (first | (go_at_call 57; refine (hwo _).mono ?_; rintro e w' ⟨rfl, rfl⟩) | (go_at_call 49; refine (laws_haOk _).mono ?_; rintro e w' ⟨rfl, rfl⟩))
            go_ret
            exact ⟨rfl, HF7.out⟩
          · rw [hn] at hwo
            have hz : writeA ⟨M, lns X⟩ at1 n1 = writeC ⟨M, lns X⟩ at1 n1 := by simp only [writeA, hok, hp, hn, Bool.and_self, if_true]
            obtain ⟨a, rfl⟩ : ∃ a : Nat, at1 = (a : Int) := ⟨at1.toNat, by omega⟩
            have HOK := (okC_iff _).1 hok
            have hq := HQ.out
            rw [hz] at hq
            have hok3 : okC ⟨M3, lns X3⟩ = true := by rw [← hq]; exact (okC_iff _).2 (writeC_ok HOK hp hn)
            have hall : allA ⟨M, lns X⟩ = allC ⟨M, lns X⟩ := if_pos hok
            have hall3 : allA ⟨M3, lns X3⟩ = (allC ⟨M, lns X⟩).set a n1 := by rw [allA, if_pos hok3, ← hq, allC_write HOK a n1 hp]
            have hblk : plcB ((a - a % 4 : Nat) : Int) = true := (plcB_iff _).2 ⟨by omega, by omega⟩
            have hheld : heldC ⟨M3, lns X3⟩ ((a - a % 4 : Nat) : Int) = true := by
              have := writeC_held HOK hp n1
              rw [hq] at this
              exact held_blk (by unfold blkA; omega) (by unfold slotOf; omega) this
            have hM6 : (writeA ⟨M3, lns X3⟩ ((a - a % 4 : Nat) : Int) n1).M = M3 := by
              rw [show writeA ⟨M3, lns X3⟩ ((a - a % 4 : Nat) : Int) n1 = writeC ⟨M3, lns X3⟩ ((a - a % 4 : Nat) : Int) n1 by simp only [writeA, hok3, hblk, hn, Bool.and_self, if_true]]
              exact writeC_M ((okC_iff _).1 hok3) n1 hheld
            have HML := Lib.hid (show M3.length = 256 from ((okC_iff _).1 hok3).Ml)
            have hal := allC_len ⟨M, lns X⟩
            have CA := impl_ChcAll M X aM aL cM cL u7 HS7.out FC.out hcM
            rw [hall] at CA
            generalize allC ⟨M, lns X⟩ = all at *
            have HCA := Lib.hid CA
            have HK3 := Lib.hid hok3
            have HA3 := Lib.hid hall3
            have HM6 := Lib.hid hM6
            have HAL := Lib.hid hal
            obtain ⟨_, x0, x1, _, _⟩ := HX7.out
            have ha0 : (0 : Int) ≤ (a : Int) := Int.natCast_nonneg _
            have ha1 : (a : Int) < 256 := by omega
            clear CA hok3 hall3 hblk hheld hM6 hall hq HOK hz hok HQ h0 h1 b0 b1 hal
            go_wp2_with (go_at_call 57; refine (hwo _).mono ?_; rintro e w' ⟨rfl, rfl⟩)
            refine HCA.out.mono ?_
            rintro e u8 ⟨aw, cw, rfl, hR8, f8⟩
            rw [HAL.out]
            rcases hR8 with ⟨hz0, _⟩ | ⟨gW, rfl, hgB, roW, caW, _⟩
            · exfalso
              have := HAL.out
              omega
            have cw0 := roW.cel a (by have := HAL.out; omega)
            have fw0 := roW.fro a (by have := HAL.out; omega)
            have st : But [gW] u8 (u8.setCell ⟨gW, a, none⟩ (.int .i64 n1)) := (But.refl _ _).set _ _ _ (.inl (by simp))
            have sw := HF7.out.size
            have hYl := HY7.out.lt
            have HF9 := Lib.hid (fr_but (Fr.trans HF7.out f8) st (fun m hm => by simp at hm; omega))
            have HY9 := Lib.hid ((HY7.out.fr f8).but st (by simp; omega))
            have V8 := HV.out.apart (L := []) (But.of f8) (fun _ _ => by simp)
            have HV9 := Lib.hid (V8.apart st (fun m hm hx => by have := (HV.out.bl m hm).2; simp at hx; omega))
            have W9 := Lib.hid (roW.set a n1 (by have := HAL.out; omega))
            have HAL3 := Lib.hid (show (all.set a n1).length = 256 by rw [List.length_set, HAL.out])
            clear V8 HV HX7 HS7 roW caW st f8 HCA HF7 HY7
            go_upto_region 11 with fail
            clear cw0 fw0 x0 x1
            generalize (u8.setCell ⟨gW, a, none⟩ (.int .i64 n1)) = u9 at *
            obtain ⟨_, y0, y1, _, _⟩ := HY9.out
            have EW := Lib.hid (fun t (ht : t = ((a - a % 4 : Nat) : Int)) => ht ▸ impl_ChcWrite M3 X3 a3 d3 c3 k3 ((a - a % 4 : Nat) : Int) n1 u9 HV9.out.src FT.out hl3)
            go_wp2_with fail
            clear y0 y1
            refine (EW.out _ (by go_num)).mono ?_
            rintro e u10 ⟨M6, X6, a6, d6, c6, k6, rfl, h6, V6, rm6, f6⟩
            clear EW
            have hM6 := HM6.out
            rw [show ((a - a % 4 : Nat) : Int) = (a : Int) - (a : Int) % 4 by omega, h6] at hM6
            obtain rfl : M3 = M6 := hM6.symm
            have FB6 := Fr.alloc u10 (.cells #[.slice a6 M3.length c6, .slice d6 X6.length k6] 30)
            have HF11 := Lib.hid (Fr.trans HF9.out (Fr.trans f6 FB6))
            have HY11 := Lib.hid (HY9.out.fr (Fr.trans f6 FB6))
            have HV11 := Lib.hid (HV9.out.apart (L := []) (But.of (Fr.trans f6 FB6)) (fun _ _ => by simp))
            have HQ11 := Lib.hid (Box2.new u10 (.slice a6 M3.length c6) (.slice d6 X6.length k6) 30 _ rfl)
            have HV6 := Lib.hid (V6.apart (L := []) (But.of FB6) (fun _ _ => by simp))
            have W11 := Lib.hid (W9.out.fr (Fr.trans f6 FB6))
            have nyq : ¬ Y = u10.heap.size := by have := HY9.out.lt; have := f6.size; omega
            have nyq2 : ¬ u10.heap.size = Y := fun e => nyq e.symm
            clear h6 V6 rm6 f6 FB6 HF9 HY9 HV9 W9 HM6
            dsimp only [caV]
            go_upto_region 12 with fail
            generalize (u10.alloc (.cells #[.slice a6 M3.length c6, .slice d6 X6.length k6] 30)) = u11 at *
            generalize u10.heap.size = Q at *
            have E9 := impl_ChcOk M3 X3 _ d3 c3 k3 u11 HV11.out.src FT.out hl3
            rw [HK3.out] at E9
            have HE9 := Lib.hid E9
            obtain ⟨_, y0, y1, _, _⟩ := HY11.out
            clear E9
            go_wp2_with fail
            clear y0 y1
            refine HE9.out.mono ?_
            rintro e u12 ⟨rfl, f10⟩
            have A10 := impl_ChcAll M3 X3 _ d3 c3 k3 u12 (HV11.out.src.fr f10) FT.out hl3
            rw [HA3.out] at A10
            have HA10 := Lib.hid A10
            have F10 := Lib.hid f10
            obtain ⟨_, y0, y1, _, _⟩ := HY11.out.fr f10
            clear A10 f10 HE9
            go_wp2_with fail
            clear y0 y1
            refine HA10.out.mono ?_
            rintro e u13 ⟨ax, cx, rfl, hR11, f11⟩
            have hs1 := hR11.vc.src
            rw [HAL3.out] at hs1
            have hs2 := (W11.out.fr (Fr.trans F10.out f11)).src
            rw [HAL3.out] at hs2
            rw [HAL3.out]
            have F11 := Lib.hid (Fr.trans F10.out f11)
            have HH := Lib.hid (laws_haIntso u13 256 (fun i => (all.set a n1).getD i 0) ax (some ⟨gW, 0, none⟩) cx cw hs1 hs2 (by omega))
            clear hR11 f11 hs1 hs2 HA10
            go_wp2_with fail
            refine HH.out.mono ?_
            rintro e u14 ⟨rfl, m, hm⟩
            have f12 : Fr u11 u14 := by rw [← hm]; exact fr_drewN F11.out _
            have F12 := Lib.hid f12
            have HI := Lib.hid (laws_haIntso u14 M3.length (fun i => M3.getD i 0) a6 a3 c6 c3 (HV6.out.src.fr f12).M (HV11.out.src.fr f12).M (by have := HML.out; omega))
            obtain ⟨_, y0, y1, _, _⟩ := HY11.out.fr f12
            obtain ⟨_, q0, q1, _, _⟩ := HQ11.out.fr f12
            clear f12 hm m HH
            go_wp2_with fail
            refine HI.out.mono ?_
            rintro e u15 ⟨rfl, m, hm⟩
            have f15 : Fr u11 u15 := by rw [← hm]; exact fr_drewN F12.out _
            have F15 := Lib.hid f15
            clear f15 hm m HI y0 y1 q0 q1
            go_wp2
            go_ret
            exact ⟨rfl, Fr.trans HF11.out F15.out⟩
  · have hl' : (1048576 : Int) < (len0 : Int) := by omega
    go_wp2
    go_ret
    exact ⟨rfl, Below.refl _ _⟩

set_option maxRecDepth 100000 in
theorem lifted (os : Os) (started : os.Started) (H : Type) (enc : TypeId × Value → H) :
    ReturnsInHanded {} Try.checked os 14 .any (Rows.fnChcWriteSpec.pre6 enc Try.prog Try.f14 Rows.fnChcWriteRow.domain false) (Rows.fnChcWriteSpec.post enc Try.prog Try.f14 false true false false) := by
  refine returnsInHanded_of_change (C := Try.checked) own started (by kernel_rfl) Try.func14
    (ChangeSpec.witness6 (enc := enc) (C := Try.checked) false ⟨#[], #[.slice none 0 0], []⟩ 8 (by kernel_rfl) (by kernel_rfl) (by kernel_rfl) (by kernel_rfl)) ?_
  intro W base args ds gs before hval0 hW hcnd _
  have hval : ∀ (j : Nat) t v, Try.f14.params[j]? = some t → args[j]? = some v → Value.okWide Try.prog W .any base t v := hval0
  have hW' := hW
  obtain ⟨p, q, hA0, hV, rfl, hfz, hnd⟩ := hW
  have hA : DataW.TrodAll enc Try.prog W 0 (fun _ => true) true Try.f14.params.toList args.toList ds p := hA0
  rw [Try.params14] at hA hval
  obtain ⟨v0, vs0, d0, ds0, p0, q0, hargs, rfl, rfl, h0, r0⟩ := trodAll_cons hA
  obtain ⟨rfl, rfl, rfl⟩ := trodAll_nil r0
  obtain rfl : args = #[v0] := by cases args; simp_all
  obtain ⟨rfl, rfl⟩ := trodVars_none hV
  obtain ⟨a0, len0, cap0, rfl⟩ := okWide_slice Try.underlying53 (hval 0 53 v0 rfl rfl)
  have k0 := h0
  have lt0 : ∀ x ∈ p0, x.block < W.heap.size := by obtain ⟨m, hm⟩ := k0; exact DataW.trod_lt m _ _ _ hm
  obtain ⟨z0, w0⟩ : ∃ zs, IsRow .u8 W a0 len0 cap0 zs := by
    obtain ⟨fuel, hf⟩ := h0
    rcases open_ints Try.underlying53 Try.underlying5 (by kernel_rfl) hf with ⟨hcs, _⟩ | ⟨x, l, c, zs, hcs, _, hl, hm, hz, _, hcell, hwz⟩
    · simp [Value.cells] at hcs
      obtain ⟨rfl, rfl, rfl⟩ := hcs
      exact ⟨[], .inl ⟨rfl, rfl, rfl, rfl⟩⟩
    · simp [Value.cells] at hcs
      obtain ⟨rfl, rfl, rfl⟩ := hcs
      exact ⟨zs, .inr ⟨_, rfl, hl, hm, by simpa using hz, hcell, hwz⟩⟩
  clear hA0 hval0
  refine (walk a0 len0 cap0 z0 W w0).mono fun e W' ⟨he, bel⟩ => ?_
  subst he
  exact ⟨_, rfl, _, _, _, [], _, [], hW', trodAll_mk1 (shut_bool Try.underlying4 _), (trodAll_cons_mk (Below.trod laidOut (by kernel_rfl) (of_decide_eq_true (by kernel_rfl)) k0 bel lt0) trodAll_mk0), rfl, bel.frame _, fun h => by cases h⟩

theorem over : Rows.fnChcWriteRow.holds Try.pinned (OpenSpec.ofChange Rows.fnChcWriteSpec) :=
  OpenClaim.holds_of_wide 14 Try.f14 rfl rfl rfl rfl rfl rfl rfl ⟨rfl, rfl, rfl, rfl, rfl⟩ rfl rfl rfl rfl rfl (by kernel_rfl) Try.func14 (by kernel_rfl)
    (of_decide_eq_true (by kernel_rfl)) (by unfold Func.isWrapper; first | (rw [if_pos (by decide +kernel)]; kernel_rfl) | (rw [if_neg (by decide +kernel)]; exact ⟨rfl, rfl⟩))
    (fun os started H enc _ => lifted os started H enc)

/-- THE STATEMENT. -/
theorem proved : Rows.FnChcWriteSaid := over
#print axioms proved
end Go.Proofs.Ytoacgjjpipdkjaa.fnChcWrite
