/- For every code (any bytes), law FnInOk returns true and its argument reads as before (no condition). -/
import Derived.Test.YtoacgjjpipdkjaaRows
import Derived.Test.YtoacgjjpipdkjaaK49
import Derived.WalkKit
import Derived.ProofKit
import Derived.OpenShut
import Derived.ShutString
import Derived.ChangeOld
import Derived.Below
namespace Go.Proofs.Ytoacgjjpipdkjaa.fnInOk
open Go.ChangeShapes Go.WideShapes Go.ChangeAt Go.RowKit
set_option linter.unusedVariables false
set_option linter.unusedSimpArgs false

theorem own : ownKnob Try.prog.godebug = none := by kernel_rfl
theorem laidOut : laidOutB Try.prog = true := by kernel_rfl

def IsRow (k : IntKind) (w : World) (a : Option Addr) (len cap : Nat) (zs : List Int) : Prop :=
  (a = none ∧ len = 0 ∧ cap = 0 ∧ zs = []) ∨
  ∃ x, a = some x ∧ len ≤ cap ∧ cap ≤ maxLen ∧ zs.length = cap ∧ (∀ i, i < zs.length → w.cell? (x.add i) = some (.int k (zs.getD i 0))) ∧ ∀ n ∈ zs, (Lit.int k n).wf = true

set_option maxRecDepth 8000 in
set_option maxHeartbeats 8000000 in
theorem walk (a0 : Option Addr) (len0 cap0 : Nat) (z0 : List Int) (w : World) (w0 : IsRow .u8 w a0 len0 cap0 z0) :
    Calls Try.prog 10 #[.slice a0 len0 cap0] w fun e w' => e = .returned (.bool true) ∧ Below w.heap.size w w' := by
  have hc0 : Code1 w.heap.size w a0 len0 cap0 := by
    rcases w0 with ⟨rfl, rfl, rfl, rfl⟩ | ⟨x, rfl, hl, hm, hz, hcell, hwz⟩
    · exact ⟨Nat.le_refl _, Nat.le_refl _, Nat.zero_le _, .inl rfl, fun _ => rfl⟩
    · exact ⟨Nat.le_refl _, hl, hm, bytes_of_row hl hz hcell hwz, fun h => by cases h⟩
  clear w0 z0
  go_enter Try.func10, Try.ntmps10
  by_cases hl : len0 ≤ 1048576
  · have hl' : ¬ (1048576 : Int) < (len0 : Int) := by omega
    go_wp2_with fail
    refine (DrawInOk a0 len0 cap0 w hc0).mono ?_
    rintro e u1 ⟨r, l, a, n, P, aP, cP, hf, rfl, hS, f1⟩
    have FA := Fr.alloc u1 (.cells #[.bool r, .bool l, .int .i64 a, .int .i64 n, .slice aP P.length cP] 46)
    have HP := Lib.hid (show P.length ≤ 1048576 by omega)
    have HS2 := Lib.hid (hS.fr FA)
    have HF2 := Lib.hid (Fr.trans f1 FA)
    have HZ2 := Lib.hid (Box5.new u1 (.bool r) (.bool l) (.int .i64 a) (.int .i64 n) (.slice aP P.length cP) 46 _ rfl)
    clear hS f1 FA hc0 hf
    dsimp only [inv9]
    go_upto_region 4 with fail
    generalize (u1.alloc (.cells #[.bool r, .bool l, .int .i64 a, .int .i64 n, .slice aP P.length cP] 46)) = u2 at *
    generalize u1.heap.size = Z at *
    obtain ⟨b, hb⟩ : ∃ b, b = inB l a n P := ⟨_, rfl⟩
    have hqb : (b != b) = false := by cases b <;> rfl
    have K1 := Lib.hid (fun v (f : Fr u2 v) => hb ▸ impl_InOk r l a n P aP cP v (HS2.out.fr f) HP.out)
    have K2 := Lib.hid (fun v (f : Fr u2 v) => hb ▸ spec_InOk r l a n P aP cP v (HS2.out.fr f) HP.out)
    have HB := Lib.hid hb
    clear hb
    obtain ⟨_, z0, z1, z2, z3, z4, _, _, _, _, _⟩ := HZ2.out
    go_wp2_with fail
    clear z0 z1 z2 z3 z4
    refine (K1.out _ (Below.refl _ _)).mono ?_
    rintro e u3 ⟨rfl, f3⟩
    have F3 := Lib.hid f3
    clear f3
    go_wp2_with fail
    refine (impl_InAll u3).mono ?_
    rintro e u4 ⟨gA, rfl, hgA, vA, f4⟩
    have FB := Fr.alloc u4 (.cells #[.bool false, .bool false, .int .i64 0, .int .i64 0, .slice (some ⟨gA, 0, none⟩) 2 2] 46)
    have F5 := Lib.hid (Fr.trans F3.out (Fr.trans f4 FB))
    have HY5 := Lib.hid (Box5.new u4 (.bool false) (.bool false) (.int .i64 0) (.int .i64 0) (.slice (some ⟨gA, 0, none⟩) 2 2) 46 _ rfl)
    have VA5 := Lib.hid (vA.src.fr FB)
    have HZ5 := Lib.hid (HZ2.out.fr F5.out)
    clear F3 hgA vA f4 FB
    dsimp only [inv9]
    go_upto_region 6 with fail
    generalize (u4.alloc (.cells #[.bool false, .bool false, .int .i64 0, .int .i64 0, .slice (some ⟨gA, 0, none⟩) 2 2] 46)) = u5 at *
    generalize u4.heap.size = Y at *
    obtain ⟨_, z0, z1, z2, z3, z4, _, _, _, _, _⟩ := HZ5.out
    go_wp2_with fail
    clear z0 z1 z2 z3 z4
    refine (K2.out _ F5.out).mono ?_
    rintro e u6 ⟨rfl, f6⟩
    have F6 := Lib.hid (Fr.trans F5.out f6)
    have HY6 := Lib.hid (HY5.out.fr f6)
    have VA6 := Lib.hid (VA5.out.fr f6)
    have HZ6 := Lib.hid (HZ2.out.fr F6.out)
    clear f6 F5 HY5 VA5 HZ5
    have EA := impl_InOk false false 0 0 [0, 0] (some ⟨gA, 0, none⟩) 2 u6 VA6.out (by decide)
    rw [show inB false 0 0 [0, 0] = true from rfl] at EA
    have HEA := Lib.hid EA
    clear EA
    obtain ⟨_, y0, y1, y2, y3, y4, _, _, _, _, _⟩ := HY6.out
    go_wp2_with fail
    clear y0 y1 y2 y3 y4
    refine HEA.out.mono ?_
    rintro e u7 ⟨rfl, f7⟩
    have F7 := Lib.hid (Fr.trans F6.out f7)
    have HY7 := Lib.hid (HY6.out.fr f7)
    have HZ7 := Lib.hid (HZ2.out.fr F7.out)
    have HS7 := Lib.hid (HS2.out.fr F7.out)
    have HF7 := Lib.hid (Fr.trans HF2.out F7.out)
    clear f7 F6 HY6 VA6 HZ6 HEA
    obtain ⟨_, y0, y1, y2, y3, y4, _, _, _, _, _⟩ := HY7.out
    go_upto_region 8 with fail
    clear y0 y1 y2 y3 y4 HY7 K1 K2 hqb F7 HZ2 HS2 HF2
    cases b
    · go_wp2_with fail
      go_ret
      exact ⟨rfl, HF7.out⟩
    · obtain ⟨_, z0, z1, z2, z3, z4, _, _, _, _, _⟩ := HZ7.out
      go_upto_region 11 with fail
      clear z0 z1 z2 z3 z4
      have F78 := Lib.hid (Fr.alloc u7 (.cells #[.bool r, .bool l, .int .i64 a, .int .i64 n, .slice aP P.length cP] 46))
      have HA8 := Lib.hid (Box5.new u7 (.bool r) (.bool l) (.int .i64 a) (.int .i64 n) (.slice aP P.length cP) 46 _ rfl)
      generalize (u7.alloc (.cells #[.bool r, .bool l, .int .i64 a, .int .i64 n, .slice aP P.length cP] 46)) = u8 at *
      generalize hA : u7.heap.size = A at *
      have HhA := Lib.hid hA
      clear hA
      obtain ⟨_, x0, x1, x2, x3, x4, o0, o1, o2, o3, o4⟩ := HA8.out
      go_upto_region 12 with fail
      clear x0 x1 x2 x3 x4 o0 o1 o2 o3 o4
      have st : But [A] u8 (u8.setCell ⟨A, 4, none⟩ (.slice (some ⟨u8.heap.size, 0, none⟩) 3 3)) := (But.refl _ _).set _ _ _ (.inl (by simp))
      have FR := Fr.alloc (u8.setCell ⟨A, 4, none⟩ (.slice (some ⟨u8.heap.size, 0, none⟩) 3 3)) (.cells #[.int .i64 0, .int .i64 0, .int .i64 0] 3)
      have HA9 := Lib.hid ((HA8.out.p4 (.slice (some ⟨u8.heap.size, 0, none⟩) 3 3)).fr FR)
      have F79 := Lib.hid (Fr.trans (fr_but F78.out st (fun m hm => by have := HhA.out; simp at hm; omega)) FR)
      have H39 := Lib.hid (show Src ((u8.setCell ⟨A, 4, none⟩ (.slice (some ⟨u8.heap.size, 0, none⟩) 3 3)).alloc (.cells #[.int .i64 0, .int .i64 0, .int .i64 0] 3)) ([0, 0, 0] : List Int).length (ivl [0, 0, 0]) (some ⟨u8.heap.size, 0, none⟩) from fun _ => ⟨u8.heap.size, 0, rfl, by simp, fun i hi => by
        rw [Nat.zero_add, (alloc_at (u8.setCell ⟨A, 4, none⟩ (.slice (some ⟨u8.heap.size, 0, none⟩) 3 3)) _ _ u8.heap.size (by simp) i).1]
        have hi' : i < 3 := hi
        rcases i with _ | _ | _ | i
        · rfl
        · rfl
        · rfl
        · omega⟩)
      clear st FR F78 HA8
      generalize ((u8.setCell ⟨A, 4, none⟩ (.slice (some ⟨u8.heap.size, 0, none⟩) 3 3)).alloc (.cells #[.int .i64 0, .int .i64 0, .int .i64 0] 3)) = u9 at *
      generalize u8.heap.size = g3 at *
      have HZ9 := Lib.hid (HZ7.out.fr F79.out)
      obtain ⟨_, z0, z1, z2, z3, z4, _, _, _, _, _⟩ := HZ9.out
      go_upto_region 13 with fail
      clear z0 z1 z2 z3 z4 HZ9
      have FA := Lib.hid (Fr.alloc u9 (.cells #[.bool r, .bool l, .int .i64 a, .int .i64 n, .slice aP P.length cP] 46))
      have HD10 := Lib.hid (Box5.new u9 (.bool r) (.bool l) (.int .i64 a) (.int .i64 n) (.slice aP P.length cP) 46 _ rfl)
      generalize (u9.alloc (.cells #[.bool r, .bool l, .int .i64 a, .int .i64 n, .slice aP P.length cP] 46)) = u10 at *
      generalize hD : u9.heap.size = D at *
      have HhD := Lib.hid hD
      clear hD
      obtain ⟨_, x0, x1, x2, x3, x4, o0, o1, o2, o3, o4⟩ := HD10.out
      go_upto_region 14 with fail
      clear x0 x1 x2 x3 x4 o0 o1 o2 o3 o4
      have st : But [D] u10 (u10.setCell ⟨D, 1, none⟩ (.bool false)) := (But.refl _ _).set _ _ _ (.inl (by simp))
      have F9d := Lib.hid (fr_but FA.out st (fun m hm => by have := HhD.out; simp at hm; omega))
      have HD := Lib.hid (HD10.out.p1 (.bool false))
      clear st FA HD10
      generalize (u10.setCell ⟨D, 1, none⟩ (.bool false)) = ud at *
      have F7d := Lib.hid (Fr.trans F79.out F9d.out)
      have HA := Lib.hid (HA9.out.fr F9d.out)
      have H3 := Lib.hid (H39.out.fr F9d.out)
      have HZ := Lib.hid (HZ7.out.fr F7d.out)
      have HS := Lib.hid (HS7.out.fr F7d.out)
      have HF := Lib.hid (Fr.trans HF7.out F7d.out)
      clear F79 F9d F7d HA9 H39 HZ7 HS7 HF7 HhA HhD
      have hin := HB.out
      clear HB
      cases l
      · obtain ⟨⟨h2, h3⟩, rfl, rfl⟩ : (P.length ≤ 2 ∧ posB P = true) ∧ a = 0 ∧ n = 0 := by simpa [inB] using hin.symm
        clear hin
        have e1 : inB false 0 0 [0, 0, 0] = false := by simp [inB]
        have e2 : inB false 0 0 P = true := by (simp [inB, h2, h3]; done)
        have HC := Lib.hid (fun v (f : Fr ud v) => (show v.cell? ⟨Z, 1, none⟩ = some (.bool false) ∧ v.cell? ⟨Z, 2, none⟩ = some (.int .i64 0) ∧ v.cell? ⟨Z, 3, none⟩ = some (.int .i64 0) ∧ v.cell? ⟨A, 0, none⟩ = some (.bool r) ∧ v.cell? ⟨A, 1, none⟩ = some (.bool false) ∧ v.cell? ⟨A, 2, none⟩ = some (.int .i64 0) ∧ v.cell? ⟨A, 3, none⟩ = some (.int .i64 0) ∧ v.cell? ⟨A, 4, none⟩ = some (.slice (some ⟨g3, 0, none⟩) 3 3) ∧ v.cell? ⟨D, 0, none⟩ = some (.bool r) ∧ v.cell? ⟨D, 1, none⟩ = some (.bool false) ∧ v.cell? ⟨D, 2, none⟩ = some (.int .i64 0) ∧ v.cell? ⟨D, 3, none⟩ = some (.int .i64 0) ∧ v.cell? ⟨D, 4, none⟩ = some (.slice aP P.length cP) from ⟨(HZ.out.fr f).c1, (HZ.out.fr f).c2, (HZ.out.fr f).c3, (HA.out.fr f).c0, (HA.out.fr f).c1, (HA.out.fr f).c2, (HA.out.fr f).c3, (HA.out.fr f).c4, (HD.out.fr f).c0, (HD.out.fr f).c1, (HD.out.fr f).c2, (HD.out.fr f).c3, (HD.out.fr f).c4⟩))
        have KX := Lib.hid (fun v (f : Fr ud v) => e1 ▸ impl_InOk r false 0 0 [0, 0, 0] (some ⟨g3, 0, none⟩) 3 v (H3.out.fr f) (by decide))
        have KY := Lib.hid (fun v (f : Fr ud v) => e2 ▸ impl_InOk r false 0 0 P aP cP v (HS.out.fr f) HP.out)
        obtain ⟨z0, z1, z2, z3, z4, z5, z6, z7, z8, z9, z10, z11, z12⟩ := HC.out ud (Below.refl _ _)
        clear e1 e2
        go_region_held3 (fun v => v.cell? ⟨Z, 1, none⟩ = some (.bool false) ∧ v.cell? ⟨Z, 2, none⟩ = some (.int .i64 0) ∧ v.cell? ⟨Z, 3, none⟩ = some (.int .i64 0) ∧ v.cell? ⟨A, 0, none⟩ = some (.bool r) ∧ v.cell? ⟨A, 1, none⟩ = some (.bool false) ∧ v.cell? ⟨A, 2, none⟩ = some (.int .i64 0) ∧ v.cell? ⟨A, 3, none⟩ = some (.int .i64 0) ∧ v.cell? ⟨A, 4, none⟩ = some (.slice (some ⟨g3, 0, none⟩) 3 3) ∧ v.cell? ⟨D, 0, none⟩ = some (.bool r) ∧ v.cell? ⟨D, 1, none⟩ = some (.bool false) ∧ v.cell? ⟨D, 2, none⟩ = some (.int .i64 0) ∧ v.cell? ⟨D, 3, none⟩ = some (.int .i64 0) ∧ v.cell? ⟨D, 4, none⟩ = some (.slice aP P.length cP))
          (first | (go_keep; done))
          (first
            | (go_at_call 39; refine (KY.out _ F1.out).mono ?_; rintro e v2 ⟨rfl, f2⟩; have F2 := Lib.hid (Fr.trans F1.out f2); obtain ⟨q0, q1, q2, q3, q4, q5, q6, q7, q8, q9, q10, q11, q12⟩ := HC.out v2 F2.out; clear f2)
            | (go_at_call 39; refine (KX.out _ (Below.drew (Below.refl _ _))).mono ?_; rintro e v1 ⟨rfl, f1⟩; have F1 := Lib.hid (show Fr ud v1 from Fr.trans (Below.drew (Below.refl _ _)) f1); obtain ⟨p0, p1, p2, p3, p4, p5, p6, p7, p8, p9, p10, p11, p12⟩ := HC.out v1 F1.out; clear f1))
        go_wp2
        go_ret
        exact ⟨rfl, Fr.trans HF.out F2.out⟩
      · obtain ⟨⟨h2, h3⟩, _⟩ : (P.length ≤ 2 ∧ posB P = true) ∧ (plB a = true ∧ okB n = true) := by simpa [inB] using hin.symm
        clear hin
        by_cases ha : a = 0
        · subst ha
          by_cases hn : n = 0
          · subst hn
            have e1 : inB true 0 0 [0, 0, 0] = false := by simp [inB]
            have e2 : inB false 0 0 P = true := by (simp [inB, h2, h3]; done)
            have HC := Lib.hid (fun v (f : Fr ud v) => (show v.cell? ⟨Z, 1, none⟩ = some (.bool true) ∧ v.cell? ⟨Z, 2, none⟩ = some (.int .i64 0) ∧ v.cell? ⟨Z, 3, none⟩ = some (.int .i64 0) ∧ v.cell? ⟨A, 0, none⟩ = some (.bool r) ∧ v.cell? ⟨A, 1, none⟩ = some (.bool true) ∧ v.cell? ⟨A, 2, none⟩ = some (.int .i64 0) ∧ v.cell? ⟨A, 3, none⟩ = some (.int .i64 0) ∧ v.cell? ⟨A, 4, none⟩ = some (.slice (some ⟨g3, 0, none⟩) 3 3) ∧ v.cell? ⟨D, 0, none⟩ = some (.bool r) ∧ v.cell? ⟨D, 1, none⟩ = some (.bool false) ∧ v.cell? ⟨D, 2, none⟩ = some (.int .i64 0) ∧ v.cell? ⟨D, 3, none⟩ = some (.int .i64 0) ∧ v.cell? ⟨D, 4, none⟩ = some (.slice aP P.length cP) from ⟨(HZ.out.fr f).c1, (HZ.out.fr f).c2, (HZ.out.fr f).c3, (HA.out.fr f).c0, (HA.out.fr f).c1, (HA.out.fr f).c2, (HA.out.fr f).c3, (HA.out.fr f).c4, (HD.out.fr f).c0, (HD.out.fr f).c1, (HD.out.fr f).c2, (HD.out.fr f).c3, (HD.out.fr f).c4⟩))
            have KX := Lib.hid (fun v (f : Fr ud v) => e1 ▸ impl_InOk r true 0 0 [0, 0, 0] (some ⟨g3, 0, none⟩) 3 v (H3.out.fr f) (by decide))
            have KY := Lib.hid (fun v (f : Fr ud v) => e2 ▸ impl_InOk r false 0 0 P aP cP v (HS.out.fr f) HP.out)
            obtain ⟨z0, z1, z2, z3, z4, z5, z6, z7, z8, z9, z10, z11, z12⟩ := HC.out ud (Below.refl _ _)
            clear e1 e2
            refine wp_region_held_drew (S := fun v => v.cell? ⟨Z, 1, none⟩ = some (.bool true) ∧ v.cell? ⟨Z, 2, none⟩ = some (.int .i64 0) ∧ v.cell? ⟨Z, 3, none⟩ = some (.int .i64 0) ∧ v.cell? ⟨A, 0, none⟩ = some (.bool r) ∧ v.cell? ⟨A, 1, none⟩ = some (.bool true) ∧ v.cell? ⟨A, 2, none⟩ = some (.int .i64 0) ∧ v.cell? ⟨A, 3, none⟩ = some (.int .i64 0) ∧ v.cell? ⟨A, 4, none⟩ = some (.slice (some ⟨g3, 0, none⟩) 3 3) ∧ v.cell? ⟨D, 0, none⟩ = some (.bool r) ∧ v.cell? ⟨D, 1, none⟩ = some (.bool false) ∧ v.cell? ⟨D, 2, none⟩ = some (.int .i64 0) ∧ v.cell? ⟨D, 3, none⟩ = some (.int .i64 0) ∧ v.cell? ⟨D, 4, none⟩ = some (.slice aP P.length cP)) (by kernel_rfl) ?_ (fun hHeld => ?_)
            · (try dsimp only)
              go_keep
            refine wpAnyH_take (i := 0) (v := .agg #[.bool r, .bool true, .int .i64 0, .int .i64 0, .slice (some ⟨g3, 0, none⟩) 3 3]) rfl (by kernel_rfl) (by kernel_rfl) (by kernel_rfl) (fun _ _ _ h => h) (Or.inl ⟨by kernel_rfl, ?_⟩) (by assumption) ?_
            · intro w hSw
              (try dsimp only at hSw)
              go_simp
            (try simp only [Act.put, List.getElem_toArray, List.getElem_cons_succ, List.getElem_cons_zero, List.setIfInBounds_toArray, List.set_cons_zero, List.set_cons_succ])
            refine wpAnyH_ready (rs := [1]) (by kernel_rfl) (by simp) ?_
            refine AllReadyH.cons rfl (fun K hK => ?_) AllReadyH.nil
            go_simp
            go_at_call 39; refine (KX.out _ (Below.drew (Below.refl _ _))).mono ?_; rintro e v1 ⟨rfl, f1⟩; have F1 := Lib.hid (show Fr ud v1 from Fr.trans (Below.drew (Below.refl _ _)) f1); obtain ⟨p0, p1, p2, p3, p4, p5, p6, p7, p8, p9, p10, p11, p12⟩ := HC.out v1 F1.out; clear f1
            refine hK.out _ _ ?_ (fun hHeld => ?_)
            · (try dsimp only)
              go_keep
            clear hK K
            (try simp only [Act.put, List.getElem_toArray, List.getElem_cons_succ, List.getElem_cons_zero, List.setIfInBounds_toArray, List.set_cons_zero, List.set_cons_succ])
            refine wpAnyH_take (i := 2) (v := .bool true) rfl (by kernel_rfl) (by kernel_rfl) (by kernel_rfl) (fun _ _ _ h => h) (Or.inl ⟨by kernel_rfl, ?_⟩) (by assumption) ?_
            · intro w hSw
              kernel_rfl
            (try simp only [Act.put, List.getElem_toArray, List.getElem_cons_succ, List.getElem_cons_zero, List.setIfInBounds_toArray, List.set_cons_zero, List.set_cons_succ])
            refine wpAnyH_take (i := 3) (v := .bool true) rfl (by kernel_rfl) (by kernel_rfl) (by kernel_rfl) (fun _ _ _ h => h) (Or.inl ⟨by kernel_rfl, ?_⟩) (by assumption) ?_
            · intro w hSw
              kernel_rfl
            (try simp only [Act.put, List.getElem_toArray, List.getElem_cons_succ, List.getElem_cons_zero, List.setIfInBounds_toArray, List.set_cons_zero, List.set_cons_succ])
            refine wpAnyH_take (i := 4) (v := .pointer (some ⟨Z, 1, none⟩)) rfl (by kernel_rfl) (by kernel_rfl) (by kernel_rfl) (fun _ _ _ h => h) (Or.inl ⟨by kernel_rfl, ?_⟩) (by assumption) ?_
            · intro w hSw
              kernel_rfl
            (try simp only [Act.put, List.getElem_toArray, List.getElem_cons_succ, List.getElem_cons_zero, List.setIfInBounds_toArray, List.set_cons_zero, List.set_cons_succ])
            refine wpAnyH_take (i := 5) (v := .bool true) rfl (by kernel_rfl) (by kernel_rfl) (by kernel_rfl) (fun _ _ _ h => h) (Or.inl ⟨by kernel_rfl, ?_⟩) (by assumption) ?_
            · intro w hSw
              (try dsimp only at hSw)
              go_simp
            (try simp only [Act.put, List.getElem_toArray, List.getElem_cons_succ, List.getElem_cons_zero, List.setIfInBounds_toArray, List.set_cons_zero, List.set_cons_succ])
            refine wpAnyH_take (i := 6) (v := .bool true) rfl (by kernel_rfl) (by kernel_rfl) (by kernel_rfl) (fun _ _ _ h => h) (Or.inl ⟨by kernel_rfl, ?_⟩) (by assumption) ?_
            · intro w hSw
              kernel_rfl
            (try simp only [Act.put, List.getElem_toArray, List.getElem_cons_succ, List.getElem_cons_zero, List.setIfInBounds_toArray, List.set_cons_zero, List.set_cons_succ])
            refine wpAnyH_take (i := 7) (v := undef) rfl (by kernel_rfl) (by kernel_rfl) (by kernel_rfl) (fun _ _ _ h => h) (Or.inr ⟨by kernel_rfl, rfl⟩) (by assumption) ?_
            (try simp only [Act.put, List.getElem_toArray, List.getElem_cons_succ, List.getElem_cons_zero, List.setIfInBounds_toArray, List.set_cons_zero, List.set_cons_succ])
            refine wpAnyH_take (i := 8) (v := undef) rfl (by kernel_rfl) (by kernel_rfl) (by kernel_rfl) (fun _ _ _ h => h) (Or.inr ⟨by kernel_rfl, rfl⟩) (by assumption) ?_
            (try simp only [Act.put, List.getElem_toArray, List.getElem_cons_succ, List.getElem_cons_zero, List.setIfInBounds_toArray, List.set_cons_zero, List.set_cons_succ])
            refine wpAnyH_take (i := 9) (v := undef) rfl (by kernel_rfl) (by kernel_rfl) (by kernel_rfl) (fun _ _ _ h => h) (Or.inr ⟨by kernel_rfl, rfl⟩) (by assumption) ?_
            (try simp only [Act.put, List.getElem_toArray, List.getElem_cons_succ, List.getElem_cons_zero, List.setIfInBounds_toArray, List.set_cons_zero, List.set_cons_succ])
            refine wpAnyH_take (i := 10) (v := undef) rfl (by kernel_rfl) (by kernel_rfl) (by kernel_rfl) (fun _ _ _ h => h) (Or.inr ⟨by kernel_rfl, rfl⟩) (by assumption) ?_
            (try simp only [Act.put, List.getElem_toArray, List.getElem_cons_succ, List.getElem_cons_zero, List.setIfInBounds_toArray, List.set_cons_zero, List.set_cons_succ])
            refine wpAnyH_take (i := 11) (v := undef) rfl (by kernel_rfl) (by kernel_rfl) (by kernel_rfl) (fun _ _ _ h => h) (Or.inr ⟨by kernel_rfl, rfl⟩) (by assumption) ?_
            (try simp only [Act.put, List.getElem_toArray, List.getElem_cons_succ, List.getElem_cons_zero, List.setIfInBounds_toArray, List.set_cons_zero, List.set_cons_succ])
            refine wpAnyH_take (i := 12) (v := undef) rfl (by kernel_rfl) (by kernel_rfl) (by kernel_rfl) (fun _ _ _ h => h) (Or.inr ⟨by kernel_rfl, rfl⟩) (by assumption) ?_
            (try simp only [Act.put, List.getElem_toArray, List.getElem_cons_succ, List.getElem_cons_zero, List.setIfInBounds_toArray, List.set_cons_zero, List.set_cons_succ])
            refine wpAnyH_take (i := 13) (v := undef) rfl (by kernel_rfl) (by kernel_rfl) (by kernel_rfl) (fun _ _ _ h => h) (Or.inr ⟨by kernel_rfl, rfl⟩) (by assumption) ?_
            (try simp only [Act.put, List.getElem_toArray, List.getElem_cons_succ, List.getElem_cons_zero, List.setIfInBounds_toArray, List.set_cons_zero, List.set_cons_succ])
            refine wpAnyH_take (i := 14) (v := undef) rfl (by kernel_rfl) (by kernel_rfl) (by kernel_rfl) (fun _ _ _ h => h) (Or.inr ⟨by kernel_rfl, rfl⟩) (by assumption) ?_
            (try simp only [Act.put, List.getElem_toArray, List.getElem_cons_succ, List.getElem_cons_zero, List.setIfInBounds_toArray, List.set_cons_zero, List.set_cons_succ])
            refine wpAnyH_take (i := 15) (v := .bool true) rfl (by kernel_rfl) (by kernel_rfl) (by kernel_rfl) (fun _ _ _ h => h) (Or.inl ⟨by kernel_rfl, ?_⟩) (by assumption) ?_
            · intro w hSw
              kernel_rfl
            (try simp only [Act.put, List.getElem_toArray, List.getElem_cons_succ, List.getElem_cons_zero, List.setIfInBounds_toArray, List.set_cons_zero, List.set_cons_succ])
            refine wpAnyH_take (i := 16) (v := .bool true) rfl (by kernel_rfl) (by kernel_rfl) (by kernel_rfl) (fun _ _ _ h => h) (Or.inl ⟨by kernel_rfl, ?_⟩) (by assumption) ?_
            · intro w hSw
              kernel_rfl
            (try simp only [Act.put, List.getElem_toArray, List.getElem_cons_succ, List.getElem_cons_zero, List.setIfInBounds_toArray, List.set_cons_zero, List.set_cons_succ])
            refine wpAnyH_take (i := 17) (v := .bool true) rfl (by kernel_rfl) (by kernel_rfl) (by kernel_rfl) (fun _ _ _ h => h) (Or.inl ⟨by kernel_rfl, ?_⟩) (by assumption) ?_
            · intro w hSw
              kernel_rfl
            (try simp only [Act.put, List.getElem_toArray, List.getElem_cons_succ, List.getElem_cons_zero, List.setIfInBounds_toArray, List.set_cons_zero, List.set_cons_succ])
            refine wpAnyH_take (i := 18) (v := .agg #[.bool r, .bool false, .int .i64 0, .int .i64 0, .slice aP P.length cP]) rfl (by kernel_rfl) (by kernel_rfl) (by kernel_rfl) (fun _ _ _ h => h) (Or.inl ⟨by kernel_rfl, ?_⟩) (by assumption) ?_
            · intro w hSw
              (try dsimp only at hSw)
              go_simp
            (try simp only [Act.put, List.getElem_toArray, List.getElem_cons_succ, List.getElem_cons_zero, List.setIfInBounds_toArray, List.set_cons_zero, List.set_cons_succ])
            refine wpAnyH_take (i := 20) (v := .pointer (some ⟨Z, 2, none⟩)) rfl (by kernel_rfl) (by kernel_rfl) (by kernel_rfl) (fun _ _ _ h => h) (Or.inl ⟨by kernel_rfl, ?_⟩) (by assumption) ?_
            · intro w hSw
              kernel_rfl
            (try simp only [Act.put, List.getElem_toArray, List.getElem_cons_succ, List.getElem_cons_zero, List.setIfInBounds_toArray, List.set_cons_zero, List.set_cons_succ])
            refine wpAnyH_take (i := 21) (v := .int .i64 0) rfl (by kernel_rfl) (by kernel_rfl) (by kernel_rfl) (fun _ _ _ h => h) (Or.inl ⟨by kernel_rfl, ?_⟩) (by assumption) ?_
            · intro w hSw
              (try dsimp only at hSw)
              go_simp
            (try simp only [Act.put, List.getElem_toArray, List.getElem_cons_succ, List.getElem_cons_zero, List.setIfInBounds_toArray, List.set_cons_zero, List.set_cons_succ])
            refine wpAnyH_take (i := 22) (v := .bool true) rfl (by kernel_rfl) (by kernel_rfl) (by kernel_rfl) (fun _ _ _ h => h) (Or.inl ⟨by kernel_rfl, ?_⟩) (by assumption) ?_
            · intro w hSw
              kernel_rfl
            (try simp only [Act.put, List.getElem_toArray, List.getElem_cons_succ, List.getElem_cons_zero, List.setIfInBounds_toArray, List.set_cons_zero, List.set_cons_succ])
            refine wpAnyH_ready (rs := [19]) (by kernel_rfl) (by simp) ?_
            refine AllReadyH.cons rfl (fun K hK => ?_) AllReadyH.nil
            go_simp
            go_at_call 39; refine (KY.out _ F1.out).mono ?_; rintro e v2 ⟨rfl, f2⟩; have F2 := Lib.hid (Fr.trans F1.out f2); obtain ⟨q0, q1, q2, q3, q4, q5, q6, q7, q8, q9, q10, q11, q12⟩ := HC.out v2 F2.out; clear f2
            refine hK.out _ _ ?_ (fun hHeld => ?_)
            · (try dsimp only)
              go_keep
            clear hK K
            (try simp only [Act.put, List.getElem_toArray, List.getElem_cons_succ, List.getElem_cons_zero, List.setIfInBounds_toArray, List.set_cons_zero, List.set_cons_succ])
            refine wpAnyH_take (i := 23) (v := .bool true) rfl (by kernel_rfl) (by kernel_rfl) (by kernel_rfl) (fun _ _ _ h => h) (Or.inl ⟨by kernel_rfl, ?_⟩) (by assumption) ?_
            · intro w hSw
              kernel_rfl
            (try simp only [Act.put, List.getElem_toArray, List.getElem_cons_succ, List.getElem_cons_zero, List.setIfInBounds_toArray, List.set_cons_zero, List.set_cons_succ])
            refine wpAnyH_take (i := 24) (v := .pointer (some ⟨Z, 3, none⟩)) rfl (by kernel_rfl) (by kernel_rfl) (by kernel_rfl) (fun _ _ _ h => h) (Or.inl ⟨by kernel_rfl, ?_⟩) (by assumption) ?_
            · intro w hSw
              kernel_rfl
            (try simp only [Act.put, List.getElem_toArray, List.getElem_cons_succ, List.getElem_cons_zero, List.setIfInBounds_toArray, List.set_cons_zero, List.set_cons_succ])
            refine wpAnyH_take (i := 25) (v := .int .i64 0) rfl (by kernel_rfl) (by kernel_rfl) (by kernel_rfl) (fun _ _ _ h => h) (Or.inl ⟨by kernel_rfl, ?_⟩) (by assumption) ?_
            · intro w hSw
              (try dsimp only at hSw)
              go_simp
            (try simp only [Act.put, List.getElem_toArray, List.getElem_cons_succ, List.getElem_cons_zero, List.setIfInBounds_toArray, List.set_cons_zero, List.set_cons_succ])
            refine wpAnyH_take (i := 26) (v := .bool true) rfl (by kernel_rfl) (by kernel_rfl) (by kernel_rfl) (fun _ _ _ h => h) (Or.inl ⟨by kernel_rfl, ?_⟩) (by assumption) ?_
            · intro w hSw
              kernel_rfl
            (try simp only [Act.put, List.getElem_toArray, List.getElem_cons_succ, List.getElem_cons_zero, List.setIfInBounds_toArray, List.set_cons_zero, List.set_cons_succ])
            refine wpAnyH_take (i := 27) (v := .bool true) rfl (by kernel_rfl) (by kernel_rfl) (by kernel_rfl) (fun _ _ _ h => h) (Or.inl ⟨by kernel_rfl, ?_⟩) (by assumption) ?_
            · intro w hSw
              kernel_rfl
            (try simp only [Act.put, List.getElem_toArray, List.getElem_cons_succ, List.getElem_cons_zero, List.setIfInBounds_toArray, List.set_cons_zero, List.set_cons_succ])
            refine wpAnyH_take (i := 28) (v := .bool true) rfl (by kernel_rfl) (by kernel_rfl) (by kernel_rfl) (fun _ _ _ h => h) (Or.inl ⟨by kernel_rfl, ?_⟩) (by assumption) ?_
            · intro w hSw
              kernel_rfl
            (try simp only [Act.put, List.getElem_toArray, List.getElem_cons_succ, List.getElem_cons_zero, List.setIfInBounds_toArray, List.set_cons_zero, List.set_cons_succ])
            refine wpAnyH_take (i := 29) (v := .bool true) rfl (by kernel_rfl) (by kernel_rfl) (by kernel_rfl) (fun _ _ _ h => h) (Or.inl ⟨by kernel_rfl, ?_⟩) (by assumption) ?_
            · intro w hSw
              kernel_rfl
            (try simp only [Act.put, List.getElem_toArray, List.getElem_cons_succ, List.getElem_cons_zero, List.setIfInBounds_toArray, List.set_cons_zero, List.set_cons_succ])
            refine wpAnyH_take (i := 30) (v := .bool true) rfl (by kernel_rfl) (by kernel_rfl) (by kernel_rfl) (fun _ _ _ h => h) (Or.inl ⟨by kernel_rfl, ?_⟩) (by assumption) ?_
            · intro w hSw
              kernel_rfl
            (try simp only [Act.put, List.getElem_toArray, List.getElem_cons_succ, List.getElem_cons_zero, List.setIfInBounds_toArray, List.set_cons_zero, List.set_cons_succ])
            refine wpAnyH_done (by kernel_rfl) ?_ _
            go_wp2
            go_ret
            exact ⟨rfl, Fr.trans HF.out F2.out⟩
          · have hnb : (n == 0) = false := beq_false_of_ne hn
            have e1 : inB true 0 n [0, 0, 0] = false := by simp [inB]
            have e2 : inB false 0 n P = false := by (simp [inB, hn]; done)
            have HC := Lib.hid (fun v (f : Fr ud v) => (show v.cell? ⟨Z, 1, none⟩ = some (.bool true) ∧ v.cell? ⟨Z, 2, none⟩ = some (.int .i64 0) ∧ v.cell? ⟨Z, 3, none⟩ = some (.int .i64 n) ∧ v.cell? ⟨A, 0, none⟩ = some (.bool r) ∧ v.cell? ⟨A, 1, none⟩ = some (.bool true) ∧ v.cell? ⟨A, 2, none⟩ = some (.int .i64 0) ∧ v.cell? ⟨A, 3, none⟩ = some (.int .i64 n) ∧ v.cell? ⟨A, 4, none⟩ = some (.slice (some ⟨g3, 0, none⟩) 3 3) ∧ v.cell? ⟨D, 0, none⟩ = some (.bool r) ∧ v.cell? ⟨D, 1, none⟩ = some (.bool false) ∧ v.cell? ⟨D, 2, none⟩ = some (.int .i64 0) ∧ v.cell? ⟨D, 3, none⟩ = some (.int .i64 n) ∧ v.cell? ⟨D, 4, none⟩ = some (.slice aP P.length cP) from ⟨(HZ.out.fr f).c1, (HZ.out.fr f).c2, (HZ.out.fr f).c3, (HA.out.fr f).c0, (HA.out.fr f).c1, (HA.out.fr f).c2, (HA.out.fr f).c3, (HA.out.fr f).c4, (HD.out.fr f).c0, (HD.out.fr f).c1, (HD.out.fr f).c2, (HD.out.fr f).c3, (HD.out.fr f).c4⟩))
            have KX := Lib.hid (fun v (f : Fr ud v) => e1 ▸ impl_InOk r true 0 n [0, 0, 0] (some ⟨g3, 0, none⟩) 3 v (H3.out.fr f) (by decide))
            have KY := Lib.hid (fun v (f : Fr ud v) => e2 ▸ impl_InOk r false 0 n P aP cP v (HS.out.fr f) HP.out)
            obtain ⟨z0, z1, z2, z3, z4, z5, z6, z7, z8, z9, z10, z11, z12⟩ := HC.out ud (Below.refl _ _)
            clear e1 e2
            refine wp_region_held_drew (S := fun v => v.cell? ⟨Z, 1, none⟩ = some (.bool true) ∧ v.cell? ⟨Z, 2, none⟩ = some (.int .i64 0) ∧ v.cell? ⟨Z, 3, none⟩ = some (.int .i64 n) ∧ v.cell? ⟨A, 0, none⟩ = some (.bool r) ∧ v.cell? ⟨A, 1, none⟩ = some (.bool true) ∧ v.cell? ⟨A, 2, none⟩ = some (.int .i64 0) ∧ v.cell? ⟨A, 3, none⟩ = some (.int .i64 n) ∧ v.cell? ⟨A, 4, none⟩ = some (.slice (some ⟨g3, 0, none⟩) 3 3) ∧ v.cell? ⟨D, 0, none⟩ = some (.bool r) ∧ v.cell? ⟨D, 1, none⟩ = some (.bool false) ∧ v.cell? ⟨D, 2, none⟩ = some (.int .i64 0) ∧ v.cell? ⟨D, 3, none⟩ = some (.int .i64 n) ∧ v.cell? ⟨D, 4, none⟩ = some (.slice aP P.length cP)) (by kernel_rfl) ?_ (fun hHeld => ?_)
            · (try dsimp only)
              go_keep
            refine wpAnyH_take (i := 0) (v := .agg #[.bool r, .bool true, .int .i64 0, .int .i64 n, .slice (some ⟨g3, 0, none⟩) 3 3]) rfl (by kernel_rfl) (by kernel_rfl) (by kernel_rfl) (fun _ _ _ h => h) (Or.inl ⟨by kernel_rfl, ?_⟩) (by assumption) ?_
            · intro w hSw
              (try dsimp only at hSw)
              go_simp
            (try simp only [Act.put, List.getElem_toArray, List.getElem_cons_succ, List.getElem_cons_zero, List.setIfInBounds_toArray, List.set_cons_zero, List.set_cons_succ])
            refine wpAnyH_ready (rs := [1]) (by kernel_rfl) (by simp) ?_
            refine AllReadyH.cons rfl (fun K hK => ?_) AllReadyH.nil
            go_simp
            go_at_call 39; refine (KX.out _ (Below.drew (Below.refl _ _))).mono ?_; rintro e v1 ⟨rfl, f1⟩; have F1 := Lib.hid (show Fr ud v1 from Fr.trans (Below.drew (Below.refl _ _)) f1); obtain ⟨p0, p1, p2, p3, p4, p5, p6, p7, p8, p9, p10, p11, p12⟩ := HC.out v1 F1.out; clear f1
            refine hK.out _ _ ?_ (fun hHeld => ?_)
            · (try dsimp only)
              go_keep
            clear hK K
            (try simp only [Act.put, List.getElem_toArray, List.getElem_cons_succ, List.getElem_cons_zero, List.setIfInBounds_toArray, List.set_cons_zero, List.set_cons_succ])
            refine wpAnyH_take (i := 2) (v := .bool true) rfl (by kernel_rfl) (by kernel_rfl) (by kernel_rfl) (fun _ _ _ h => h) (Or.inl ⟨by kernel_rfl, ?_⟩) (by assumption) ?_
            · intro w hSw
              kernel_rfl
            (try simp only [Act.put, List.getElem_toArray, List.getElem_cons_succ, List.getElem_cons_zero, List.setIfInBounds_toArray, List.set_cons_zero, List.set_cons_succ])
            refine wpAnyH_take (i := 3) (v := .bool true) rfl (by kernel_rfl) (by kernel_rfl) (by kernel_rfl) (fun _ _ _ h => h) (Or.inl ⟨by kernel_rfl, ?_⟩) (by assumption) ?_
            · intro w hSw
              kernel_rfl
            (try simp only [Act.put, List.getElem_toArray, List.getElem_cons_succ, List.getElem_cons_zero, List.setIfInBounds_toArray, List.set_cons_zero, List.set_cons_succ])
            refine wpAnyH_take (i := 4) (v := .pointer (some ⟨Z, 1, none⟩)) rfl (by kernel_rfl) (by kernel_rfl) (by kernel_rfl) (fun _ _ _ h => h) (Or.inl ⟨by kernel_rfl, ?_⟩) (by assumption) ?_
            · intro w hSw
              kernel_rfl
            (try simp only [Act.put, List.getElem_toArray, List.getElem_cons_succ, List.getElem_cons_zero, List.setIfInBounds_toArray, List.set_cons_zero, List.set_cons_succ])
            refine wpAnyH_take (i := 5) (v := .bool true) rfl (by kernel_rfl) (by kernel_rfl) (by kernel_rfl) (fun _ _ _ h => h) (Or.inl ⟨by kernel_rfl, ?_⟩) (by assumption) ?_
            · intro w hSw
              (try dsimp only at hSw)
              go_simp
            (try simp only [Act.put, List.getElem_toArray, List.getElem_cons_succ, List.getElem_cons_zero, List.setIfInBounds_toArray, List.set_cons_zero, List.set_cons_succ])
            refine wpAnyH_take (i := 6) (v := .bool true) rfl (by kernel_rfl) (by kernel_rfl) (by kernel_rfl) (fun _ _ _ h => h) (Or.inl ⟨by kernel_rfl, ?_⟩) (by assumption) ?_
            · intro w hSw
              kernel_rfl
            (try simp only [Act.put, List.getElem_toArray, List.getElem_cons_succ, List.getElem_cons_zero, List.setIfInBounds_toArray, List.set_cons_zero, List.set_cons_succ])
            refine wpAnyH_take (i := 7) (v := undef) rfl (by kernel_rfl) (by kernel_rfl) (by kernel_rfl) (fun _ _ _ h => h) (Or.inr ⟨by kernel_rfl, rfl⟩) (by assumption) ?_
            (try simp only [Act.put, List.getElem_toArray, List.getElem_cons_succ, List.getElem_cons_zero, List.setIfInBounds_toArray, List.set_cons_zero, List.set_cons_succ])
            refine wpAnyH_take (i := 8) (v := undef) rfl (by kernel_rfl) (by kernel_rfl) (by kernel_rfl) (fun _ _ _ h => h) (Or.inr ⟨by kernel_rfl, rfl⟩) (by assumption) ?_
            (try simp only [Act.put, List.getElem_toArray, List.getElem_cons_succ, List.getElem_cons_zero, List.setIfInBounds_toArray, List.set_cons_zero, List.set_cons_succ])
            refine wpAnyH_take (i := 9) (v := undef) rfl (by kernel_rfl) (by kernel_rfl) (by kernel_rfl) (fun _ _ _ h => h) (Or.inr ⟨by kernel_rfl, rfl⟩) (by assumption) ?_
            (try simp only [Act.put, List.getElem_toArray, List.getElem_cons_succ, List.getElem_cons_zero, List.setIfInBounds_toArray, List.set_cons_zero, List.set_cons_succ])
            refine wpAnyH_take (i := 10) (v := undef) rfl (by kernel_rfl) (by kernel_rfl) (by kernel_rfl) (fun _ _ _ h => h) (Or.inr ⟨by kernel_rfl, rfl⟩) (by assumption) ?_
            (try simp only [Act.put, List.getElem_toArray, List.getElem_cons_succ, List.getElem_cons_zero, List.setIfInBounds_toArray, List.set_cons_zero, List.set_cons_succ])
            refine wpAnyH_take (i := 11) (v := undef) rfl (by kernel_rfl) (by kernel_rfl) (by kernel_rfl) (fun _ _ _ h => h) (Or.inr ⟨by kernel_rfl, rfl⟩) (by assumption) ?_
            (try simp only [Act.put, List.getElem_toArray, List.getElem_cons_succ, List.getElem_cons_zero, List.setIfInBounds_toArray, List.set_cons_zero, List.set_cons_succ])
            refine wpAnyH_take (i := 12) (v := undef) rfl (by kernel_rfl) (by kernel_rfl) (by kernel_rfl) (fun _ _ _ h => h) (Or.inr ⟨by kernel_rfl, rfl⟩) (by assumption) ?_
            (try simp only [Act.put, List.getElem_toArray, List.getElem_cons_succ, List.getElem_cons_zero, List.setIfInBounds_toArray, List.set_cons_zero, List.set_cons_succ])
            refine wpAnyH_take (i := 13) (v := undef) rfl (by kernel_rfl) (by kernel_rfl) (by kernel_rfl) (fun _ _ _ h => h) (Or.inr ⟨by kernel_rfl, rfl⟩) (by assumption) ?_
            (try simp only [Act.put, List.getElem_toArray, List.getElem_cons_succ, List.getElem_cons_zero, List.setIfInBounds_toArray, List.set_cons_zero, List.set_cons_succ])
            refine wpAnyH_take (i := 14) (v := undef) rfl (by kernel_rfl) (by kernel_rfl) (by kernel_rfl) (fun _ _ _ h => h) (Or.inr ⟨by kernel_rfl, rfl⟩) (by assumption) ?_
            (try simp only [Act.put, List.getElem_toArray, List.getElem_cons_succ, List.getElem_cons_zero, List.setIfInBounds_toArray, List.set_cons_zero, List.set_cons_succ])
            refine wpAnyH_take (i := 15) (v := .bool true) rfl (by kernel_rfl) (by kernel_rfl) (by kernel_rfl) (fun _ _ _ h => h) (Or.inl ⟨by kernel_rfl, ?_⟩) (by assumption) ?_
            · intro w hSw
              kernel_rfl
            (try simp only [Act.put, List.getElem_toArray, List.getElem_cons_succ, List.getElem_cons_zero, List.setIfInBounds_toArray, List.set_cons_zero, List.set_cons_succ])
            refine wpAnyH_take (i := 16) (v := .bool true) rfl (by kernel_rfl) (by kernel_rfl) (by kernel_rfl) (fun _ _ _ h => h) (Or.inl ⟨by kernel_rfl, ?_⟩) (by assumption) ?_
            · intro w hSw
              kernel_rfl
            (try simp only [Act.put, List.getElem_toArray, List.getElem_cons_succ, List.getElem_cons_zero, List.setIfInBounds_toArray, List.set_cons_zero, List.set_cons_succ])
            refine wpAnyH_take (i := 17) (v := .bool true) rfl (by kernel_rfl) (by kernel_rfl) (by kernel_rfl) (fun _ _ _ h => h) (Or.inl ⟨by kernel_rfl, ?_⟩) (by assumption) ?_
            · intro w hSw
              kernel_rfl
            (try simp only [Act.put, List.getElem_toArray, List.getElem_cons_succ, List.getElem_cons_zero, List.setIfInBounds_toArray, List.set_cons_zero, List.set_cons_succ])
            refine wpAnyH_take (i := 18) (v := .agg #[.bool r, .bool false, .int .i64 0, .int .i64 n, .slice aP P.length cP]) rfl (by kernel_rfl) (by kernel_rfl) (by kernel_rfl) (fun _ _ _ h => h) (Or.inl ⟨by kernel_rfl, ?_⟩) (by assumption) ?_
            · intro w hSw
              (try dsimp only at hSw)
              go_simp
            (try simp only [Act.put, List.getElem_toArray, List.getElem_cons_succ, List.getElem_cons_zero, List.setIfInBounds_toArray, List.set_cons_zero, List.set_cons_succ])
            refine wpAnyH_take (i := 20) (v := .pointer (some ⟨Z, 2, none⟩)) rfl (by kernel_rfl) (by kernel_rfl) (by kernel_rfl) (fun _ _ _ h => h) (Or.inl ⟨by kernel_rfl, ?_⟩) (by assumption) ?_
            · intro w hSw
              kernel_rfl
            (try simp only [Act.put, List.getElem_toArray, List.getElem_cons_succ, List.getElem_cons_zero, List.setIfInBounds_toArray, List.set_cons_zero, List.set_cons_succ])
            refine wpAnyH_take (i := 21) (v := .int .i64 0) rfl (by kernel_rfl) (by kernel_rfl) (by kernel_rfl) (fun _ _ _ h => h) (Or.inl ⟨by kernel_rfl, ?_⟩) (by assumption) ?_
            · intro w hSw
              (try dsimp only at hSw)
              go_simp
            (try simp only [Act.put, List.getElem_toArray, List.getElem_cons_succ, List.getElem_cons_zero, List.setIfInBounds_toArray, List.set_cons_zero, List.set_cons_succ])
            refine wpAnyH_take (i := 22) (v := .bool true) rfl (by kernel_rfl) (by kernel_rfl) (by kernel_rfl) (fun _ _ _ h => h) (Or.inl ⟨by kernel_rfl, ?_⟩) (by assumption) ?_
            · intro w hSw
              kernel_rfl
            (try simp only [Act.put, List.getElem_toArray, List.getElem_cons_succ, List.getElem_cons_zero, List.setIfInBounds_toArray, List.set_cons_zero, List.set_cons_succ])
            refine wpAnyH_ready (rs := [19]) (by kernel_rfl) (by simp) ?_
            refine AllReadyH.cons rfl (fun K hK => ?_) AllReadyH.nil
            go_simp
            go_at_call 39; refine (KY.out _ F1.out).mono ?_; rintro e v2 ⟨rfl, f2⟩; have F2 := Lib.hid (Fr.trans F1.out f2); obtain ⟨q0, q1, q2, q3, q4, q5, q6, q7, q8, q9, q10, q11, q12⟩ := HC.out v2 F2.out; clear f2
            refine hK.out _ _ ?_ (fun hHeld => ?_)
            · (try dsimp only)
              go_keep
            clear hK K
            (try simp only [Act.put, List.getElem_toArray, List.getElem_cons_succ, List.getElem_cons_zero, List.setIfInBounds_toArray, List.set_cons_zero, List.set_cons_succ])
            refine wpAnyH_take (i := 23) (v := .bool true) rfl (by kernel_rfl) (by kernel_rfl) (by kernel_rfl) (fun _ _ _ h => h) (Or.inl ⟨by kernel_rfl, ?_⟩) (by assumption) ?_
            · intro w hSw
              kernel_rfl
            (try simp only [Act.put, List.getElem_toArray, List.getElem_cons_succ, List.getElem_cons_zero, List.setIfInBounds_toArray, List.set_cons_zero, List.set_cons_succ])
            refine wpAnyH_take (i := 24) (v := .pointer (some ⟨Z, 3, none⟩)) rfl (by kernel_rfl) (by kernel_rfl) (by kernel_rfl) (fun _ _ _ h => h) (Or.inl ⟨by kernel_rfl, ?_⟩) (by assumption) ?_
            · intro w hSw
              kernel_rfl
            (try simp only [Act.put, List.getElem_toArray, List.getElem_cons_succ, List.getElem_cons_zero, List.setIfInBounds_toArray, List.set_cons_zero, List.set_cons_succ])
            refine wpAnyH_take (i := 25) (v := .int .i64 n) rfl (by kernel_rfl) (by kernel_rfl) (by kernel_rfl) (fun _ _ _ h => h) (Or.inl ⟨by kernel_rfl, ?_⟩) (by assumption) ?_
            · intro w hSw
              (try dsimp only at hSw)
              go_simp
            (try simp only [Act.put, List.getElem_toArray, List.getElem_cons_succ, List.getElem_cons_zero, List.setIfInBounds_toArray, List.set_cons_zero, List.set_cons_succ])
            refine wpAnyH_take (i := 26) (v := .bool false) rfl (by kernel_rfl) (by kernel_rfl) (by kernel_rfl) (fun _ _ _ h => h) (Or.inl ⟨by kernel_rfl, ?_⟩) (by assumption) ?_
            · intro w hSw
              (try dsimp only at hSw)
              go_simp
            (try simp only [Act.put, List.getElem_toArray, List.getElem_cons_succ, List.getElem_cons_zero, List.setIfInBounds_toArray, List.set_cons_zero, List.set_cons_succ])
            refine wpAnyH_take (i := 27) (v := .bool false) rfl (by kernel_rfl) (by kernel_rfl) (by kernel_rfl) (fun _ _ _ h => h) (Or.inl ⟨by kernel_rfl, ?_⟩) (by assumption) ?_
            · intro w hSw
              kernel_rfl
            (try simp only [Act.put, List.getElem_toArray, List.getElem_cons_succ, List.getElem_cons_zero, List.setIfInBounds_toArray, List.set_cons_zero, List.set_cons_succ])
            refine wpAnyH_take (i := 28) (v := .bool true) rfl (by kernel_rfl) (by kernel_rfl) (by kernel_rfl) (fun _ _ _ h => h) (Or.inl ⟨by kernel_rfl, ?_⟩) (by assumption) ?_
            · intro w hSw
              kernel_rfl
            (try simp only [Act.put, List.getElem_toArray, List.getElem_cons_succ, List.getElem_cons_zero, List.setIfInBounds_toArray, List.set_cons_zero, List.set_cons_succ])
            refine wpAnyH_take (i := 29) (v := .bool true) rfl (by kernel_rfl) (by kernel_rfl) (by kernel_rfl) (fun _ _ _ h => h) (Or.inl ⟨by kernel_rfl, ?_⟩) (by assumption) ?_
            · intro w hSw
              kernel_rfl
            (try simp only [Act.put, List.getElem_toArray, List.getElem_cons_succ, List.getElem_cons_zero, List.setIfInBounds_toArray, List.set_cons_zero, List.set_cons_succ])
            refine wpAnyH_take (i := 30) (v := .bool true) rfl (by kernel_rfl) (by kernel_rfl) (by kernel_rfl) (fun _ _ _ h => h) (Or.inl ⟨by kernel_rfl, ?_⟩) (by assumption) ?_
            · intro w hSw
              kernel_rfl
            (try simp only [Act.put, List.getElem_toArray, List.getElem_cons_succ, List.getElem_cons_zero, List.setIfInBounds_toArray, List.set_cons_zero, List.set_cons_succ])
            refine wpAnyH_done (by kernel_rfl) ?_ _
            go_wp2
            go_ret
            exact ⟨rfl, Fr.trans HF.out F2.out⟩
        · have hab : (a == 0) = false := beq_false_of_ne ha
          by_cases hn : n = 0
          · subst hn
            have e1 : inB true a 0 [0, 0, 0] = false := by simp [inB]
            have e2 : inB false a 0 P = false := by (simp [inB, ha]; done)
            have HC := Lib.hid (fun v (f : Fr ud v) => (show v.cell? ⟨Z, 1, none⟩ = some (.bool true) ∧ v.cell? ⟨Z, 2, none⟩ = some (.int .i64 a) ∧ v.cell? ⟨Z, 3, none⟩ = some (.int .i64 0) ∧ v.cell? ⟨A, 0, none⟩ = some (.bool r) ∧ v.cell? ⟨A, 1, none⟩ = some (.bool true) ∧ v.cell? ⟨A, 2, none⟩ = some (.int .i64 a) ∧ v.cell? ⟨A, 3, none⟩ = some (.int .i64 0) ∧ v.cell? ⟨A, 4, none⟩ = some (.slice (some ⟨g3, 0, none⟩) 3 3) ∧ v.cell? ⟨D, 0, none⟩ = some (.bool r) ∧ v.cell? ⟨D, 1, none⟩ = some (.bool false) ∧ v.cell? ⟨D, 2, none⟩ = some (.int .i64 a) ∧ v.cell? ⟨D, 3, none⟩ = some (.int .i64 0) ∧ v.cell? ⟨D, 4, none⟩ = some (.slice aP P.length cP) from ⟨(HZ.out.fr f).c1, (HZ.out.fr f).c2, (HZ.out.fr f).c3, (HA.out.fr f).c0, (HA.out.fr f).c1, (HA.out.fr f).c2, (HA.out.fr f).c3, (HA.out.fr f).c4, (HD.out.fr f).c0, (HD.out.fr f).c1, (HD.out.fr f).c2, (HD.out.fr f).c3, (HD.out.fr f).c4⟩))
            have KX := Lib.hid (fun v (f : Fr ud v) => e1 ▸ impl_InOk r true a 0 [0, 0, 0] (some ⟨g3, 0, none⟩) 3 v (H3.out.fr f) (by decide))
            have KY := Lib.hid (fun v (f : Fr ud v) => e2 ▸ impl_InOk r false a 0 P aP cP v (HS.out.fr f) HP.out)
            obtain ⟨z0, z1, z2, z3, z4, z5, z6, z7, z8, z9, z10, z11, z12⟩ := HC.out ud (Below.refl _ _)
            clear e1 e2
            refine wp_region_held_drew (S := fun v => v.cell? ⟨Z, 1, none⟩ = some (.bool true) ∧ v.cell? ⟨Z, 2, none⟩ = some (.int .i64 a) ∧ v.cell? ⟨Z, 3, none⟩ = some (.int .i64 0) ∧ v.cell? ⟨A, 0, none⟩ = some (.bool r) ∧ v.cell? ⟨A, 1, none⟩ = some (.bool true) ∧ v.cell? ⟨A, 2, none⟩ = some (.int .i64 a) ∧ v.cell? ⟨A, 3, none⟩ = some (.int .i64 0) ∧ v.cell? ⟨A, 4, none⟩ = some (.slice (some ⟨g3, 0, none⟩) 3 3) ∧ v.cell? ⟨D, 0, none⟩ = some (.bool r) ∧ v.cell? ⟨D, 1, none⟩ = some (.bool false) ∧ v.cell? ⟨D, 2, none⟩ = some (.int .i64 a) ∧ v.cell? ⟨D, 3, none⟩ = some (.int .i64 0) ∧ v.cell? ⟨D, 4, none⟩ = some (.slice aP P.length cP)) (by kernel_rfl) ?_ (fun hHeld => ?_)
            · (try dsimp only)
              go_keep
            refine wpAnyH_take (i := 0) (v := .agg #[.bool r, .bool true, .int .i64 a, .int .i64 0, .slice (some ⟨g3, 0, none⟩) 3 3]) rfl (by kernel_rfl) (by kernel_rfl) (by kernel_rfl) (fun _ _ _ h => h) (Or.inl ⟨by kernel_rfl, ?_⟩) (by assumption) ?_
            · intro w hSw
              (try dsimp only at hSw)
              go_simp
            (try simp only [Act.put, List.getElem_toArray, List.getElem_cons_succ, List.getElem_cons_zero, List.setIfInBounds_toArray, List.set_cons_zero, List.set_cons_succ])
            refine wpAnyH_ready (rs := [1]) (by kernel_rfl) (by simp) ?_
            refine AllReadyH.cons rfl (fun K hK => ?_) AllReadyH.nil
            go_simp
            go_at_call 39; refine (KX.out _ (Below.drew (Below.refl _ _))).mono ?_; rintro e v1 ⟨rfl, f1⟩; have F1 := Lib.hid (show Fr ud v1 from Fr.trans (Below.drew (Below.refl _ _)) f1); obtain ⟨p0, p1, p2, p3, p4, p5, p6, p7, p8, p9, p10, p11, p12⟩ := HC.out v1 F1.out; clear f1
            refine hK.out _ _ ?_ (fun hHeld => ?_)
            · (try dsimp only)
              go_keep
            clear hK K
            (try simp only [Act.put, List.getElem_toArray, List.getElem_cons_succ, List.getElem_cons_zero, List.setIfInBounds_toArray, List.set_cons_zero, List.set_cons_succ])
            refine wpAnyH_take (i := 2) (v := .bool true) rfl (by kernel_rfl) (by kernel_rfl) (by kernel_rfl) (fun _ _ _ h => h) (Or.inl ⟨by kernel_rfl, ?_⟩) (by assumption) ?_
            · intro w hSw
              kernel_rfl
            (try simp only [Act.put, List.getElem_toArray, List.getElem_cons_succ, List.getElem_cons_zero, List.setIfInBounds_toArray, List.set_cons_zero, List.set_cons_succ])
            refine wpAnyH_take (i := 3) (v := .bool true) rfl (by kernel_rfl) (by kernel_rfl) (by kernel_rfl) (fun _ _ _ h => h) (Or.inl ⟨by kernel_rfl, ?_⟩) (by assumption) ?_
            · intro w hSw
              kernel_rfl
            (try simp only [Act.put, List.getElem_toArray, List.getElem_cons_succ, List.getElem_cons_zero, List.setIfInBounds_toArray, List.set_cons_zero, List.set_cons_succ])
            refine wpAnyH_take (i := 4) (v := .pointer (some ⟨Z, 1, none⟩)) rfl (by kernel_rfl) (by kernel_rfl) (by kernel_rfl) (fun _ _ _ h => h) (Or.inl ⟨by kernel_rfl, ?_⟩) (by assumption) ?_
            · intro w hSw
              kernel_rfl
            (try simp only [Act.put, List.getElem_toArray, List.getElem_cons_succ, List.getElem_cons_zero, List.setIfInBounds_toArray, List.set_cons_zero, List.set_cons_succ])
            refine wpAnyH_take (i := 5) (v := .bool true) rfl (by kernel_rfl) (by kernel_rfl) (by kernel_rfl) (fun _ _ _ h => h) (Or.inl ⟨by kernel_rfl, ?_⟩) (by assumption) ?_
            · intro w hSw
              (try dsimp only at hSw)
              go_simp
            (try simp only [Act.put, List.getElem_toArray, List.getElem_cons_succ, List.getElem_cons_zero, List.setIfInBounds_toArray, List.set_cons_zero, List.set_cons_succ])
            refine wpAnyH_take (i := 6) (v := .bool true) rfl (by kernel_rfl) (by kernel_rfl) (by kernel_rfl) (fun _ _ _ h => h) (Or.inl ⟨by kernel_rfl, ?_⟩) (by assumption) ?_
            · intro w hSw
              kernel_rfl
            (try simp only [Act.put, List.getElem_toArray, List.getElem_cons_succ, List.getElem_cons_zero, List.setIfInBounds_toArray, List.set_cons_zero, List.set_cons_succ])
            refine wpAnyH_take (i := 7) (v := undef) rfl (by kernel_rfl) (by kernel_rfl) (by kernel_rfl) (fun _ _ _ h => h) (Or.inr ⟨by kernel_rfl, rfl⟩) (by assumption) ?_
            (try simp only [Act.put, List.getElem_toArray, List.getElem_cons_succ, List.getElem_cons_zero, List.setIfInBounds_toArray, List.set_cons_zero, List.set_cons_succ])
            refine wpAnyH_take (i := 8) (v := undef) rfl (by kernel_rfl) (by kernel_rfl) (by kernel_rfl) (fun _ _ _ h => h) (Or.inr ⟨by kernel_rfl, rfl⟩) (by assumption) ?_
            (try simp only [Act.put, List.getElem_toArray, List.getElem_cons_succ, List.getElem_cons_zero, List.setIfInBounds_toArray, List.set_cons_zero, List.set_cons_succ])
            refine wpAnyH_take (i := 9) (v := undef) rfl (by kernel_rfl) (by kernel_rfl) (by kernel_rfl) (fun _ _ _ h => h) (Or.inr ⟨by kernel_rfl, rfl⟩) (by assumption) ?_
            (try simp only [Act.put, List.getElem_toArray, List.getElem_cons_succ, List.getElem_cons_zero, List.setIfInBounds_toArray, List.set_cons_zero, List.set_cons_succ])
            refine wpAnyH_take (i := 10) (v := undef) rfl (by kernel_rfl) (by kernel_rfl) (by kernel_rfl) (fun _ _ _ h => h) (Or.inr ⟨by kernel_rfl, rfl⟩) (by assumption) ?_
            (try simp only [Act.put, List.getElem_toArray, List.getElem_cons_succ, List.getElem_cons_zero, List.setIfInBounds_toArray, List.set_cons_zero, List.set_cons_succ])
            refine wpAnyH_take (i := 11) (v := undef) rfl (by kernel_rfl) (by kernel_rfl) (by kernel_rfl) (fun _ _ _ h => h) (Or.inr ⟨by kernel_rfl, rfl⟩) (by assumption) ?_
            (try simp only [Act.put, List.getElem_toArray, List.getElem_cons_succ, List.getElem_cons_zero, List.setIfInBounds_toArray, List.set_cons_zero, List.set_cons_succ])
            refine wpAnyH_take (i := 12) (v := undef) rfl (by kernel_rfl) (by kernel_rfl) (by kernel_rfl) (fun _ _ _ h => h) (Or.inr ⟨by kernel_rfl, rfl⟩) (by assumption) ?_
            (try simp only [Act.put, List.getElem_toArray, List.getElem_cons_succ, List.getElem_cons_zero, List.setIfInBounds_toArray, List.set_cons_zero, List.set_cons_succ])
            refine wpAnyH_take (i := 13) (v := undef) rfl (by kernel_rfl) (by kernel_rfl) (by kernel_rfl) (fun _ _ _ h => h) (Or.inr ⟨by kernel_rfl, rfl⟩) (by assumption) ?_
            (try simp only [Act.put, List.getElem_toArray, List.getElem_cons_succ, List.getElem_cons_zero, List.setIfInBounds_toArray, List.set_cons_zero, List.set_cons_succ])
            refine wpAnyH_take (i := 14) (v := undef) rfl (by kernel_rfl) (by kernel_rfl) (by kernel_rfl) (fun _ _ _ h => h) (Or.inr ⟨by kernel_rfl, rfl⟩) (by assumption) ?_
            (try simp only [Act.put, List.getElem_toArray, List.getElem_cons_succ, List.getElem_cons_zero, List.setIfInBounds_toArray, List.set_cons_zero, List.set_cons_succ])
            refine wpAnyH_take (i := 15) (v := .bool true) rfl (by kernel_rfl) (by kernel_rfl) (by kernel_rfl) (fun _ _ _ h => h) (Or.inl ⟨by kernel_rfl, ?_⟩) (by assumption) ?_
            · intro w hSw
              kernel_rfl
            (try simp only [Act.put, List.getElem_toArray, List.getElem_cons_succ, List.getElem_cons_zero, List.setIfInBounds_toArray, List.set_cons_zero, List.set_cons_succ])
            refine wpAnyH_take (i := 16) (v := .bool true) rfl (by kernel_rfl) (by kernel_rfl) (by kernel_rfl) (fun _ _ _ h => h) (Or.inl ⟨by kernel_rfl, ?_⟩) (by assumption) ?_
            · intro w hSw
              kernel_rfl
            (try simp only [Act.put, List.getElem_toArray, List.getElem_cons_succ, List.getElem_cons_zero, List.setIfInBounds_toArray, List.set_cons_zero, List.set_cons_succ])
            refine wpAnyH_take (i := 17) (v := .bool true) rfl (by kernel_rfl) (by kernel_rfl) (by kernel_rfl) (fun _ _ _ h => h) (Or.inl ⟨by kernel_rfl, ?_⟩) (by assumption) ?_
            · intro w hSw
              kernel_rfl
            (try simp only [Act.put, List.getElem_toArray, List.getElem_cons_succ, List.getElem_cons_zero, List.setIfInBounds_toArray, List.set_cons_zero, List.set_cons_succ])
            refine wpAnyH_take (i := 18) (v := .agg #[.bool r, .bool false, .int .i64 a, .int .i64 0, .slice aP P.length cP]) rfl (by kernel_rfl) (by kernel_rfl) (by kernel_rfl) (fun _ _ _ h => h) (Or.inl ⟨by kernel_rfl, ?_⟩) (by assumption) ?_
            · intro w hSw
              (try dsimp only at hSw)
              go_simp
            (try simp only [Act.put, List.getElem_toArray, List.getElem_cons_succ, List.getElem_cons_zero, List.setIfInBounds_toArray, List.set_cons_zero, List.set_cons_succ])
            refine wpAnyH_take (i := 20) (v := .pointer (some ⟨Z, 2, none⟩)) rfl (by kernel_rfl) (by kernel_rfl) (by kernel_rfl) (fun _ _ _ h => h) (Or.inl ⟨by kernel_rfl, ?_⟩) (by assumption) ?_
            · intro w hSw
              kernel_rfl
            (try simp only [Act.put, List.getElem_toArray, List.getElem_cons_succ, List.getElem_cons_zero, List.setIfInBounds_toArray, List.set_cons_zero, List.set_cons_succ])
            refine wpAnyH_take (i := 21) (v := .int .i64 a) rfl (by kernel_rfl) (by kernel_rfl) (by kernel_rfl) (fun _ _ _ h => h) (Or.inl ⟨by kernel_rfl, ?_⟩) (by assumption) ?_
            · intro w hSw
              (try dsimp only at hSw)
              go_simp
            (try simp only [Act.put, List.getElem_toArray, List.getElem_cons_succ, List.getElem_cons_zero, List.setIfInBounds_toArray, List.set_cons_zero, List.set_cons_succ])
            refine wpAnyH_take (i := 22) (v := .bool false) rfl (by kernel_rfl) (by kernel_rfl) (by kernel_rfl) (fun _ _ _ h => h) (Or.inl ⟨by kernel_rfl, ?_⟩) (by assumption) ?_
            · intro w hSw
              (try dsimp only at hSw)
              go_simp
            (try simp only [Act.put, List.getElem_toArray, List.getElem_cons_succ, List.getElem_cons_zero, List.setIfInBounds_toArray, List.set_cons_zero, List.set_cons_succ])
            refine wpAnyH_ready (rs := [19]) (by kernel_rfl) (by simp) ?_
            refine AllReadyH.cons rfl (fun K hK => ?_) AllReadyH.nil
            go_simp
            go_at_call 39; refine (KY.out _ F1.out).mono ?_; rintro e v2 ⟨rfl, f2⟩; have F2 := Lib.hid (Fr.trans F1.out f2); obtain ⟨q0, q1, q2, q3, q4, q5, q6, q7, q8, q9, q10, q11, q12⟩ := HC.out v2 F2.out; clear f2
            refine hK.out _ _ ?_ (fun hHeld => ?_)
            · (try dsimp only)
              go_keep
            clear hK K
            (try simp only [Act.put, List.getElem_toArray, List.getElem_cons_succ, List.getElem_cons_zero, List.setIfInBounds_toArray, List.set_cons_zero, List.set_cons_succ])
            refine wpAnyH_take (i := 23) (v := .bool false) rfl (by kernel_rfl) (by kernel_rfl) (by kernel_rfl) (fun _ _ _ h => h) (Or.inl ⟨by kernel_rfl, ?_⟩) (by assumption) ?_
            · intro w hSw
              kernel_rfl
            (try simp only [Act.put, List.getElem_toArray, List.getElem_cons_succ, List.getElem_cons_zero, List.setIfInBounds_toArray, List.set_cons_zero, List.set_cons_succ])
            refine wpAnyH_take (i := 24) (v := undef) rfl (by kernel_rfl) (by kernel_rfl) (by kernel_rfl) (fun _ _ _ h => h) (Or.inr ⟨by kernel_rfl, rfl⟩) (by assumption) ?_
            (try simp only [Act.put, List.getElem_toArray, List.getElem_cons_succ, List.getElem_cons_zero, List.setIfInBounds_toArray, List.set_cons_zero, List.set_cons_succ])
            refine wpAnyH_take (i := 25) (v := undef) rfl (by kernel_rfl) (by kernel_rfl) (by kernel_rfl) (fun _ _ _ h => h) (Or.inr ⟨by kernel_rfl, rfl⟩) (by assumption) ?_
            (try simp only [Act.put, List.getElem_toArray, List.getElem_cons_succ, List.getElem_cons_zero, List.setIfInBounds_toArray, List.set_cons_zero, List.set_cons_succ])
            refine wpAnyH_take (i := 26) (v := undef) rfl (by kernel_rfl) (by kernel_rfl) (by kernel_rfl) (fun _ _ _ h => h) (Or.inr ⟨by kernel_rfl, rfl⟩) (by assumption) ?_
            (try simp only [Act.put, List.getElem_toArray, List.getElem_cons_succ, List.getElem_cons_zero, List.setIfInBounds_toArray, List.set_cons_zero, List.set_cons_succ])
            refine wpAnyH_take (i := 27) (v := .bool false) rfl (by kernel_rfl) (by kernel_rfl) (by kernel_rfl) (fun _ _ _ h => h) (Or.inl ⟨by kernel_rfl, ?_⟩) (by assumption) ?_
            · intro w hSw
              kernel_rfl
            (try simp only [Act.put, List.getElem_toArray, List.getElem_cons_succ, List.getElem_cons_zero, List.setIfInBounds_toArray, List.set_cons_zero, List.set_cons_succ])
            refine wpAnyH_take (i := 28) (v := .bool true) rfl (by kernel_rfl) (by kernel_rfl) (by kernel_rfl) (fun _ _ _ h => h) (Or.inl ⟨by kernel_rfl, ?_⟩) (by assumption) ?_
            · intro w hSw
              kernel_rfl
            (try simp only [Act.put, List.getElem_toArray, List.getElem_cons_succ, List.getElem_cons_zero, List.setIfInBounds_toArray, List.set_cons_zero, List.set_cons_succ])
            refine wpAnyH_take (i := 29) (v := .bool true) rfl (by kernel_rfl) (by kernel_rfl) (by kernel_rfl) (fun _ _ _ h => h) (Or.inl ⟨by kernel_rfl, ?_⟩) (by assumption) ?_
            · intro w hSw
              kernel_rfl
            (try simp only [Act.put, List.getElem_toArray, List.getElem_cons_succ, List.getElem_cons_zero, List.setIfInBounds_toArray, List.set_cons_zero, List.set_cons_succ])
            refine wpAnyH_take (i := 30) (v := .bool true) rfl (by kernel_rfl) (by kernel_rfl) (by kernel_rfl) (fun _ _ _ h => h) (Or.inl ⟨by kernel_rfl, ?_⟩) (by assumption) ?_
            · intro w hSw
              kernel_rfl
            (try simp only [Act.put, List.getElem_toArray, List.getElem_cons_succ, List.getElem_cons_zero, List.setIfInBounds_toArray, List.set_cons_zero, List.set_cons_succ])
            refine wpAnyH_done (by kernel_rfl) ?_ _
            go_wp2
            go_ret
            exact ⟨rfl, Fr.trans HF.out F2.out⟩
          · have hnb : (n == 0) = false := beq_false_of_ne hn
            have e1 : inB true a n [0, 0, 0] = false := by simp [inB]
            have e2 : inB false a n P = false := by (simp [inB, ha]; done)
            have HC := Lib.hid (fun v (f : Fr ud v) => (show v.cell? ⟨Z, 1, none⟩ = some (.bool true) ∧ v.cell? ⟨Z, 2, none⟩ = some (.int .i64 a) ∧ v.cell? ⟨Z, 3, none⟩ = some (.int .i64 n) ∧ v.cell? ⟨A, 0, none⟩ = some (.bool r) ∧ v.cell? ⟨A, 1, none⟩ = some (.bool true) ∧ v.cell? ⟨A, 2, none⟩ = some (.int .i64 a) ∧ v.cell? ⟨A, 3, none⟩ = some (.int .i64 n) ∧ v.cell? ⟨A, 4, none⟩ = some (.slice (some ⟨g3, 0, none⟩) 3 3) ∧ v.cell? ⟨D, 0, none⟩ = some (.bool r) ∧ v.cell? ⟨D, 1, none⟩ = some (.bool false) ∧ v.cell? ⟨D, 2, none⟩ = some (.int .i64 a) ∧ v.cell? ⟨D, 3, none⟩ = some (.int .i64 n) ∧ v.cell? ⟨D, 4, none⟩ = some (.slice aP P.length cP) from ⟨(HZ.out.fr f).c1, (HZ.out.fr f).c2, (HZ.out.fr f).c3, (HA.out.fr f).c0, (HA.out.fr f).c1, (HA.out.fr f).c2, (HA.out.fr f).c3, (HA.out.fr f).c4, (HD.out.fr f).c0, (HD.out.fr f).c1, (HD.out.fr f).c2, (HD.out.fr f).c3, (HD.out.fr f).c4⟩))
            have KX := Lib.hid (fun v (f : Fr ud v) => e1 ▸ impl_InOk r true a n [0, 0, 0] (some ⟨g3, 0, none⟩) 3 v (H3.out.fr f) (by decide))
            have KY := Lib.hid (fun v (f : Fr ud v) => e2 ▸ impl_InOk r false a n P aP cP v (HS.out.fr f) HP.out)
            obtain ⟨z0, z1, z2, z3, z4, z5, z6, z7, z8, z9, z10, z11, z12⟩ := HC.out ud (Below.refl _ _)
            clear e1 e2
            refine wp_region_held_drew (S := fun v => v.cell? ⟨Z, 1, none⟩ = some (.bool true) ∧ v.cell? ⟨Z, 2, none⟩ = some (.int .i64 a) ∧ v.cell? ⟨Z, 3, none⟩ = some (.int .i64 n) ∧ v.cell? ⟨A, 0, none⟩ = some (.bool r) ∧ v.cell? ⟨A, 1, none⟩ = some (.bool true) ∧ v.cell? ⟨A, 2, none⟩ = some (.int .i64 a) ∧ v.cell? ⟨A, 3, none⟩ = some (.int .i64 n) ∧ v.cell? ⟨A, 4, none⟩ = some (.slice (some ⟨g3, 0, none⟩) 3 3) ∧ v.cell? ⟨D, 0, none⟩ = some (.bool r) ∧ v.cell? ⟨D, 1, none⟩ = some (.bool false) ∧ v.cell? ⟨D, 2, none⟩ = some (.int .i64 a) ∧ v.cell? ⟨D, 3, none⟩ = some (.int .i64 n) ∧ v.cell? ⟨D, 4, none⟩ = some (.slice aP P.length cP)) (by kernel_rfl) ?_ (fun hHeld => ?_)
            · (try dsimp only)
              go_keep
            refine wpAnyH_take (i := 0) (v := .agg #[.bool r, .bool true, .int .i64 a, .int .i64 n, .slice (some ⟨g3, 0, none⟩) 3 3]) rfl (by kernel_rfl) (by kernel_rfl) (by kernel_rfl) (fun _ _ _ h => h) (Or.inl ⟨by kernel_rfl, ?_⟩) (by assumption) ?_
            · intro w hSw
              (try dsimp only at hSw)
              go_simp
            (try simp only [Act.put, List.getElem_toArray, List.getElem_cons_succ, List.getElem_cons_zero, List.setIfInBounds_toArray, List.set_cons_zero, List.set_cons_succ])
            refine wpAnyH_ready (rs := [1]) (by kernel_rfl) (by simp) ?_
            refine AllReadyH.cons rfl (fun K hK => ?_) AllReadyH.nil
            go_simp
            go_at_call 39; refine (KX.out _ (Below.drew (Below.refl _ _))).mono ?_; rintro e v1 ⟨rfl, f1⟩; have F1 := Lib.hid (show Fr ud v1 from Fr.trans (Below.drew (Below.refl _ _)) f1); obtain ⟨p0, p1, p2, p3, p4, p5, p6, p7, p8, p9, p10, p11, p12⟩ := HC.out v1 F1.out; clear f1
            refine hK.out _ _ ?_ (fun hHeld => ?_)
            · (try dsimp only)
              go_keep
            clear hK K
            (try simp only [Act.put, List.getElem_toArray, List.getElem_cons_succ, List.getElem_cons_zero, List.setIfInBounds_toArray, List.set_cons_zero, List.set_cons_succ])
            refine wpAnyH_take (i := 2) (v := .bool true) rfl (by kernel_rfl) (by kernel_rfl) (by kernel_rfl) (fun _ _ _ h => h) (Or.inl ⟨by kernel_rfl, ?_⟩) (by assumption) ?_
            · intro w hSw
              kernel_rfl
            (try simp only [Act.put, List.getElem_toArray, List.getElem_cons_succ, List.getElem_cons_zero, List.setIfInBounds_toArray, List.set_cons_zero, List.set_cons_succ])
            refine wpAnyH_take (i := 3) (v := .bool true) rfl (by kernel_rfl) (by kernel_rfl) (by kernel_rfl) (fun _ _ _ h => h) (Or.inl ⟨by kernel_rfl, ?_⟩) (by assumption) ?_
            · intro w hSw
              kernel_rfl
            (try simp only [Act.put, List.getElem_toArray, List.getElem_cons_succ, List.getElem_cons_zero, List.setIfInBounds_toArray, List.set_cons_zero, List.set_cons_succ])
            refine wpAnyH_take (i := 4) (v := .pointer (some ⟨Z, 1, none⟩)) rfl (by kernel_rfl) (by kernel_rfl) (by kernel_rfl) (fun _ _ _ h => h) (Or.inl ⟨by kernel_rfl, ?_⟩) (by assumption) ?_
            · intro w hSw
              kernel_rfl
            (try simp only [Act.put, List.getElem_toArray, List.getElem_cons_succ, List.getElem_cons_zero, List.setIfInBounds_toArray, List.set_cons_zero, List.set_cons_succ])
            refine wpAnyH_take (i := 5) (v := .bool true) rfl (by kernel_rfl) (by kernel_rfl) (by kernel_rfl) (fun _ _ _ h => h) (Or.inl ⟨by kernel_rfl, ?_⟩) (by assumption) ?_
            · intro w hSw
              (try dsimp only at hSw)
              go_simp
            (try simp only [Act.put, List.getElem_toArray, List.getElem_cons_succ, List.getElem_cons_zero, List.setIfInBounds_toArray, List.set_cons_zero, List.set_cons_succ])
            refine wpAnyH_take (i := 6) (v := .bool true) rfl (by kernel_rfl) (by kernel_rfl) (by kernel_rfl) (fun _ _ _ h => h) (Or.inl ⟨by kernel_rfl, ?_⟩) (by assumption) ?_
            · intro w hSw
              kernel_rfl
            (try simp only [Act.put, List.getElem_toArray, List.getElem_cons_succ, List.getElem_cons_zero, List.setIfInBounds_toArray, List.set_cons_zero, List.set_cons_succ])
            refine wpAnyH_take (i := 7) (v := undef) rfl (by kernel_rfl) (by kernel_rfl) (by kernel_rfl) (fun _ _ _ h => h) (Or.inr ⟨by kernel_rfl, rfl⟩) (by assumption) ?_
            (try simp only [Act.put, List.getElem_toArray, List.getElem_cons_succ, List.getElem_cons_zero, List.setIfInBounds_toArray, List.set_cons_zero, List.set_cons_succ])
            refine wpAnyH_take (i := 8) (v := undef) rfl (by kernel_rfl) (by kernel_rfl) (by kernel_rfl) (fun _ _ _ h => h) (Or.inr ⟨by kernel_rfl, rfl⟩) (by assumption) ?_
            (try simp only [Act.put, List.getElem_toArray, List.getElem_cons_succ, List.getElem_cons_zero, List.setIfInBounds_toArray, List.set_cons_zero, List.set_cons_succ])
            refine wpAnyH_take (i := 9) (v := undef) rfl (by kernel_rfl) (by kernel_rfl) (by kernel_rfl) (fun _ _ _ h => h) (Or.inr ⟨by kernel_rfl, rfl⟩) (by assumption) ?_
            (try simp only [Act.put, List.getElem_toArray, List.getElem_cons_succ, List.getElem_cons_zero, List.setIfInBounds_toArray, List.set_cons_zero, List.set_cons_succ])
            refine wpAnyH_take (i := 10) (v := undef) rfl (by kernel_rfl) (by kernel_rfl) (by kernel_rfl) (fun _ _ _ h => h) (Or.inr ⟨by kernel_rfl, rfl⟩) (by assumption) ?_
            (try simp only [Act.put, List.getElem_toArray, List.getElem_cons_succ, List.getElem_cons_zero, List.setIfInBounds_toArray, List.set_cons_zero, List.set_cons_succ])
            refine wpAnyH_take (i := 11) (v := undef) rfl (by kernel_rfl) (by kernel_rfl) (by kernel_rfl) (fun _ _ _ h => h) (Or.inr ⟨by kernel_rfl, rfl⟩) (by assumption) ?_
            (try simp only [Act.put, List.getElem_toArray, List.getElem_cons_succ, List.getElem_cons_zero, List.setIfInBounds_toArray, List.set_cons_zero, List.set_cons_succ])
            refine wpAnyH_take (i := 12) (v := undef) rfl (by kernel_rfl) (by kernel_rfl) (by kernel_rfl) (fun _ _ _ h => h) (Or.inr ⟨by kernel_rfl, rfl⟩) (by assumption) ?_
            (try simp only [Act.put, List.getElem_toArray, List.getElem_cons_succ, List.getElem_cons_zero, List.setIfInBounds_toArray, List.set_cons_zero, List.set_cons_succ])
            refine wpAnyH_take (i := 13) (v := undef) rfl (by kernel_rfl) (by kernel_rfl) (by kernel_rfl) (fun _ _ _ h => h) (Or.inr ⟨by kernel_rfl, rfl⟩) (by assumption) ?_
            (try simp only [Act.put, List.getElem_toArray, List.getElem_cons_succ, List.getElem_cons_zero, List.setIfInBounds_toArray, List.set_cons_zero, List.set_cons_succ])
            refine wpAnyH_take (i := 14) (v := undef) rfl (by kernel_rfl) (by kernel_rfl) (by kernel_rfl) (fun _ _ _ h => h) (Or.inr ⟨by kernel_rfl, rfl⟩) (by assumption) ?_
            (try simp only [Act.put, List.getElem_toArray, List.getElem_cons_succ, List.getElem_cons_zero, List.setIfInBounds_toArray, List.set_cons_zero, List.set_cons_succ])
            refine wpAnyH_take (i := 15) (v := .bool true) rfl (by kernel_rfl) (by kernel_rfl) (by kernel_rfl) (fun _ _ _ h => h) (Or.inl ⟨by kernel_rfl, ?_⟩) (by assumption) ?_
            · intro w hSw
              kernel_rfl
            (try simp only [Act.put, List.getElem_toArray, List.getElem_cons_succ, List.getElem_cons_zero, List.setIfInBounds_toArray, List.set_cons_zero, List.set_cons_succ])
            refine wpAnyH_take (i := 16) (v := .bool true) rfl (by kernel_rfl) (by kernel_rfl) (by kernel_rfl) (fun _ _ _ h => h) (Or.inl ⟨by kernel_rfl, ?_⟩) (by assumption) ?_
            · intro w hSw
              kernel_rfl
            (try simp only [Act.put, List.getElem_toArray, List.getElem_cons_succ, List.getElem_cons_zero, List.setIfInBounds_toArray, List.set_cons_zero, List.set_cons_succ])
            refine wpAnyH_take (i := 17) (v := .bool true) rfl (by kernel_rfl) (by kernel_rfl) (by kernel_rfl) (fun _ _ _ h => h) (Or.inl ⟨by kernel_rfl, ?_⟩) (by assumption) ?_
            · intro w hSw
              kernel_rfl
            (try simp only [Act.put, List.getElem_toArray, List.getElem_cons_succ, List.getElem_cons_zero, List.setIfInBounds_toArray, List.set_cons_zero, List.set_cons_succ])
            refine wpAnyH_take (i := 18) (v := .agg #[.bool r, .bool false, .int .i64 a, .int .i64 n, .slice aP P.length cP]) rfl (by kernel_rfl) (by kernel_rfl) (by kernel_rfl) (fun _ _ _ h => h) (Or.inl ⟨by kernel_rfl, ?_⟩) (by assumption) ?_
            · intro w hSw
              (try dsimp only at hSw)
              go_simp
            (try simp only [Act.put, List.getElem_toArray, List.getElem_cons_succ, List.getElem_cons_zero, List.setIfInBounds_toArray, List.set_cons_zero, List.set_cons_succ])
            refine wpAnyH_take (i := 20) (v := .pointer (some ⟨Z, 2, none⟩)) rfl (by kernel_rfl) (by kernel_rfl) (by kernel_rfl) (fun _ _ _ h => h) (Or.inl ⟨by kernel_rfl, ?_⟩) (by assumption) ?_
            · intro w hSw
              kernel_rfl
            (try simp only [Act.put, List.getElem_toArray, List.getElem_cons_succ, List.getElem_cons_zero, List.setIfInBounds_toArray, List.set_cons_zero, List.set_cons_succ])
            refine wpAnyH_take (i := 21) (v := .int .i64 a) rfl (by kernel_rfl) (by kernel_rfl) (by kernel_rfl) (fun _ _ _ h => h) (Or.inl ⟨by kernel_rfl, ?_⟩) (by assumption) ?_
            · intro w hSw
              (try dsimp only at hSw)
              go_simp
            (try simp only [Act.put, List.getElem_toArray, List.getElem_cons_succ, List.getElem_cons_zero, List.setIfInBounds_toArray, List.set_cons_zero, List.set_cons_succ])
            refine wpAnyH_take (i := 22) (v := .bool false) rfl (by kernel_rfl) (by kernel_rfl) (by kernel_rfl) (fun _ _ _ h => h) (Or.inl ⟨by kernel_rfl, ?_⟩) (by assumption) ?_
            · intro w hSw
              (try dsimp only at hSw)
              go_simp
            (try simp only [Act.put, List.getElem_toArray, List.getElem_cons_succ, List.getElem_cons_zero, List.setIfInBounds_toArray, List.set_cons_zero, List.set_cons_succ])
            refine wpAnyH_ready (rs := [19]) (by kernel_rfl) (by simp) ?_
            refine AllReadyH.cons rfl (fun K hK => ?_) AllReadyH.nil
            go_simp
            go_at_call 39; refine (KY.out _ F1.out).mono ?_; rintro e v2 ⟨rfl, f2⟩; have F2 := Lib.hid (Fr.trans F1.out f2); obtain ⟨q0, q1, q2, q3, q4, q5, q6, q7, q8, q9, q10, q11, q12⟩ := HC.out v2 F2.out; clear f2
            refine hK.out _ _ ?_ (fun hHeld => ?_)
            · (try dsimp only)
              go_keep
            clear hK K
            (try simp only [Act.put, List.getElem_toArray, List.getElem_cons_succ, List.getElem_cons_zero, List.setIfInBounds_toArray, List.set_cons_zero, List.set_cons_succ])
            refine wpAnyH_take (i := 23) (v := .bool false) rfl (by kernel_rfl) (by kernel_rfl) (by kernel_rfl) (fun _ _ _ h => h) (Or.inl ⟨by kernel_rfl, ?_⟩) (by assumption) ?_
            · intro w hSw
              kernel_rfl
            (try simp only [Act.put, List.getElem_toArray, List.getElem_cons_succ, List.getElem_cons_zero, List.setIfInBounds_toArray, List.set_cons_zero, List.set_cons_succ])
            refine wpAnyH_take (i := 24) (v := undef) rfl (by kernel_rfl) (by kernel_rfl) (by kernel_rfl) (fun _ _ _ h => h) (Or.inr ⟨by kernel_rfl, rfl⟩) (by assumption) ?_
            (try simp only [Act.put, List.getElem_toArray, List.getElem_cons_succ, List.getElem_cons_zero, List.setIfInBounds_toArray, List.set_cons_zero, List.set_cons_succ])
            refine wpAnyH_take (i := 25) (v := undef) rfl (by kernel_rfl) (by kernel_rfl) (by kernel_rfl) (fun _ _ _ h => h) (Or.inr ⟨by kernel_rfl, rfl⟩) (by assumption) ?_
            (try simp only [Act.put, List.getElem_toArray, List.getElem_cons_succ, List.getElem_cons_zero, List.setIfInBounds_toArray, List.set_cons_zero, List.set_cons_succ])
            refine wpAnyH_take (i := 26) (v := undef) rfl (by kernel_rfl) (by kernel_rfl) (by kernel_rfl) (fun _ _ _ h => h) (Or.inr ⟨by kernel_rfl, rfl⟩) (by assumption) ?_
            (try simp only [Act.put, List.getElem_toArray, List.getElem_cons_succ, List.getElem_cons_zero, List.setIfInBounds_toArray, List.set_cons_zero, List.set_cons_succ])
            refine wpAnyH_take (i := 27) (v := .bool false) rfl (by kernel_rfl) (by kernel_rfl) (by kernel_rfl) (fun _ _ _ h => h) (Or.inl ⟨by kernel_rfl, ?_⟩) (by assumption) ?_
            · intro w hSw
              kernel_rfl
            (try simp only [Act.put, List.getElem_toArray, List.getElem_cons_succ, List.getElem_cons_zero, List.setIfInBounds_toArray, List.set_cons_zero, List.set_cons_succ])
            refine wpAnyH_take (i := 28) (v := .bool true) rfl (by kernel_rfl) (by kernel_rfl) (by kernel_rfl) (fun _ _ _ h => h) (Or.inl ⟨by kernel_rfl, ?_⟩) (by assumption) ?_
            · intro w hSw
              kernel_rfl
            (try simp only [Act.put, List.getElem_toArray, List.getElem_cons_succ, List.getElem_cons_zero, List.setIfInBounds_toArray, List.set_cons_zero, List.set_cons_succ])
            refine wpAnyH_take (i := 29) (v := .bool true) rfl (by kernel_rfl) (by kernel_rfl) (by kernel_rfl) (fun _ _ _ h => h) (Or.inl ⟨by kernel_rfl, ?_⟩) (by assumption) ?_
            · intro w hSw
              kernel_rfl
            (try simp only [Act.put, List.getElem_toArray, List.getElem_cons_succ, List.getElem_cons_zero, List.setIfInBounds_toArray, List.set_cons_zero, List.set_cons_succ])
            refine wpAnyH_take (i := 30) (v := .bool true) rfl (by kernel_rfl) (by kernel_rfl) (by kernel_rfl) (fun _ _ _ h => h) (Or.inl ⟨by kernel_rfl, ?_⟩) (by assumption) ?_
            · intro w hSw
              kernel_rfl
            (try simp only [Act.put, List.getElem_toArray, List.getElem_cons_succ, List.getElem_cons_zero, List.setIfInBounds_toArray, List.set_cons_zero, List.set_cons_succ])
            refine wpAnyH_done (by kernel_rfl) ?_ _
            go_wp2
            go_ret
            exact ⟨rfl, Fr.trans HF.out F2.out⟩
  · have hl' : (1048576 : Int) < (len0 : Int) := by omega
    go_wp2
    go_ret
    exact ⟨rfl, Below.refl _ _⟩

set_option maxRecDepth 100000 in
theorem lifted (os : Os) (started : os.Started) (H : Type) (enc : TypeId × Value → H) :
    ReturnsInHanded {} Try.checked os 10 .any (Rows.fnInOkSpec.pre6 enc Try.prog Try.f10 Rows.fnInOkRow.domain false) (Rows.fnInOkSpec.post enc Try.prog Try.f10 false true false false) := by
  refine returnsInHanded_of_change (C := Try.checked) own started (by kernel_rfl) Try.func10
    (ChangeSpec.witness6 (enc := enc) (C := Try.checked) false ⟨#[], #[.slice none 0 0], []⟩ 8 (by kernel_rfl) (by kernel_rfl) (by kernel_rfl) (by kernel_rfl)) ?_
  intro W base args ds gs before hval0 hW hcnd _
  have hval : ∀ (j : Nat) t v, Try.f10.params[j]? = some t → args[j]? = some v → Value.okWide Try.prog W .any base t v := hval0
  have hW' := hW
  obtain ⟨p, q, hA0, hV, rfl, hfz, hnd⟩ := hW
  have hA : DataW.TrodAll enc Try.prog W 0 (fun _ => true) true Try.f10.params.toList args.toList ds p := hA0
  rw [Try.params10] at hA hval
  obtain ⟨v0, vs0, d0, ds0, p0, q0, hargs, rfl, rfl, h0, r0⟩ := trodAll_cons hA
  obtain ⟨rfl, rfl, rfl⟩ := trodAll_nil r0
  obtain rfl : args = #[v0] := by cases args; simp_all
  obtain ⟨rfl, rfl⟩ := trodVars_none hV
  obtain ⟨a0, len0, cap0, rfl⟩ := okWide_slice Try.underlying53 (hval 0 53 v0 rfl rfl)
  have k0 := h0
  have lt0 : ∀ x ∈ p0, x.block < W.heap.size := by obtain ⟨m, hm⟩ := k0; exact DataW.trod_lt m _ _ _ hm
  obtain ⟨z0, w0⟩ : ∃ zs, IsRow .u8 W a0 len0 cap0 zs := by
    obtain ⟨fuel, hf⟩ := h0
    rcases open_ints Try.underlying53 Try.underlying5 (by kernel_rfl) hf with ⟨hcs, _⟩ | ⟨x, l, c, zs, hcs, _, hl, hm, hz, _, hcell, hwz⟩
    · simp [Value.cells] at hcs
      obtain ⟨rfl, rfl, rfl⟩ := hcs
      exact ⟨[], .inl ⟨rfl, rfl, rfl, rfl⟩⟩
    · simp [Value.cells] at hcs
      obtain ⟨rfl, rfl, rfl⟩ := hcs
      exact ⟨zs, .inr ⟨_, rfl, hl, hm, by simpa using hz, hcell, hwz⟩⟩
  clear hA0 hval0
  refine (walk a0 len0 cap0 z0 W w0).mono fun e W' ⟨he, bel⟩ => ?_
  subst he
  exact ⟨_, rfl, _, _, _, [], _, [], hW', trodAll_mk1 (shut_bool Try.underlying4 _), (trodAll_cons_mk (Below.trod laidOut (by kernel_rfl) (of_decide_eq_true (by kernel_rfl)) k0 bel lt0) trodAll_mk0), rfl, bel.frame _, fun h => by cases h⟩

theorem over : Rows.fnInOkRow.holds Try.pinned (OpenSpec.ofChange Rows.fnInOkSpec) :=
  OpenClaim.holds_of_wide 10 Try.f10 rfl rfl rfl rfl rfl rfl rfl ⟨rfl, rfl, rfl, rfl, rfl⟩ rfl rfl rfl rfl rfl (by kernel_rfl) Try.func10 (by kernel_rfl)
    (of_decide_eq_true (by kernel_rfl)) (by unfold Func.isWrapper; first | (rw [if_pos (by decide +kernel)]; kernel_rfl) | (rw [if_neg (by decide +kernel)]; exact ⟨rfl, rfl⟩))
    (fun os started H enc _ => lifted os started H enc)

/-- THE STATEMENT. -/
theorem proved : Rows.FnInOkSaid := over
#print axioms proved
end Go.Proofs.Ytoacgjjpipdkjaa.fnInOk
