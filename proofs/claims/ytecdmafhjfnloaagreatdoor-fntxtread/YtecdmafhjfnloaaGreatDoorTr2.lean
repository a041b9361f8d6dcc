/- Chapter 3: lines are read as words, by the model (l3Line, TxtRead). -/
import Derived.Test.YtecdmafhjfnloaaGreatDoorTr1
import Derived.Test.YtecdmafhjfnloaaGreatDoorSp6
namespace Go.Proofs.YtecdmafhjfnloaaGreatDoor
open Go.RowKit
set_option linter.unusedVariables false
set_option linter.unusedSimpArgs false

theorem words_len (L : List UInt8 → Option Int) (tw : Int) : ∀ (r : List (List UInt8)) (i : Nat) (out : List Int), (words L tw r i out).1.length ≤ out.length + r.length
  | [], i, out => by simp [words]
  | x :: r, i, out => by
    unfold words
    split
    · simp
    · split
      · have := words_len L tw r (i + 1) out
        simp; omega
      · split
        · simp
        · rename_i v _
          have := words_len L tw r (i + 1) (out ++ [v])
          simp at this ⊢; omega
theorem tread_len (ls : List (List UInt8)) : (tread ls).1.length ≤ ls.length := by
  unfold tread
  split
  · simp
  · have := words_len (look (labs ls 0 [] 0 0).1) (labs ls 0 [] 0 0).2.2 ls 0 []
    simpa using this
def LineP (at' : Int) (L : List UInt8 → Option Int) (l : List UInt8) (w : World) (e : Ending) (w' : World) : Prop :=
  ∃ v ok, e = .returned (.tuple #[.int .i64 v, .bool ok]) ∧ Fr w w' ∧ (ok = true → lineV at' L l = some v) ∧ (ok = false → lineV at' L l = none)
theorem con_num {y : List UInt8} : conT [y] = match num5 y with | some n => if 0 ≤ n ∧ n < 65536 then some n else none | none => none := by
  show (match canon y with | some n => if 0 ≤ n ∧ n < 65536 then some n else none | none => none) = _
  cases h5 : num5 y with
  | some n => rw [(num5_some h5).1]
  | none =>
    cases hc : canon y with
    | none => rfl
    | some n =>
      show (if 0 ≤ n ∧ n < 65536 then some n else none) = none
      rw [if_neg]
      intro h
      rw [num5_of hc (by omega) (by omega)] at h5
      cases h5
theorem rd_word (at' : Int) (L : List UInt8 → Option Int) (r : List (List UInt8)) : rd at' L (wordN :: r) = none := rfl
theorem conT_not {r : List (List UInt8)} (h : r.length ≠ 1) : conT r = none := by
  match r, h with
  | [], _ => rfl
  | [y], h => exact absurd rfl h
  | x :: y :: t, _ => rfl
set_option maxRecDepth 4000 in
set_option maxHeartbeats 2000000 in
theorem spec_l3Line (l : List UInt8) (hl : l.length ≤ 4000000) (at' : Int) (vl : Value) (ls : List (List UInt8 × Int)) (w : World) (hlab : Labs w vl ls) (hn : ls.length ≤ 1000) (HL : ∀ x t, look ls x = some t → 0 ≤ t ∧ t ≤ 1000) (HC : ∀ x t, look ls x = some t → canon x = none) (hat : 0 ≤ at' ∧ at' ≤ 1000) :
    Calls Tryz.prog 42 #[.string (bs l), .int .i64 at', vl] w (LineP at' (look ls) l w) := by
  obtain ⟨at0, at1⟩ := hat
  have HLB := Lib.hid hlab
  have HLL := Lib.hid HL
  have HCC := Lib.hid HC
  clear hlab HL HC
  go_enter Tryz.func42, Tryz.ntmps42
  go_wp2_with fail
  refine (spec_l3Words l hl w).mono ?_
  rintro e u1 ⟨v1, rfl, O1, f1⟩
  cases hsp : sp l with
  | nil => exact absurd hsp (sp_ne l)
  | cons x0 r =>
    rw [hsp] at O1
    have WD := Lib.hid O1.wds
    have HX : Hid (∀ x ∈ x0 :: r, x.length ≤ 4000000) := fun x hx => by
      have := sp_len l x (by rw [hsp]; exact hx)
      omega
    have HV : Hid (lineV at' (look ls) l = if 30 < l.length then none else lineT at' (look ls) (x0 :: r)) := by show _ = _; rw [lineV_eq, hsp]
    clear hsp
    obtain ⟨ao, cap, rfl, hcap, hmx, hc⟩ := O1.wds
    obtain ⟨g, off, rfl, hg, hcc⟩ := hc (by simp)
    have c0 : u1.cell? ⟨g, off, none⟩ = some (.string (bs x0)) := hcc 0 (by simp)
    clear O1 hc
    by_cases h30 : 30 < l.length
    · have h30' : (30 : Int) < (l.length : Int) := by omega
      have hv : lineV at' (look ls) l = none := by rw [HV.out, if_pos h30]
      have HN := Lib.hid hv
      clear hv HV hcc
      go_wp2_with fail
      go_ret2
      exact ⟨0, false, rfl, f1, nofun, fun _ => HN.out⟩
    · have h30' : ¬ (30 : Int) < (l.length : Int) := by omega
      have hv : lineV at' (look ls) l = lineT at' (look ls) (x0 :: r) := by rw [HV.out, if_neg h30]
      replace HV := Lib.hid hv
      clear hv
      by_cases hw : x0 = wordN
      · have hq : (x0 == [119, 111, 114, 100]) = true := by rw [hw]; decide
        by_cases h1 : r.length = 1
        · obtain ⟨y, rfl⟩ : ∃ y, r = [y] := by
            match r, h1 with
            | [y], _ => exact ⟨y, rfl⟩
          have c1 : u1.cell? ⟨g, off + 1, none⟩ = some (.string (bs y)) := hcc 1 (by simp)
          have hy : y.length ≤ 4000000 := HX.out y (by simp)
          have hv : lineV at' (look ls) l = match num5 y with | some n => if 0 ≤ n ∧ n < 65536 then some n else none | none => none := by
            rw [HV.out, hw, ← con_num]
            rfl
          replace HV := Lib.hid hv
          clear hv hcc hw h1
          simp only [List.length_cons, List.length_nil, Nat.zero_add] at hcap
          go_wp2_with fail
          refine (spec_l3Num y (by omega) _).mono ?_
          rintro e u2 ⟨v, ok, rfl, f2, k1, k2⟩
          cases ok
          · have hv : lineV at' (look ls) l = none := by rw [HV.out, k2 rfl]
            have HN := Lib.hid hv
            clear hv HV k1 k2
            go_wp2_with fail
            go_ret2
            exact ⟨v, false, rfl, f1.trans f2, nofun, fun _ => HN.out⟩
          · have hv : lineV at' (look ls) l = if 0 ≤ v ∧ v < 65536 then some v else none := by rw [HV.out, k1 rfl]
            have HN := Lib.hid hv
            clear hv HV k1 k2
            go_wp2_with fail
            refine (spec_WrdOk v _).mono ?_
            rintro e u3 ⟨rfl, rfl⟩
            cases hb : okB v
            · have HB := Lib.hid hb
              clear hb
              go_wp2_with fail
              go_ret2
              refine ⟨v, false, rfl, f1.trans f2, nofun, fun _ => ?_⟩
              rw [HN.out, if_neg]
              have := HB.out
              unfold okB at this
              simpa using this
            · have HB := Lib.hid hb
              clear hb
              go_wp2_with fail
              go_ret2
              refine ⟨v, true, rfl, f1.trans f2, fun _ => ?_, nofun⟩
              rw [HN.out, if_pos]
              have := HB.out
              unfold okB at this
              simpa using this
        · have h1' : ((r.length : Int) + 1 == 2) = false := by simp; omega
          have h1n : (r.length + 1 == 2) = false := by simp; omega
          have h1m : (r.length == 1) = false := by simp; omega
          have h1i : ((r.length : Int) == 1) = false := by simp; omega
          have hv : lineV at' (look ls) l = none := by rw [HV.out, hw]; exact conT_not h1
          have HN := Lib.hid hv
          have HW := Lib.hid hw
          clear hv HV hcc hw h1
          go_wp2_with fail
          refine (spec_l3Inst _ vl x0 r at' ls _ WD.out HX.out (HLB.out.fr f1) hn HLL.out HCC.out ⟨at0, at1⟩).mono ?_
          rintro e u2 ⟨k, d, a, b, f, n, ok, rfl, f2, k1, k2⟩
          cases ok
          · clear k1 k2
            go_wp2_with fail
            go_ret2
            exact ⟨0, false, rfl, (f1.trans f2).trans (Fr.alloc _ _), nofun, fun _ => HN.out⟩
          · have := k1 rfl
            rw [HW.out, rd_word] at this
            cases this
      · have hq : (x0 == [119, 111, 114, 100]) = false := by rw [beq_eq_false_iff_ne]; exact hw
        have hv : lineV at' (look ls) l = match rd at' (look ls) (x0 :: r) with
            | some (k, fs) => some (worD k (fs.getD 0 0) (fs.getD 1 0) (fs.getD 2 0) (fs.getD 3 0) (fs.getD 4 0))
            | none => none := by
          rw [HV.out]
          simp only [lineT, if_neg hw]
          cases rd at' (look ls) (x0 :: r) <;> rfl
        replace HV := Lib.hid hv
        clear hv hcc hw
        go_wp2_with fail
        refine (spec_l3Inst _ vl x0 r at' ls _ WD.out HX.out (HLB.out.fr f1) hn HLL.out HCC.out ⟨at0, at1⟩).mono ?_
        rintro e u2 ⟨k, d, a, b, f, n, ok, rfl, f2, k1, k2⟩
        cases ok
        · have hv : lineV at' (look ls) l = none := by rw [HV.out, k2 rfl]
          have HN := Lib.hid hv
          clear hv HV k1 k2
          go_wp2_with fail
          go_ret2
          exact ⟨0, false, rfl, (f1.trans f2).trans (Fr.alloc _ _), nofun, fun _ => HN.out⟩
        · have hv : lineV at' (look ls) l = some (worD k d a b f n) := by rw [HV.out, k1 rfl]; rfl
          have HN := Lib.hid hv
          obtain ⟨b0, b1, b2, b3, b4, b5⟩ := Box.new u2 k d a b f n 45
          have F2 := (f1.trans f2).trans (Fr.alloc u2 (.cells #[.int .i64 k, .int .i64 d, .int .i64 a, .int .i64 b, .int .i64 f, .int .i64 n] 45))
          clear hv HV k1 k2
          go_wp2_with fail
          refine (spec_CodWord k d a b f n _).mono ?_
          rintro e u3 ⟨rfl, f3⟩
          go_wp2_with fail
          go_ret2
          exact ⟨_, true, rfl, F2.trans f3, fun _ => HN.out, nofun⟩
set_option maxRecDepth 4000 in
set_option maxHeartbeats 4000000 in
theorem spec_TxtRead (ls : List (List UInt8)) (ao : Option Addr) (cap : Nat) (w : World) (hs : Src w ls.length (tv ls) ao) (hn : ls.length ≤ 1048576) (hl : ∀ x ∈ ls, x.length ≤ 4000000) :
    Calls Tryz.prog 15 #[.slice ao ls.length cap] w (RdP w (tread ls)) := by
  obtain ⟨i0, hi, hz0, hz1, hz2⟩ := info_parts info_intV
  have hmx : maxLen = 9223372036854775807 := rfl
  have HS := Lib.hid hs
  have HL := Lib.hid hl
  clear hs hl
  go_enter Tryz.func15, Tryz.ntmps15
  by_cases h64 : 64 < ls.length
  · have h64' : (64 : Int) < (ls.length : Int) := by omega
    have ht : tread ls = ([], 65) := if_pos h64
    go_wp2_with fail
    go_ret2
    exact ⟨_, 0, by rw [ht]; rfl, by rw [ht]; exact Vc.nil _ _ _ _, Fr.alloc _ _⟩
  · have h64' : ¬ (64 : Int) < (ls.length : Int) := by omega
    have ht : tread ls = words (look (labs ls 0 [] 0 0).1) (labs ls 0 [] 0 0).2.2 ls 0 [] := if_neg h64
    have HTR := Lib.hid ht
    have HLW := Lib.hid (labs_low ls 0 [] 0 0 (fun e he => by simp at he) (by omega))
    clear ht
    go_wp2_with fail
    refine (spec_l3Labels ls _ _ _ HS.out (by omega) (fun x hx => by have := HL.out x hx; omega)).mono ?_
    rintro e w2 ⟨vL, rfl, M2, hLn, F2, hA, tw0, tw1⟩
    generalize (labs ls 0 [] 0 0).2.2 = tw at HTR tw0 tw1
    generalize (labs ls 0 [] 0 0).1 = L at HTR HLW M2 hA hLn
    have hLB : ∀ x t, look L x = some t → 0 ≤ t ∧ t ≤ 1000 := fun x t h => by have := hA _ (look_mem h); simp at this; omega
    replace hLB := Lib.hid hLB
    have hLC := Lib.hid (look_canon HLW.out)
    replace M2 := Lib.hid M2.labs
    clear hA HLW
    have hs2 := F2.size
    go_wp2_with fail
    go_loopw [6, 7] (fun o i wr => ∃ (p : Nat) (out : List Int), p ≤ ls.length ∧ i = .int .i64 p ∧ words (look L) tw (ls.drop p) p out = tread ls ∧ OwnsI w2.heap.size wr o out ∧ out.length ≤ p ∧ Fr w2 wr) (fun _ i _ => ls.length - (intOf i).toNat)
    case atStart => exact ⟨0, [], Nat.zero_le _, rfl, HTR.out.symm, ownsI_empty _ _ (Nat.le_refl _), Nat.le_refl _, Fr.alloc _ _⟩
    case round =>
      obtain ⟨p, out, hp, rfl, hE, hO, hol, hF⟩ := hrel
      obtain ⟨ao1, cap1, rfl⟩ := ownsI_len hO
      have HE := Lib.hid hE
      have HO := Lib.hid hO
      have FF := Lib.hid (F2.trans hF)
      have HF := Lib.hid hF
      have hsz := FF.out.size
      have hszF := HF.out.size
      clear hE hO HTR
      by_cases hlt : p < ls.length
      · have hlt' : (p : Int) < (ls.length : Int) := by omega
        obtain ⟨g, o, rfl, hgl, hc⟩ := HS.out (by omega)
        have d0 : wr.cell? ⟨g, o + p, none⟩ = some (.string (bs (ls.getD p []))) := by rw [FF.out.cell hgl]; exact hc p hlt
        have hx : (ls.getD p []).length ≤ 4000000 := HL.out _ (by rw [List.getD_eq_getElem?_getD, List.getElem?_eq_getElem hlt]; exact List.getElem_mem hlt)
        have hdr : ls.drop p = ls.getD p [] :: ls.drop (p + 1) := by
          rw [List.drop_eq_getElem_cons hlt, List.getD_eq_getElem?_getD, List.getElem?_eq_getElem hlt]
          rfl
        rw [hdr] at HE
        generalize ls.getD p [] = x at d0 hx HE
        clear hdr hc hF
        by_cases htw : (p : Int) + 1 = tw
        · have he : tread ls = ([], tw) := by rw [← HE.out]; simp only [words, if_pos htw]
          have HTW := Lib.hid htw
          have htw' : ((p : Int) + 1 == tw) = true := by simp [htw]
          clear htw
          go_wp2_with fail
          go_ret2
          exact ⟨_, 0, by rw [he]; rfl, by rw [he]; exact Vc.nil _ _ _ _, FF.out.trans (Fr.alloc _ _)⟩
        · have htw' : ((p : Int) + 1 == tw) = false := by simp [htw]
          have HTW := Lib.hid htw
          clear htw
          go_wp2_with fail
          refine (spec_l3Mark x (by omega) _).mono ?_
          rintro e u1 ⟨nm, ok, rfl, rfl, k1, k2⟩
          cases ok
          · have HM := Lib.hid (k2 rfl)
            clear k1 k2
            go_wp2_with fail
            refine (spec_l3Line x hx out.length vL L _ (M2.out.fr HF.out) (by omega) hLB.out hLC.out (by omega)).mono ?_
            rintro e u4 ⟨v, ok, rfl, f4, z1, z2⟩
            have hs4 := f4.size
            cases ok
            · have he : tread ls = ([], (p : Int) + 1) := by rw [← HE.out]; simp only [words, if_neg HTW.out, HM.out, z2 rfl]
              clear z1 z2
              go_wp2_with fail
              go_ret2
              exact ⟨_, 0, by rw [he]; rfl, by rw [he]; exact Vc.nil _ _ _ _, (FF.out.trans f4).trans (Fr.alloc _ _)⟩
            · have HE2 : Hid (words (look L) tw (ls.drop (p + 1)) (p + 1) (out ++ [v]) = tread ls) := by
                have := HE.out
                simp only [words, if_neg HTW.out, HM.out, z1 rfl] at this
                exact this
              have HO4 := Lib.hid (HO.out.fr f4)
              clear z1 z2 HE
              go_wp2_with (at_builtin; refine wpList_append_own _ rfl _ _ 23 rfl w2.heap.size 3 i0 (.int .i64 0) 1 8 Tryz.underlying23 hi hz0 hz1 hz2 rfl (by decide) _ _ _ rfl (World.ownsRow.alloc HO4.out _) _ 1 1 [.int .i64 v] rfl rfl (cell_str_at _ _ _ _ (by simp)) (fun x hx => by simp at hx; subst hx; rfl) (show out.length + 1 ≤ maxLen by omega) (by omega) (by simp; omega) ?_; intro v1 w4 hown1 hg1 _)
              have F4 : Fr w2 w4 := Below.grown ((HF.out.trans f4).trans (Fr.alloc _ _)) hg1 (by simp; omega) (ownI_lt HO4.out)
              go_roundw
              case rel => exact ⟨p + 1, out ++ [v], by omega, by go_num, HE2.out, ownsI_app hown1, by simp; omega, F4⟩
              case measure => simp [intOf]; omega
          · have hm := k1 rfl
            have HE2 : Hid (words (look L) tw (ls.drop (p + 1)) (p + 1) out = tread ls) := by
              have := HE.out
              simp only [words, if_neg HTW.out, hm] at this
              exact this
            clear k1 k2 hm HE
            go_wp2_with fail
            go_roundw
            case rel => exact ⟨p + 1, out, by omega, by go_num, HE2.out, HO.out, by omega, HF.out⟩
            case measure => simp [intOf]; omega
      · have hge : ¬ (p : Int) < (ls.length : Int) := by omega
        have e : p = ls.length := by omega
        subst e
        clear hF
        go_wp2_with fail
        have hE := HE.out
        rw [List.drop_length] at hE
        simp only [words] at hE
        obtain ⟨ao2, cap2, hv, hV⟩ := ownsI_vc HO.out
        refine bodyPost_ret (v := .tuple #[.slice ao1 out.length cap1, .int .i64 0]) (by simp [results, Tryz.results15, go_sem]) rfl ⟨ao1, cap1, by rw [← hE], ?_, FF.out⟩
        rw [← hE]
        cases hv
        exact hV.mono hs2
end Go.Proofs.YtecdmafhjfnloaaGreatDoor
