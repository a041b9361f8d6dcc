/- Chapter 3: the scanner of a line: a word in decimal, a whole line; a label. -/
import Derived.Test.YtecdmafhjfnloaaGreatDoorSc3
import Derived.Test.YtecdmafhjfnloaaGreatDoorTxtLines
import Derived.Test.YtecdmafhjfnloaaGreatDoorSp1
namespace Go.Proofs.YtecdmafhjfnloaaGreatDoor
open Go.RowKit
set_option linter.unusedVariables false
set_option linter.unusedSimpArgs false

/-- The word for which a line's fields stand. -/
def conT (r : List (List UInt8)) : Option Int := match r with
  | [x] => match canon x with
    | some n => if 0 ≤ n ∧ n < 65536 then some n else none
    | none => none
  | _ => none
def lineT (at' : Int) (L : List UInt8 → Option Int) (ws : List (List UInt8)) : Option Int := match ws with
  | [] => none
  | w :: r => if w = wordN then conT r
    else match rd at' L (w :: r) with
      | some (k, fs) => some (worD k (fs.getD 0 0) (fs.getD 1 0) (fs.getD 2 0) (fs.getD 3 0) (fs.getD 4 0))
      | none => none
theorem lineV_eq (at' : Int) (L : List UInt8 → Option Int) (l : List UInt8) : lineV at' L l = if 30 < l.length then none else lineT at' L (sp l) := rfl
/-- What a line's word is, where there was no error before. -/
def Said (o : Option Int) (bad : Bool) (v : Int) (bad' : Bool) : Prop :=
  (bad = true → bad' = true) ∧ (bad = false → match o with | some n => bad' = false ∧ v = n | none => bad' = true)
def SayP (o : Option Int) (p : Nat) (m : Value) (L : List UInt8 → Option Int) (at' : Int) (u : World) (bad : Bool) (e : Ending) (u' : World) : Prop :=
  ∃ v r' bad', e = .returned (.int .i64 v) ∧ Sc p m L at' u' r' bad' ∧ Ap p u u' ∧ Said o bad v bad'
theorem said_con {r r1 : List (List UInt8)} {bad b1 : Bool} {v : Int} (T : Took canon r bad v r1 b1) : Said (conT r) bad v ((b1 || !r1.isEmpty) || !okB v) := by
  refine ⟨fun h => by rw [T.1 h]; rfl, fun h => ?_⟩
  have t := T.2 h
  cases r with
  | nil => rw [show b1 = true from t]; rfl
  | cons x t' =>
    simp only at t
    unfold conT
    cases hc : canon x with
    | none =>
      rw [hc] at t
      simp only at t
      rw [t]
      cases t' <;> simp [hc]
    | some n =>
      rw [hc] at t
      simp only at t
      obtain ⟨rfl, rfl, rfl⟩ := t
      cases r1 with
      | nil =>
        simp only [hc]
        by_cases hn : 0 ≤ v ∧ v < 65536
        · rw [if_pos hn]; simp [okB, hn]
        · rw [if_neg hn]; simp [okB]; omega
      | cons y q => simp
set_option maxHeartbeats 1000000 in
theorem impl_constant {p : Nat} {m : Value} {L : List UInt8 → Option Int} {at' : Int} {u : World} {r : List (List UInt8)} {bad : Bool} (h : Sc p m L at' u r bad) :
    Calls Tryz.prog 53 #[.pointer (some ⟨p, 0, none⟩)] u (SayP (conT r) p m L at' u bad) := by
  have H := Lib.hid h
  clear h
  go_enter Tryz.func53, Tryz.ntmps53
  go_wp2_with fail
  refine (impl_number H.out).mono ?_
  rintro e u1 ⟨v, r1, b1, rfl, S1, A1, T1⟩
  replace S1 := Lib.hid S1
  replace A1 := Lib.hid A1
  replace T1 := Lib.hid (said_con T1)
  go_wp2_with fail
  refine (impl_end S1.out).mono ?_
  rintro e u2 ⟨rfl, S2, A2⟩
  replace S2 := Lib.hid S2
  replace A2 := Lib.hid (A1.out.trans A2)
  cases ho : okB v
  · obtain ⟨t2, q2, he2⟩ := S2.out.tabs.e6
    go_wp2_with (first | (go_at_call 16; refine (impl_WrdOk _ _).mono ?_; rintro e w' ⟨rfl, rfl⟩; rw [ho]) | (go_at_call 72; refine (impl_fail S2.out _ _).mono ?_; rintro e u3 ⟨rfl, S3, A3⟩; replace S3 := Lib.hid S3; replace A3 := Lib.hid A3))
    go_ret
    refine ⟨v, r1, true, rfl, S3.out, A2.out.trans A3.out, ?_⟩
    have := T1.out
    rw [ho] at this
    simpa using this
  · go_wp2_with (go_at_call 16; refine (impl_WrdOk _ _).mono ?_; rintro e w' ⟨rfl, rfl⟩; rw [ho])
    go_ret
    refine ⟨v, r1, _, rfl, S2.out, A2.out, ?_⟩
    have := T1.out
    rw [ho] at this
    simpa using this
set_option maxRecDepth 4000 in
set_option maxHeartbeats 1000000 in
theorem impl_statement {p : Nat} {m : Value} {L : List UInt8 → Option Int} {at' : Int} {u : World} {r : List (List UInt8)} {bad : Bool} (h : Sc p m L at' u r bad) (h0 : L [] = none) (HL : ∀ x t, L x = some t → 0 ≤ t ∧ t ≤ 1000) (hat : 0 ≤ at' ∧ at' ≤ 1000) :
    Calls Tryz.prog 38 #[.pointer (some ⟨p, 0, none⟩)] u (SayP (lineT at' L r) p m L at' u bad) := by
  have H := Lib.hid h
  clear h
  go_enter Tryz.func38, Tryz.ntmps38
  go_wp2_with fail
  refine (impl_field H.out).mono ?_
  rintro e u1 ⟨s, r1, b1, rfl, S1, A1, hs, T1, hbad⟩
  replace S1 := Lib.hid S1
  replace A1 := Lib.hid A1
  replace T1 := Lib.hid T1
  by_cases hw : s = wordN
  · have hb1 : b1 = false := by
      cases b1
      · rfl
      · exact absurd (hbad rfl) (by rw [hw]; decide)
    subst hb1
    have hq : (s == [119, 111, 114, 100]) = true := by rw [hw]; decide
    have HW := Lib.hid hw
    clear hw
    go_wp2_with fail
    refine (impl_constant S1.out).mono ?_
    rintro e u2 ⟨v, r2, b2, rfl, S2, A2, D2⟩
    replace S2 := Lib.hid S2
    replace A2 := Lib.hid (A1.out.trans A2)
    replace D2 := Lib.hid D2
    go_wp2_with fail
    go_ret
    refine ⟨v, r2, b2, rfl, S2.out, A2.out, fun h => ?_, fun h => ?_⟩
    · exact absurd (T1.out.1 h) (by simp)
    · have t := T1.out.2 h
      cases r with
      | nil => exact absurd t (by simp)
      | cons x t' =>
        obtain ⟨_, e2, e3⟩ := t
        subst e2 e3
        have := D2.out.2 rfl
        show match lineT at' L (s :: r1) with | some n => b2 = false ∧ v = n | none => b2 = true
        simp only [lineT, HW.out, if_true]
        exact this
  · have hq : (s == [119, 111, 114, 100]) = false := by rw [beq_eq_false_iff_ne]; exact hw
    have HW := Lib.hid hw
    clear hw
    go_wp2_with fail
    refine (impl_instruction S1.out h0 HL hat s).mono ?_
    rintro e u2 ⟨k, d, a, b, f, n, r2, b2, rfl, S2, A2, i1, i2⟩
    replace S2 := Lib.hid S2
    replace A2 := Lib.hid (A1.out.trans A2)
    replace i1 := Lib.hid i1
    replace i2 := Lib.hid i2
    go_wp2_with fail
    refine (impl_CodWord _ _ _ _ _ _ _ S2.out.tabs.base.base).mono ?_
    rintro e u3 ⟨rfl, f3⟩
    go_wp2_with fail
    go_ret
    refine ⟨_, r2, b2, rfl, S2.out.fr f3, A2.out.trans (Ap.of f3), fun h => i1.out (T1.out.1 h), fun h => ?_⟩
    have t := T1.out.2 h
    cases r with
    | nil => exact i1.out t
    | cons x t' =>
      obtain ⟨e1, e2, e3⟩ := t
      subst e2 e3
      show match lineT at' L (s :: r1) with | some n => b2 = false ∧ _ = n | none => b2 = true
      simp only [lineT, if_neg HW.out]
      rcases i2.out e1 with ⟨j1, j2⟩ | ⟨j1, j2⟩
      · rw [j2]
        exact ⟨j1, rfl⟩
      · rw [j2]
        exact j1
/-- A label: its name and where it stands. -/
def DefP (l : List UInt8) (a : Int) (w : World) (e : Ending) (w' : World) : Prop :=
  ∃ n b ok, e = .returned (.tuple #[.agg #[.string (bs n), .int .i64 b], .bool ok]) ∧ Fr w w' ∧ (ok = true → mark l = some n ∧ b = a) ∧ (ok = false → mark l = none)
theorem suf_c (l : List UInt8) : Lib.hasSuffix l [58] = decide (l.getLast? = some 58) ∧ (l.getLast? = some 58 → Lib.trimSuffix l [58] = l.dropLast) := by
  have e1 : Lib.hasSuffix l [58] = decide (l.getLast? = some 58) := by
    unfold Lib.hasSuffix
    rw [Bool.eq_iff_iff, decide_eq_true_eq, List.isSuffixOf_iff_suffix]
    constructor
    · rintro ⟨t, rfl⟩; simp
    · intro h
      cases hl : l with
      | nil => rw [hl] at h; simp at h
      | cons c t =>
        have hne : l ≠ [] := by rw [hl]; simp
        refine ⟨l.dropLast, ?_⟩
        rw [← hl]
        have := List.dropLast_concat_getLast hne
        rw [List.getLast?_eq_some_getLast hne] at h
        rw [Option.some.inj h] at this
        exact this
  refine ⟨e1, fun h => ?_⟩
  unfold Lib.trimSuffix
  rw [e1, decide_eq_true h, if_pos rfl, List.dropLast_eq_take]
  rfl
set_option maxRecDepth 4000 in
set_option maxHeartbeats 1000000 in
theorem impl_definition (l : List UInt8) (a : Int) (hl : l.length < 4294967281) (w : World) : Calls Tryz.prog 36 #[.string (bs l), .int .i64 a] w (DefP l a w) := by
  obtain ⟨q1, q2⟩ := suf_c l
  have F0 := Fr.alloc w (.cells #[.string ⟨#[]⟩, .int .i64 0] 56)
  have C0 : (w.alloc (.cells #[.string ⟨#[]⟩, .int .i64 0] 56)).cell? ⟨w.heap.size, 0, none⟩ = some (.string ⟨#[]⟩) := by simp
  have C1 : (w.alloc (.cells #[.string ⟨#[]⟩, .int .i64 0] 56)).cell? ⟨w.heap.size, 1, none⟩ = some (.int .i64 0) := by simp
  go_enter Tryz.func36, Tryz.ntmps36
  go_wp2_with fail
  refine (Tryz.strings_CutSuffix (bs l) ⟨#[58]⟩ _ (by show l.length ≤ _; omega)).mono ?_
  rintro e w' ⟨rfl, rfl⟩
  rw [show (bs l).data.toList = l from rfl, show (⟨#[58]⟩ : ByteArray).data.toList = [58] from rfl, q1]
  rw [show (⟨(Lib.trimSuffix l [58]).toArray⟩ : ByteArray) = bs (Lib.trimSuffix l [58]) from rfl]
  have q3 : (Lib.trimSuffix l [58]).length ≤ l.length := by
    unfold Lib.trimSuffix
    split
    · simp
    · exact Nat.le_refl _
  have Q2 := Lib.hid q2
  generalize Lib.trimSuffix l [58] = N at q3 Q2
  have Z0 : (w.alloc (.cells #[.string ⟨#[]⟩, .int .i64 0] 56)).frozen? ⟨w.heap.size, 0, none⟩ = false := by simp
  have Z1 : (w.alloc (.cells #[.string ⟨#[]⟩, .int .i64 0] 56)).frozen? ⟨w.heap.size, 1, none⟩ = false := by simp
  have hzs : w.heap.size < (w.alloc (.cells #[.string ⟨#[]⟩, .int .i64 0] 56)).heap.size := by simp
  clear q1 q2
  generalize (w.alloc (.cells #[.string ⟨#[]⟩, .int .i64 0] 56)) = wz at *
  by_cases hs : l.getLast? = some 58
  · rw [decide_eq_true hs]
    have hN := Q2.out hs
    by_cases h0 : N = []
    · have hm : mark l = none := by unfold mark; rw [if_neg]; rw [← hN, h0]; simp
      have HM := Lib.hid hm
      subst h0
      clear hm hN hs Q2
      go_wp2_with fail
      refine bodyPost_ret (v := .tuple #[.agg #[.string ⟨#[]⟩, .int .i64 0], .bool false]) (by simp [results, Tryz.results36, go_sem, C0, C1]) rfl ⟨[], 0, false, rfl, ?_, nofun, fun _ => HM.out⟩
      exact Below.setCell (Below.setCell F0 (Nat.le_refl _) _) (Nat.le_refl _) _
    · have h0' : (N == []) = false := by simp [h0]
      by_cases h6 : 6 < N.length
      · have hm : mark l = none := by unfold mark; rw [if_neg]; rw [← hN]; omega
        have HM := Lib.hid hm
        have h6' : (6 : Int) < (N.length : Int) := by omega
        clear hm hN hs Q2 h0
        go_wp2_with fail
        refine bodyPost_ret (v := .tuple #[.agg #[.string ⟨#[]⟩, .int .i64 0], .bool false]) (by simp [results, Tryz.results36, go_sem, C0, C1]) rfl ⟨[], 0, false, rfl, ?_, nofun, fun _ => HM.out⟩
        exact Below.setCell (Below.setCell F0 (Nat.le_refl _) _) (Nat.le_refl _) _
      · have h6' : ¬ (6 : Int) < (N.length : Int) := by omega
        have hp : 1 ≤ N.length := by cases N with | nil => exact absurd rfl h0 | cons _ _ => simp
        have HM : Hid (mark l = if N.all low = true then some N else none) := by
          show _ = _
          unfold mark
          rw [← hN]
          by_cases ha : N.all low = true
          · rw [if_pos ha, if_pos ⟨hs, hp, by omega, ha⟩]
          · rw [if_neg ha, if_neg (fun h => ha h.2.2.2)]
        clear hN hs Q2 h0
        go_wp2_with fail
        go_loopw [28] (fun i wr => ∃ q : Nat, q ≤ N.length ∧ i = .int .i64 q ∧ (N.take q).all low = true ∧ wr = wz) (fun i _ => N.length - (intOf i).toNat)
        case atStart => exact ⟨0, Nat.zero_le _, rfl, by simp, rfl⟩
        case round =>
          obtain ⟨q, hq, rfl, hA, rfl⟩ := hrel
          have HA := Lib.hid hA
          clear hA
          by_cases hlt : q < N.length
          · have hlt' : (q : Int) < (N.length : Int) := by omega
            have bg := bs_get N
            have bq : ∀ (h : q < N.length), N[q]'h = N.getD q 0 := fun h => by rw [List.getD_eq_getElem?_getD, List.getElem?_eq_getElem h]; rfl
            have HB : Hid (low (N.getD q 0) = false → ¬ N.all low = true) := fun h ha => by
              have := List.all_eq_true.1 ha (N.getD q 0) (by rw [List.getD_eq_getElem?_getD, List.getElem?_eq_getElem hlt]; exact List.getElem_mem hlt)
              rw [h] at this
              cases this
            have HK : Hid (low (N.getD q 0) = true → (N.take (q + 1)).all low = true) := fun h => by
              rw [List.take_add_one, List.all_append, HA.out]
              rw [List.getD_eq_getElem?_getD, List.getElem?_eq_getElem hlt] at h
              simpa [List.getElem?_eq_getElem hlt] using h
            generalize N.getD q 0 = c at bq HB HK
            by_cases h97 : c.toNat < 97
            · have h97' : (c.toNat : Int) < 97 := by omega
              go_wp2_with fail
              refine bodyPost_ret (v := .tuple #[.agg #[.string ⟨#[]⟩, .int .i64 0], .bool false]) (by simp [results, Tryz.results36, go_sem, C0, C1]) rfl ⟨[], 0, false, rfl, ?_, nofun, fun _ => ?_⟩
              · exact Below.setCell (Below.setCell F0 (Nat.le_refl _) _) (Nat.le_refl _) _
              · rw [HM.out, if_neg (HB.out (by unfold low; simp; omega))]
            · have h97' : ¬ (c.toNat : Int) < 97 := by omega
              by_cases h122 : 122 < c.toNat
              · have h122' : (122 : Int) < (c.toNat : Int) := by omega
                go_wp2_with fail
                refine bodyPost_ret (v := .tuple #[.agg #[.string ⟨#[]⟩, .int .i64 0], .bool false]) (by simp [results, Tryz.results36, go_sem, C0, C1]) rfl ⟨[], 0, false, rfl, ?_, nofun, fun _ => ?_⟩
                · exact Below.setCell (Below.setCell F0 (Nat.le_refl _) _) (Nat.le_refl _) _
                · rw [HM.out, if_neg (HB.out (by unfold low; simp; omega))]
              · have h122' : ¬ (122 : Int) < (c.toNat : Int) := by omega
                go_wp2_with fail
                go_roundw
                case rel => exact ⟨q + 1, by omega, by go_num, HK.out (by unfold low; simp; omega), by trivial⟩
                case measure => simp [intOf]; omega
          · have hge : ¬ (q : Int) < (N.length : Int) := by omega
            have e : q = N.length := by omega
            subst e
            go_wp2_with fail
            refine bodyPost_ret (v := .tuple #[.agg #[.string (bs N), .int .i64 a], .bool true]) (by simp [results, Tryz.results36, go_sem, C0, C1]) rfl ⟨N, a, true, rfl, ?_, fun _ => ⟨?_, rfl⟩, nofun⟩
            · exact Below.setCell (Below.setCell F0 (Nat.le_refl _) _) (Nat.le_refl _) _
            · have := HA.out
              rw [List.take_length] at this
              rw [HM.out, if_pos this]
  · rw [decide_eq_false hs]
    have hm : mark l = none := by unfold mark; rw [if_neg (fun h => hs h.1)]
    have HM := Lib.hid hm
    clear hm hs Q2
    go_wp2_with fail
    refine bodyPost_ret (v := .tuple #[.agg #[.string ⟨#[]⟩, .int .i64 0], .bool false]) (by simp [results, Tryz.results36, go_sem, C0, C1]) rfl ⟨[], 0, false, rfl, ?_, nofun, fun _ => HM.out⟩
    exact Below.setCell (Below.setCell F0 (Nat.le_refl _) _) (Nat.le_refl _) _
end Go.Proofs.YtecdmafhjfnloaaGreatDoor
