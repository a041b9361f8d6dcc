/- Chapter 3: the scanner of a line: numbers, registers, labels, names. -/
import Derived.Test.YtecdmafhjfnloaaDoorSc0
import Derived.Lib.AtoiErrMem
namespace Go.Proofs.YtecdmafhjfnloaaDoor
open Go.RowKit
set_option linter.unusedVariables false

def DecP (p : Nat) (m : Value) (L : List UInt8 → Option Int) (at' : Int) (u : World) (r : List (List UInt8)) (bad : Bool) (l : List UInt8) (e : Ending) (u' : World) : Prop :=
  ∃ v bad', e = .returned (.int .i64 v) ∧ Sc p m L at' u' r bad' ∧ Ap p u u' ∧ (bad = true → bad' = true) ∧ (∀ n, canon l = some n → v = n ∧ bad' = bad) ∧ (canon l = none → bad' = true)
/-- strconv.Atoi, of a short text. -/
theorem impl_Atoi (l : List UInt8) (hl : l.length ≤ 30) (w : World) (ht : Tabs3 w) : Calls Tryd.prog 101 #[.string (bs l)] w fun e w' => ((∃ v, Lib.atoiAll l = .ok v ∧ e = .returned (.tuple #[.int .i64 v, .nilIface])) ∨ ((∀ v, Lib.atoiAll l ≠ .ok v) ∧ ∃ v t q, e = .returned (.tuple #[.int .i64 v, .iface t q]))) ∧ Fr w w' := by
  have hs : (bs l).size ≤ 30 := hl
  have hd : (bs l).data.toList = l := rfl
  rcases ha : Lib.atoiAll l with v | _ | _
  · refine (Tryd.strconv_Atoi_ok (bs l) (by omega) v (by rw [hd]; exact ha) w).mono ?_
    rintro e w' ⟨rfl, hw⟩
    refine ⟨.inl ⟨v, rfl, rfl⟩, ?_⟩
    rcases hw with rfl | ⟨t, rfl⟩
    · exact Below.refl _ _
    · exact Lib.bytesWorld_below _ _ _
  · obtain ⟨t, q, h⟩ := ht.e7
    refine (Tryd.strconv_Atoi_syntax (bs l) (by omega) (by rw [hd]; exact ha) _ w h (.inr ⟨t, q, rfl⟩)).mono ?_
    rintro e w' ⟨N, rfl, _, _, hb⟩
    exact ⟨.inr ⟨nofun, _, _, _, rfl⟩, hb⟩
  · obtain ⟨t, q, h⟩ := ht.e8
    refine (Tryd.strconv_Atoi_range (bs l) (by omega) (by rw [hd]; exact ha) _ w h (.inr ⟨t, q, rfl⟩)).mono ?_
    rintro e w' ⟨N, rfl, _, _, hb⟩
    exact ⟨.inr ⟨nofun, _, _, _, rfl⟩, hb⟩
theorem canon_ok {l : List UInt8} {v : Int} (h : Lib.atoiAll l = .ok v) : canon l = if Lib.itoa v = l then some v else none := by
  unfold canon; rw [h]
theorem canon_bad {l : List UInt8} (h : ∀ v, Lib.atoiAll l ≠ .ok v) : canon l = none := by
  unfold canon
  split
  · rename_i n hn; exact absurd hn (h n)
  · rfl
set_option maxHeartbeats 1000000 in
theorem impl_decimal {p : Nat} {m : Value} {L : List UInt8 → Option Int} {at' : Int} {u : World} {r : List (List UInt8)} {bad : Bool} (h : Sc p m L at' u r bad) (l : List UInt8) (hl : l.length ≤ 30) :
    Calls Tryd.prog 88 #[.pointer (some ⟨p, 0, none⟩), .string (bs l)] u (DecP p m L at' u r bad l) := by
  have H := Lib.hid h
  obtain ⟨te, qe, he⟩ := h.tabs.e5
  clear h
  go_enter Tryd.func88, Tryd.ntmps88
  go_wp2_with fail
  refine (impl_Atoi l hl _ H.out.tabs).mono ?_
  rintro e w1 ⟨hv, f1⟩
  have S1 := Lib.hid (H.out.fr f1)
  have A1 := Lib.hid (Ap.of (p := p) f1)
  clear H he
  rcases hv with ⟨v, ha, rfl⟩ | ⟨ha, v, t, q, rfl⟩
  · have hb := atoi_bd ha
    have CK := Lib.hid (canon_ok ha)
    clear ha
    by_cases hq : Lib.itoa v = l
    · have hq' : (Lib.itoa v == l) = true := by simp [hq]
      go_wp2_with (go_at_call 55; refine (impl_Itoa _ hb.1 hb.2 _ S1.out.tabs.base).mono ?_; rintro e w2 ⟨rfl, f2⟩)
      go_ret
      rw [if_pos hq] at CK
      exact ⟨v, bad, rfl, S1.out.fr f2, A1.out.trans (Ap.of f2), id, fun n hn => ⟨by rw [CK.out] at hn; exact Option.some.inj hn, rfl⟩, fun hn => by rw [CK.out] at hn; cases hn⟩
    · have hq' : (Lib.itoa v == l) = false := by simp [hq]
      rw [if_neg hq] at CK
      clear hq
      go_wp2_with (first | (go_at_call 55; refine (impl_Itoa _ hb.1 hb.2 _ S1.out.tabs.base).mono ?_; rintro e w2 ⟨rfl, f2⟩; have S2 := Lib.hid (S1.out.fr f2); have A2 := Lib.hid (A1.out.trans (Ap.of f2)); clear f2; obtain ⟨t2, q2, he2⟩ := S2.out.tabs.e5) | (go_at_call 79; refine (impl_fail S2.out _ _).mono ?_; rintro e w3 ⟨rfl, S3, A3⟩; replace S3 := Lib.hid S3; replace A3 := Lib.hid A3))
      go_ret
      exact ⟨v, true, rfl, S3.out, A2.out.trans A3.out, fun _ => rfl, fun n hn => (by rw [CK.out] at hn; cases hn), fun _ => rfl⟩
  · have CK := Lib.hid (canon_bad ha)
    clear ha
    obtain ⟨t2, q2, he2⟩ := S1.out.tabs.e5
    go_wp2_with (go_at_call 79; refine (impl_fail S1.out _ _).mono ?_; rintro e w3 ⟨rfl, S3, A3⟩; replace S3 := Lib.hid S3; replace A3 := Lib.hid A3)
    go_ret
    exact ⟨v, true, rfl, S3.out, A1.out.trans A3.out, fun _ => rfl, fun n hn => (by rw [CK.out] at hn; cases hn), fun _ => rfl⟩
def TakeP (f : List UInt8 → Option Int) (p : Nat) (m : Value) (L : List UInt8 → Option Int) (at' : Int) (u : World) (r : List (List UInt8)) (bad : Bool) (e : Ending) (u' : World) : Prop :=
  ∃ v r' bad', e = .returned (.int .i64 v) ∧ Sc p m L at' u' r' bad' ∧ Ap p u u' ∧ Took f r bad v r' bad'
/-- A word, and then what it is. -/
theorem took_two {f : List UInt8 → Option Int} {r r' : List (List UInt8)} {bad b1 b2 : Bool} {s : List UInt8} {v : Int} (h : Took some r bad s r' b1) (h1 : b1 = true → b2 = true) (h2 : b1 = false → ∀ n, f s = some n → v = n ∧ b2 = false) (h3 : b1 = false → f s = none → b2 = true) : Took f r bad v r' b2 := by
  refine ⟨fun hb => h1 (h.1 hb), fun hb => ?_⟩
  have := h.2 hb
  cases r with
  | nil => exact h1 this
  | cons x t =>
    obtain ⟨e1, e2, e3⟩ := this
    subst e2
    simp only
    cases hf : f s with
    | none => exact h3 e1 hf
    | some n => exact ⟨(h2 e1 n hf).2, (h2 e1 n hf).1, e3⟩
theorem impl_number {p : Nat} {m : Value} {L : List UInt8 → Option Int} {at' : Int} {u : World} {r : List (List UInt8)} {bad : Bool} (h : Sc p m L at' u r bad) :
    Calls Tryd.prog 76 #[.pointer (some ⟨p, 0, none⟩)] u (TakeP canon p m L at' u r bad) := by
  have H := Lib.hid h
  clear h
  go_enter Tryd.func76, Tryd.ntmps76
  go_wp2_with fail
  refine (impl_field H.out).mono ?_
  rintro e u1 ⟨s, r', b1, rfl, S1, A1, hs, T1, _⟩
  replace S1 := Lib.hid S1
  replace A1 := Lib.hid A1
  replace T1 := Lib.hid T1
  go_wp2_with fail
  refine (impl_decimal S1.out s hs).mono ?_
  rintro e u2 ⟨v, b2, rfl, S2, A2, d1, d2, d3⟩
  replace S2 := Lib.hid S2
  replace A2 := Lib.hid A2
  replace d1 := Lib.hid d1
  replace d2 := Lib.hid d2
  replace d3 := Lib.hid d3
  go_wp2
  go_ret
  exact ⟨v, r', b2, rfl, S2.out, A1.out.trans A2.out, took_two T1.out d1.out (fun hb n hn => by have := d2.out n hn; exact ⟨this.1, this.2.trans hb⟩) (fun _ hn => d3.out hn)⟩
theorem pre_r (s : List UInt8) : Lib.hasPrefix s [114] = decide (s.head? = some 114) ∧ (s.head? = some 114 → Lib.trimPrefix s [114] = s.tail) ∧ (Lib.trimPrefix s [114]).length ≤ s.length := by
  cases s with
  | nil => decide
  | cons c t =>
    by_cases hc : c = 114
    · subst hc
      simp [Lib.hasPrefix, Lib.trimPrefix, List.isPrefixOf]
    · simp [Lib.hasPrefix, Lib.trimPrefix, List.isPrefixOf, hc, Ne.symm hc]
set_option maxHeartbeats 1000000 in
theorem impl_register {p : Nat} {m : Value} {L : List UInt8 → Option Int} {at' : Int} {u : World} {r : List (List UInt8)} {bad : Bool} (h : Sc p m L at' u r bad) :
    Calls Tryd.prog 75 #[.pointer (some ⟨p, 0, none⟩)] u (TakeP regI p m L at' u r bad) := by
  have H := Lib.hid h
  clear h
  go_enter Tryd.func75, Tryd.ntmps75
  go_wp2_with fail
  refine (impl_field H.out).mono ?_
  rintro e u1 ⟨s, r', b1, rfl, S1, A1, hs, T1, _⟩
  replace S1 := Lib.hid S1
  replace A1 := Lib.hid A1
  replace T1 := Lib.hid T1
  clear H
  go_wp2_with fail
  refine (Tryd.strings_CutPrefix (bs s) ⟨#[114]⟩ u1).mono ?_
  rintro e w' ⟨rfl, rfl⟩
  obtain ⟨q1, q2, q3⟩ := pre_r s
  have Q2 := Lib.hid q2
  rw [show (bs s).data.toList = s from rfl, show (⟨#[114]⟩ : ByteArray).data.toList = [114] from rfl, q1]
  generalize hT : Lib.trimPrefix s [114] = T at q3 Q2
  clear q1 q2 hT
  have hT30 : T.length ≤ 30 := by omega
  by_cases hh : s.head? = some 114
  · have hr : Hid (regI s = canon T) := by show regI s = canon T; unfold regI; rw [if_pos hh, Q2.out hh]
    rw [decide_eq_true hh]
    clear hh Q2
    go_wp2_with fail
    refine (impl_decimal S1.out T hT30).mono ?_
    rintro e u2 ⟨v, b2, rfl, S2, A2, d1, d2, d3⟩
    replace S2 := Lib.hid S2
    replace A2 := Lib.hid A2
    replace d1 := Lib.hid d1
    replace d2 := Lib.hid d2
    replace d3 := Lib.hid d3
    go_wp2
    go_ret
    exact ⟨v, r', b2, rfl, S2.out, A1.out.trans A2.out, took_two T1.out d1.out (fun hb n hn => by rw [hr.out] at hn; have := d2.out n hn; exact ⟨this.1, this.2.trans hb⟩) (fun _ hn => by rw [hr.out] at hn; exact d3.out hn)⟩
  · have hr : Hid (regI s = none) := by show regI s = none; unfold regI; rw [if_neg hh]
    rw [decide_eq_false hh]
    clear hh Q2
    obtain ⟨t2, z2, he2⟩ := S1.out.tabs.e4
    go_wp2_with fail
    refine (impl_fail S1.out _ _).mono ?_
    rintro e u3 ⟨rfl, S3, A3⟩
    replace S3 := Lib.hid S3
    replace A3 := Lib.hid A3
    clear he2
    go_wp2_with fail
    refine (impl_decimal S3.out T hT30).mono ?_
    rintro e u2 ⟨v, b2, rfl, S2, A2, d1, d2, d3⟩
    replace S2 := Lib.hid S2
    replace A2 := Lib.hid A2
    have d4 := Lib.hid (d1 rfl)
    clear d1 d2 d3
    go_wp2
    go_ret
    exact ⟨v, r', b2, rfl, S2.out, (A1.out.trans A3.out).trans A2.out, took_two T1.out (fun _ => d4.out) (fun hb n hn => by rw [hr.out] at hn; cases hn) (fun _ _ => d4.out)⟩
set_option maxHeartbeats 1000000 in
theorem impl_distance {p : Nat} {m : Value} {L : List UInt8 → Option Int} {at' : Int} {u : World} {r : List (List UInt8)} {bad : Bool} (h : Sc p m L at' u r bad) (h0 : L [] = none) (HL : ∀ x t, L x = some t → 0 ≤ t ∧ t ≤ 1000) (hat : 0 ≤ at' ∧ at' ≤ 1000) :
    Calls Tryd.prog 89 #[.pointer (some ⟨p, 0, none⟩)] u (TakeP (fun x => (labD at' L x).or (canon x)) p m L at' u r bad) := by
  have H := Lib.hid h
  clear h
  obtain ⟨at0, at1⟩ := hat
  go_enter Tryd.func89, Tryd.ntmps89
  go_wp2_with fail
  refine (impl_field H.out).mono ?_
  rintro e u1 ⟨s, r', b1, rfl, S1, A1, hs, T1, hbad⟩
  replace T1 := Lib.hid T1
  have c1 := S1.c1
  have c2 := S1.c2
  have X := S1.mp u1 (Below.refl _ _) s hs
  replace S1 := Lib.hid S1
  replace A1 := Lib.hid A1
  clear H
  cases hL : L s with
  | some t =>
    have hb1 : Hid (b1 = false) := by
      show b1 = false
      cases b1
      · rfl
      · rw [hbad rfl, h0] at hL; cases hL
    have ht := HL s t hL
    have hd : Hid (labD at' L s = some (t - at' - 1)) := by show labD at' L s = _; unfold labD; rw [hL]; rfl
    rw [hL] at X
    simp only [Option.getD_some, Option.isSome_some] at X
    clear hL hbad h0 HL
    obtain ⟨ht0, ht1⟩ := ht
    go_wp2
    go_ret
    refine ⟨t - at' - 1, r', b1, ?_, S1.out, A1.out, took_two T1.out id (fun hb n hn => ⟨?_, hb⟩) (fun hb hn => ?_)⟩
    · rfl
    · rw [hd.out] at hn; exact Option.some.inj hn
    · rw [hd.out] at hn; cases hn
  | none =>
    have hd : Hid ((labD at' L s).or (canon s) = canon s) := by show _ = _; unfold labD; rw [hL]; rfl
    rw [hL] at X
    simp only [Option.getD_none, Option.isSome_none] at X
    clear hL hbad h0 HL
    go_wp2_with (go_at_call 88; refine (impl_decimal S1.out s hs).mono ?_; rintro e u2 ⟨v, b2, rfl, S2, A2, d1, d2, d3⟩; replace S2 := Lib.hid S2; replace A2 := Lib.hid A2; replace d1 := Lib.hid d1; replace d2 := Lib.hid d2; replace d3 := Lib.hid d3)
    go_ret
    exact ⟨v, r', b2, rfl, S2.out, A1.out.trans A2.out, took_two T1.out d1.out (fun hb n hn => by rw [hd.out] at hn; have := d2.out n hn; exact ⟨this.1, this.2.trans hb⟩) (fun _ hn => by rw [hd.out] at hn; exact d3.out hn)⟩
end Go.Proofs.YtecdmafhjfnloaaDoor
