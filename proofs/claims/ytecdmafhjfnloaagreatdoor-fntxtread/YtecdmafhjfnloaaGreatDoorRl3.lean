/- Chapter 3: lines are read as words (TxtRead), by the program. -/
import Derived.Test.YtecdmafhjfnloaaGreatDoorRl2
namespace Go.Proofs.YtecdmafhjfnloaaGreatDoor
open Go.RowKit
set_option linter.unusedVariables false
set_option linter.unusedSimpArgs false

def OwnsI (B : Nat) (u : World) (v : Value) (L : List Int) : Prop := u.ownsRow B 3 1 v L.length (L.map (Value.int .i64))
theorem ownsI_empty (B : Nat) (w : World) (hB : B ≤ w.heap.size) : OwnsI B (w.alloc (.cells #[] 3)) (.slice (some ⟨w.heap.size, 0, none⟩) 0 0) [] := by
  refine ⟨rfl, .inr ⟨w.heap.size, 0, #[], rfl, hB, ?_, Nat.le_refl _, Nat.zero_le _, rfl, rfl⟩⟩
  show (w.heap.push _)[w.heap.size]? = _
  simp
theorem OwnsI.fr {B : Nat} {u u' : World} {v : Value} {L : List Int} (h : OwnsI B u v L) (f : Fr u u') : OwnsI B u' v L := by
  obtain ⟨h1, h2⟩ := h
  refine ⟨h1, ?_⟩
  rcases h2 with h2 | ⟨g, cap, cur, hv, hB, hg, h3⟩
  · exact .inl h2
  · refine .inr ⟨g, cap, cur, hv, hB, ?_, h3⟩
    have hlt : g < u.heap.size := by
      by_cases hh : g < u.heap.size
      · exact hh
      · rw [Array.getElem?_eq_none (by omega)] at hg; cases hg
    rw [f.block g hlt]; exact hg
theorem ownsI_app {B : Nat} {u : World} {v : Value} {L : List Int} {x : Int} (h : u.ownsRow B 3 1 v (L.length + 1) (L.map (Value.int .i64) ++ [Value.int .i64 x])) : OwnsI B u v (L ++ [x]) := by
  unfold OwnsI
  simpa using h
theorem ownI_lt {B : Nat} {u : World} {v : Value} {L : List Int} (h : OwnsI B u v L) : ∀ q, v.ownBlock = some q → B ≤ q := fun q hq => (World.ownsRow.lt h q hq).1
theorem ownsI_vc {B : Nat} {u : World} {v : Value} {L : List Int} (h : OwnsI B u v L) : ∃ ao cap, v = .slice ao L.length cap ∧ Vc B u L.length (iv L) ao := by
  obtain ⟨ao, cap, hv, hV, _⟩ := own_vc h
  refine ⟨ao, cap, hv, hV.cong fun i hi => ?_⟩
  simp [List.getD, List.getElem?_eq_getElem hi]
theorem ownsI_len {B : Nat} {u : World} {v : Value} {L : List Int} (h : OwnsI B u v L) : ∃ ao cap, v = .slice ao L.length cap := by
  obtain ⟨ao, cap, hv, _⟩ := ownsI_vc h
  exact ⟨ao, cap, hv⟩
def RdP (w : World) (r : List Int × Int) (e : Ending) (w' : World) : Prop := ∃ ao cap, e = .returned (.tuple #[.slice ao r.1.length cap, .int .i64 r.2]) ∧ Vc w.heap.size w' r.1.length (iv r.1) ao ∧ Fr w w'
theorem look_mem {ls : List (List UInt8 × Int)} {x : List UInt8} {t : Int} (h : look ls x = some t) : (x, t) ∈ ls := by
  unfold look at h
  cases hf : ls.find? (fun e => e.1 == x) with
  | none => rw [hf] at h; cases h
  | some q =>
    rw [hf] at h
    have h1 := List.mem_of_find?_eq_some hf
    have h2 := List.find?_some hf
    have h3 : q.1 = x := by simpa using h2
    have h4 : q.2 = t := by simpa using h
    rw [← h3, ← h4]
    exact h1
/-- What a scanner of a line begins with, whether the line is too long or not. -/
theorem line_begins {m : Value} {L : List UInt8 → Option Int} {at' : Int} {u' : World} {l : List UInt8} {p : Nat} (hL0 : L [] = none) (HL : ∀ x t, L x = some t → 0 ≤ t ∧ t ≤ 1000) (hat : 0 ≤ at' ∧ at' ≤ 1000)
    (q1 : l.length ≤ 30 → Sc p m L at' u' (sp l) false) (q2 : 30 < l.length → Sc p (.map none) (fun _ => none) 0 u' [] true) :
    ∃ m' L' a r bad, Sc p m' L' a u' r bad ∧ L' [] = none ∧ (∀ x t, L' x = some t → 0 ≤ t ∧ t ≤ 1000) ∧ (0 ≤ a ∧ a ≤ 1000) ∧ ∀ v b', Said (lineT a L' r) bad v b' → (b' = true → lineV at' L l = none) ∧ (b' = false → lineV at' L l = some v) := by
  by_cases h30 : l.length ≤ 30
  · refine ⟨_, _, _, _, _, q1 h30, hL0, HL, hat, fun v b' h => ?_⟩
    rw [lineV_eq, if_neg (by omega)]
    have := h.2 rfl
    cases hl : lineT at' L (sp l) with
    | none => rw [hl] at this; exact ⟨fun _ => rfl, fun h => (by rw [this] at h; cases h)⟩
    | some n => rw [hl] at this; exact ⟨fun h => (by rw [this.1] at h; cases h), fun _ => by rw [this.2]⟩
  · refine ⟨_, _, _, _, _, q2 (by omega), rfl, fun _ _ => nofun, by decide, fun v b' h => ?_⟩
    rw [lineV_eq, if_pos (by omega)]
    have := h.1 rfl
    exact ⟨fun _ => rfl, fun h => (by rw [this] at h; cases h)⟩
set_option maxRecDepth 4000 in
set_option maxHeartbeats 4000000 in
theorem impl_TxtRead (ls : List (List UInt8)) (ao : Option Addr) (cap : Nat) (w : World) (ht : Tabs3 w) (hs : Src w ls.length (tv ls) ao) (hn : ls.length ≤ 1048576) (hl : ∀ x ∈ ls, x.length < 4294967281) :
    Calls Tryz.prog 12 #[.slice ao ls.length cap] w (RdP w (tread ls)) := by
  obtain ⟨i0, hi, hz0, hz1, hz2⟩ := info_parts info_intV
  have hmx : maxLen = 9223372036854775807 := rfl
  have HT := Lib.hid ht
  have HS := Lib.hid hs
  have HL := Lib.hid hl
  clear ht hs hl
  go_enter Tryz.func12, Tryz.ntmps12
  by_cases h64 : 64 < ls.length
  · have h64' : (64 : Int) < (ls.length : Int) := by omega
    have ht : tread ls = ([], 65) := if_pos h64
    go_wp2_with fail
    refine bodyPost_ret (v := .tuple #[.slice none 0 0, .int .i64 65]) (by simp [results, Tryz.results12, go_sem]) rfl ⟨none, 0, by rw [ht]; rfl, by rw [ht]; exact Vc.nil _ _ _ _, Below.refl _ _⟩
  · have h64' : ¬ (64 : Int) < (ls.length : Int) := by omega
    have ht : tread ls = words (look (labs ls 0 [] 0 0).1) (labs ls 0 [] 0 0).2.2 ls 0 [] := if_neg h64
    have HTR := Lib.hid ht
    have HLW := Lib.hid (labs_low ls 0 [] 0 0 (fun e he => by simp at he) (by omega))
    clear ht
    go_wp2_with fail
    refine (impl_labelsOf ls _ _ _ HS.out (by omega) HL.out).mono ?_
    rintro e w2 ⟨B, rfl, hB, M2, F2, hA, tw0, tw1⟩
    generalize (labs ls 0 [] 0 0).2.2 = tw at HTR tw0 tw1
    generalize (labs ls 0 [] 0 0).1 = L at HTR HLW M2 hA
    have hL0 : look L [] = none := by
      cases h : look L [] with
      | none => rfl
      | some t => have := (HLW.out _ (look_mem h)).2.1; simp at this
    have hLB : ∀ x t, look L x = some t → 0 ≤ t ∧ t ≤ 1000 := fun x t h => by have := hA _ (look_mem h); simp at this; omega
    replace hL0 := Lib.hid hL0
    replace hLB := Lib.hid hLB
    replace M2 := Lib.hid M2
    clear hA HLW
    have hs2 := F2.size
    go_wp2_with fail
    go_loopw [6, 24] (fun o i wr => ∃ (p : Nat) (out : List Int), p ≤ ls.length ∧ i = .int .i64 p ∧ words (look L) tw (ls.drop p) p out = tread ls ∧ OwnsI w2.heap.size wr o out ∧ out.length ≤ p ∧ Fr w2 wr) (fun _ i _ => ls.length - (intOf i).toNat)
    case atStart => exact ⟨0, [], Nat.zero_le _, rfl, HTR.out.symm, ownsI_empty _ _ (Nat.le_refl _), Nat.le_refl _, Fr.alloc _ _⟩
    case round =>
      obtain ⟨p, out, hp, rfl, hE, hO, hol, hF⟩ := hrel
      obtain ⟨ao1, cap1, rfl⟩ := ownsI_len hO
      have HE := Lib.hid hE
      have HO := Lib.hid hO
      have FF := Lib.hid (F2.trans hF)
      have HF := Lib.hid hF
      have hsz := FF.out.size
      have hszF := HF.out.size
      clear hE hO HTR
      by_cases hlt : p < ls.length
      · have hlt' : (p : Int) < (ls.length : Int) := by omega
        obtain ⟨g, o, rfl, hgl, hc⟩ := HS.out (by omega)
        have d0 : wr.cell? ⟨g, o + p, none⟩ = some (.string (bs (ls.getD p []))) := by rw [FF.out.cell hgl]; exact hc p hlt
        have hx : (ls.getD p []).length < 4294967281 := HL.out _ (by rw [List.getD_eq_getElem?_getD, List.getElem?_eq_getElem hlt]; exact List.getElem_mem hlt)
        have hdr : ls.drop p = ls.getD p [] :: ls.drop (p + 1) := by
          rw [List.drop_eq_getElem_cons hlt, List.getD_eq_getElem?_getD, List.getElem?_eq_getElem hlt]
          rfl
        rw [hdr] at HE
        generalize ls.getD p [] = x at d0 hx HE
        clear hdr hc hF
        by_cases htw : (p : Int) + 1 = tw
        · have he : tread ls = ([], tw) := by rw [← HE.out]; simp only [words, if_pos htw]
          go_wp2_with fail
          refine bodyPost_ret (v := .tuple #[.slice none 0 0, .int .i64 tw]) (by simp [results, Tryz.results12, go_sem]) rfl ⟨none, 0, by rw [he]; rfl, by rw [he]; exact Vc.nil _ _ _ _, FF.out⟩
        · have htw' : ((p : Int) + 1 == tw) = false := by simp [htw]
          go_wp2_with fail
          refine (impl_definition x _ hx _).mono ?_
          rintro e u1 ⟨nm, b, ok, rfl, f1, k1, k2⟩
          have f2 := f1.trans (Fr.alloc u1 (.cells #[.string (bs nm), .int .i64 b] 56))
          cases ok
          · have hm := k2 rfl
            have HM := Lib.hid hm
            clear k1 k2 hm
            go_wp2_with fail
            refine (impl_newLineScanner x hx (some B) (look L) out.length _ (HT.out.fr (FF.out.trans f2)) (((M2.out.fr HF.out).fr f2).is _ (((M2.out.fr HF.out).fr f2).lt))).mono ?_
            rintro e u3 ⟨q, rfl, hq, f3, q1, q2⟩
            obtain ⟨m', L', a', r', bad', S3, y1, y2, y3, y4⟩ := line_begins hL0.out hLB.out (by omega) q1 q2
            have f23 := f2.trans f3
            clear q1 q2
            replace S3 := Lib.hid S3
            replace y1 := Lib.hid y1
            replace y2 := Lib.hid y2
            replace y4 := Lib.hid y4
            go_wp2_with fail
            refine (impl_statement S3.out y1.out y2.out y3).mono ?_
            rintro e u4 ⟨v, r4, b4, rfl, S4, A4, D4⟩
            have f4 : Fr wr u4 := Ap.fr f23 A4 (Nat.le_trans f2.size hq)
            have c3 := S4.c3
            obtain ⟨z1, z2⟩ := y4.out v b4 D4
            have hs4 := f4.size
            clear S4 A4 D4 y4 y1 y2 S3
            cases b4
            · have hv := z2 rfl
              have HE2 : Hid (words (look L) tw (ls.drop (p + 1)) (p + 1) (out ++ [v]) = tread ls) := by
                have := HE.out
                simp only [words, if_neg htw, HM.out, hv] at this
                exact this
              simp only [Bool.false_eq_true, if_false] at c3
              have HO4 := Lib.hid (HO.out.fr f4)
              clear z1 z2 hv HE
              go_wp2_with (at_builtin; refine wpList_append_own _ rfl _ _ 23 rfl w2.heap.size 3 i0 (.int .i64 0) 1 8 Tryz.underlying23 hi hz0 hz1 hz2 rfl (by decide) _ _ _ rfl (World.ownsRow.alloc HO4.out _) _ 1 1 [.int .i64 v] rfl rfl (cell_str_at _ _ _ _ (by simp)) (fun x hx => by simp at hx; subst hx; rfl) (show out.length + 1 ≤ maxLen by omega) (by omega) (by simp; omega) ?_; intro v1 w4 hown1 hg1 _)
              have F4 : Fr w2 w4 := Below.grown ((HF.out.trans f4).trans (Fr.alloc _ _)) hg1 (by simp; omega) (ownI_lt HO4.out)
              go_roundw
              case rel => exact ⟨p + 1, out ++ [v], by omega, by go_num, HE2.out, ownsI_app hown1, by simp; omega, F4⟩
              case measure => simp [intOf]; omega
            · have hv := z1 rfl
              have he : tread ls = ([], (p : Int) + 1) := by rw [← HE.out]; simp only [words, if_neg htw, HM.out, hv]
              simp only [if_true] at c3
              obtain ⟨t3, k3, c3⟩ := c3
              go_wp2_with fail
              refine bodyPost_ret (v := .tuple #[.slice none 0 0, .int .i64 ((p : Int) + 1)]) (by simp [results, Tryz.results12, go_sem]) rfl ⟨none, 0, by rw [he]; rfl, by rw [he]; exact Vc.nil _ _ _ _, FF.out.trans f4⟩
          · obtain ⟨hm, rfl⟩ := k1 rfl
            have HE2 : Hid (words (look L) tw (ls.drop (p + 1)) (p + 1) out = tread ls) := by
              have := HE.out
              simp only [words, if_neg htw, hm] at this
              exact this
            clear k1 k2 hm HE
            go_wp2_with fail
            go_roundw
            case rel => exact ⟨p + 1, out, by omega, by go_num, HE2.out, HO.out.fr f2, by omega, HF.out.trans f2⟩
            case measure => simp [intOf]; omega
      · have hge : ¬ (p : Int) < (ls.length : Int) := by omega
        have e : p = ls.length := by omega
        subst e
        clear hF
        go_wp2_with fail
        have hE := HE.out
        rw [List.drop_length] at hE
        simp only [words] at hE
        obtain ⟨ao2, cap2, hv, hV⟩ := ownsI_vc HO.out
        refine bodyPost_ret (v := .tuple #[.slice ao1 out.length cap1, .int .i64 0]) (by simp [results, Tryz.results12, go_sem]) rfl ⟨ao1, cap1, by rw [← hE], ?_, FF.out⟩
        rw [← hE]
        cases hv
        exact hV.mono hs2
end Go.Proofs.YtecdmafhjfnloaaGreatDoor
