/- Chapter 3: the labels of a text (a map), by the program. -/
import Derived.Test.YtecdmafhjfnloaaGreatDoorRl1
import Derived.Test.YtecdmafhjfnloaaGreatDoorWr
import Derived.Maps.OwnSet
namespace Go.Proofs.YtecdmafhjfnloaaGreatDoor
open Go.RowKit Go.Maps
set_option linter.unusedVariables false
set_option linter.unusedSimpArgs false

theorem lawS : Keyed Tryz.prog 9 := string_keyed Tryz.underlying9
theorem zeroI (w : World) : (zeroValue 3).run Tryz.prog w = .ok (.int .i64 0) w := by kernel_rfl
/-- Block B is a map of at most n labels: these, the first of a name ahead. -/
def MapL (B n : Nat) (ls : List (List UInt8 × Int)) (u : World) : Prop :=
  ∃ D : DataW Unit, u.ownsMap Tryz.prog 9 (plainElem Tryz.prog 3) B n D ∧ ∀ l : List UInt8, Maps.has D (.string l) = (look ls l).isSome ∧ D.atKey (.string l) (.lit (.int .i64 0)) = .lit (.int .i64 ((look ls l).getD 0))
theorem MapL.made (w : World) : MapL w.heap.size 0 [] (w.alloc (.map #[] 0)) :=
  ⟨.map [], World.ownsMap_made _ _ _ _, fun l => ⟨rfl, rfl⟩⟩
theorem MapL.lt {B n : Nat} {ls : List (List UInt8 × Int)} {u : World} (h : MapL B n ls u) : B < u.heap.size := by obtain ⟨D, h, _⟩ := h; exact h.lt
theorem MapL.below {B B' n : Nat} {ls : List (List UInt8 × Int)} {u u' : World} (h : MapL B n ls u) (f : Below B' u u') (hB : B < B') : MapL B n ls u' := by
  obtain ⟨D, ⟨es, clock, h1, h2⟩, hD⟩ := h
  exact ⟨D, ⟨es, clock, by rw [f.block B hB]; exact h1, h2⟩, hD⟩
theorem MapL.fr {B n : Nat} {ls : List (List UInt8 × Int)} {u u' : World} (h : MapL B n ls u) (f : Fr u u') : MapL B n ls u' := h.below f h.lt
theorem key_s (l : List UInt8) (hl : l.length ≤ maxLen) : keyOf Tryz.prog 9 (.string (bs l)) = some (.string l) := Go.WideMaps.keyOf_string_mk Tryz.underlying9 hl
theorem MapL.looks {B n : Nat} {ls : List (List UInt8 × Int)} {u : World} (h : MapL B n ls u) (l : List UInt8) (hl : l.length ≤ maxLen) :
    (Instr.lookup 52 (.map (some B)) (.string (bs l)) true).run Tryz.prog u = .ok (.tuple #[.int .i64 ((look ls l).getD 0), .bool (look ls l).isSome]) u := by
  obtain ⟨D, h, hD⟩ := h
  obtain ⟨v, ps, h1, h2⟩ := h.look_ok lawS Tryz.underlying52 (zeroI u) (plainElem_int Tryz.underlying3 (by decide)) (key_s l hl)
  obtain ⟨d1, d2⟩ := hD l
  rw [d2] at h2
  obtain ⟨a, rfl, e, _⟩ := plainElem_int_inv Tryz.underlying3 h2
  have ea : (look ls l).getD 0 = a := (show (look ls l).getD 0 = a ∧ ps = [] by simpa using e).1
  rw [h1, d1, ea]
theorem MapL.is {B n : Nat} {ls : List (List UInt8 × Int)} {u : World} (h : MapL B n ls u) (p : Nat) (hp : B < p) : MapIs p (.map (some B)) (look ls) u :=
  fun u' f l hl => (h.below f hp).looks l (Nat.le_trans hl (by decide))
theorem look_snoc {ls : List (List UInt8 × Int)} {name : List UInt8} (h : look ls name = none) (a : Int) (x : List UInt8) : look (ls ++ [(name, a)]) x = if x = name then some a else look ls x := by
  unfold look at *
  rw [List.find?_append]
  by_cases hx : x = name
  · subst hx
    rw [if_pos rfl]
    have : ls.find? (fun e => e.1 == x) = none := by simpa using h
    rw [this]
    simp
  · rw [if_neg hx]
    have : (name == x) = false := by simp [Ne.symm hx]
    simp [this]
theorem MapL.put {B n : Nat} {ls : List (List UInt8 × Int)} {u : World} {D : DataW Unit} {name : List UInt8} {a : Int} (h : u.ownsMap Tryz.prog 9 (plainElem Tryz.prog 3) B n (D.put (.string name) (.lit (.int .i64 a)))) (hm : IsMap D)
    (hD : ∀ l : List UInt8, Maps.has D (.string l) = (look ls l).isSome ∧ D.atKey (.string l) (.lit (.int .i64 0)) = .lit (.int .i64 ((look ls l).getD 0))) (hl : look ls name = none) : MapL B n (ls ++ [(name, a)]) u := by
  refine ⟨_, h, fun l => ?_⟩
  rw [look_snoc hl]
  by_cases hx : l = name
  · subst hx
    rw [if_pos rfl, has_put_same (k := .string l) hm trivial, atKey_put_same (k := .string l) hm trivial]
    exact ⟨rfl, rfl⟩
  · have hne : Lit.string l ≠ Lit.string name := fun e => hx (by injection e)
    rw [if_neg hx, has_put_other hne, atKey_put_other hne]
    exact hD l
/-- Where labels stand. -/
def Ats (ls : List (List UInt8 × Int)) (n : Int) : Prop := ∀ e ∈ ls, 0 ≤ e.2 ∧ e.2 ≤ n
def LabP (ls : List (List UInt8)) (w : World) (e : Ending) (w' : World) : Prop :=
  ∃ B, e = .returned (.tuple #[.map (some B), .int .i64 (labs ls 0 [] 0 0).2.2]) ∧ w.heap.size ≤ B ∧ MapL B ls.length (labs ls 0 [] 0 0).1 w' ∧ Fr w w' ∧ Ats (labs ls 0 [] 0 0).1 ls.length ∧ 0 ≤ (labs ls 0 [] 0 0).2.2 ∧ (labs ls 0 [] 0 0).2.2 ≤ ls.length
theorem mapl_mono {B n m : Nat} {ls : List (List UInt8 × Int)} {u : World} (h : MapL B n ls u) (hn : n ≤ m) : MapL B m ls u := by
  obtain ⟨D, h1, h2⟩ := h
  exact ⟨D, h1.mono hn, h2⟩
set_option maxRecDepth 4000 in
set_option maxHeartbeats 2000000 in
theorem impl_labelsOf (ls : List (List UInt8)) (ao : Option Addr) (cap : Nat) (w : World) (hs : Src w ls.length (tv ls) ao) (hn : ls.length ≤ 64) (hl : ∀ x ∈ ls, x.length < 4294967281) :
    Calls Tryz.prog 35 #[.slice ao ls.length cap] w (LabP ls w) := by
  have hmx : maxLen = 9223372036854775807 := rfl
  have hmm := @run_makeMap Tryz.prog
  have HS := Lib.hid hs
  have HL := Lib.hid hl
  clear hs hl
  go_enter Tryz.func35, Tryz.ntmps35
  go_wp2_with fail
  go_loopw [5, 6, 16] (fun a t i wr => ∃ (p : Nat) (at' tw : Int) (L : List (List UInt8 × Int)), p ≤ ls.length ∧ i = .int .i64 p ∧ a = .int .i64 at' ∧ t = .int .i64 tw ∧ labs (ls.drop p) p L at' tw = labs ls 0 [] 0 0 ∧ 0 ≤ at' ∧ at' ≤ p ∧ 0 ≤ tw ∧ tw ≤ p ∧ Ats L ls.length ∧ MapL w.heap.size p L wr ∧ Fr w wr) (fun _ _ i _ => ls.length - (intOf i).toNat)
  case atStart => exact ⟨0, 0, 0, [], Nat.zero_le _, rfl, rfl, rfl, rfl, by omega, by omega, by omega, by omega, fun e he => by simp at he, MapL.made w, Fr.alloc _ _⟩
  case round =>
    obtain ⟨p, at', tw, L, hp, rfl, rfl, rfl, hE, a0, a1, t0, t1, hA, hM, hF⟩ := hrel
    have HE := Lib.hid hE
    have HA := Lib.hid hA
    have HM := Lib.hid hM
    have HF := Lib.hid hF
    have hsz := hF.size
    clear hE hA
    by_cases hlt : p < ls.length
    · have hlt' : (p : Int) < (ls.length : Int) := by omega
      obtain ⟨g, o, rfl, hgl, hc⟩ := HS.out (by omega)
      have d0 : wr.cell? ⟨g, o + p, none⟩ = some (.string (bs (ls.getD p []))) := by rw [hF.cell hgl]; exact hc p hlt
      have hx : (ls.getD p []).length < 4294967281 := HL.out _ (by rw [List.getD_eq_getElem?_getD, List.getElem?_eq_getElem hlt]; exact List.getElem_mem hlt)
      have hdr : ls.drop p = ls.getD p [] :: ls.drop (p + 1) := by
        rw [List.drop_eq_getElem_cons hlt, List.getD_eq_getElem?_getD, List.getElem?_eq_getElem hlt]
        rfl
      rw [hdr] at HE
      generalize ls.getD p [] = x at d0 hx HE
      clear hdr hc hF hM
      go_wp2_with fail
      refine (impl_definition x at' hx _).mono ?_
      rintro e u1 ⟨nm, b, ok, rfl, f1, k1, k2⟩
      have f2 := f1.trans (Fr.alloc u1 (.cells #[.string (bs nm), .int .i64 b] 56))
      have F2 := HF.out.trans f2
      have M2 := HM.out.fr f2
      cases ok
      · have hm := k2 rfl
        have HE2 : Hid (labs (ls.drop (p + 1)) (p + 1) L (at' + 1) tw = labs ls 0 [] 0 0) := by
          have := HE.out
          simp only [labs, hm] at this
          exact this
        have HM2 := Lib.hid M2
        clear k1 k2 hm HE M2 HM
        go_wp2_with fail
        go_roundw
        case rel => exact ⟨p + 1, at' + 1, tw, L, by omega, by go_num, rfl, rfl, HE2.out, by omega, by omega, by omega, by omega, HA.out, mapl_mono HM2.out (by omega), F2⟩
        case measure => simp [intOf]; omega
      · obtain ⟨hm, rfl⟩ := k1 rfl
        have hml := mark_low hm
        have hk := key_s nm (by omega)
        have X := M2.looks nm (by omega)
        have wfb : (Lit.int .i64 b).wf = true := WalkArith.wf_i64 (by omega)
        cases hlk : look L nm with
        | none =>
          have HE2 : Hid (labs (ls.drop (p + 1)) (p + 1) (L ++ [(nm, b)]) b tw = labs ls 0 [] 0 0) := by
            have := HE.out
            simp only [labs, hm, hlk] at this
            exact this
          rw [hlk] at X
          simp only [Option.getD_none, Option.isSome_none] at X
          obtain ⟨D, hown, hD⟩ := M2
          have HD := Lib.hid hD
          have HW := Lib.hid hown
          have hLK := Lib.hid hlk
          clear k1 k2 HE HM hD hlk hm hown
          go_wp2_with (at_mapUpdate; refine wpList_mapUpdate_own _ rfl _ _ _ 52 rfl 9 3 lawS Tryz.underlying52 _ w.heap.size p D rfl HW.out (by omega) _ _ _ rfl rfl hk _ [] (plainElem_int Tryz.underlying3 wfb) ?_; intro w1 hown1 hgrow1)
          have F3 : Fr w w1 := Below.trans F2 (grown_below (B := w.heap.size) hgrow1 (Nat.le_refl _) F2.size)
          go_roundw
          case rel =>
            refine ⟨p + 1, b, tw, L ++ [(nm, b)], by omega, by go_num, rfl, rfl, HE2.out, by omega, by omega, by omega, by omega, fun e he => ?_, MapL.put hown1 HW.out.isMap HD.out hLK.out, F3⟩
            rcases List.mem_append.1 he with he | he
            · exact HA.out e he
            · rw [List.mem_singleton.1 he]; exact ⟨by omega, by show b ≤ _; omega⟩
          case measure => simp [intOf]; omega
        | some t' =>
          have HE2 : Hid (labs (ls.drop (p + 1)) (p + 1) L b (if tw = 0 then (p : Int) + 1 else tw) = labs ls 0 [] 0 0) := by
            have := HE.out
            simp only [labs, hm, hlk] at this
            exact this
          rw [hlk] at X
          simp only [Option.getD_some, Option.isSome_some] at X
          have HM2 := Lib.hid M2
          clear k1 k2 HE HM hlk hm M2
          by_cases ht0 : tw = 0
          · subst ht0
            go_wp2_with fail
            go_roundw
            case rel => exact ⟨p + 1, b, (p : Int) + 1, L, by omega, by go_num, rfl, by go_num, HE2.out, by omega, by omega, by omega, by omega, HA.out, mapl_mono HM2.out (by omega), F2⟩
            case measure => simp [intOf]; omega
          · have ht0' : (tw == 0) = false := by simp [ht0]
            rw [if_neg ht0] at HE2
            go_wp2_with fail
            go_roundw
            case rel => exact ⟨p + 1, b, tw, L, by omega, by go_num, rfl, rfl, HE2.out, by omega, by omega, by omega, by omega, HA.out, mapl_mono HM2.out (by omega), F2⟩
            case measure => simp [intOf]; omega
    · have hge : ¬ (p : Int) < (ls.length : Int) := by omega
      have e : p = ls.length := by omega
      subst e
      clear hF hM
      go_wp2_with fail
      have hE := HE.out
      rw [List.drop_length] at hE
      simp only [labs] at hE
      refine bodyPost_ret (v := .tuple #[.map (some w.heap.size), .int .i64 tw]) (by simp [results, Tryz.results35, go_sem]) rfl ⟨w.heap.size, ?_, Nat.le_refl _, ?_, HF.out, ?_, ?_, ?_⟩
      · rw [← hE]
      · rw [← hE]; exact HM.out
      · rw [← hE]; exact HA.out
      · rw [← hE]; exact t0
      · rw [← hE]; exact t1
end Go.Proofs.YtecdmafhjfnloaaGreatDoor
