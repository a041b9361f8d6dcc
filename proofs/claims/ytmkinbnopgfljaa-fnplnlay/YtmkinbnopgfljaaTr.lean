/- Chapter 3: labels of lines, by the model (l3Label, l3Mark, l3Labels). Chapter 3: lines are read as words, by the model (l3Line, TxtRead). Chapter 3: helpers of the laws over texts (szStringS, haTexts). Chapter 3: lines that were written are read back as the words that they are (plain facts). Chapter 3: what the words of lines are, and what is said of a wrong line (plain facts). -/
import Derived.Test.YtmkinbnopgfljaaRl
import Derived.Test.YtmkinbnopgfljaaCodSd
namespace Go.Proofs.Ytmkinbnopgfljaa
open Go.RowKit
set_option linter.unusedVariables false
set_option linter.unusedSimpArgs false

def labB (l : List UInt8) : Bool := decide (1 ≤ l.length ∧ l.length ≤ 6 ∧ l.all low = true)
set_option maxRecDepth 4000 in
set_option maxHeartbeats 1000000 in
theorem spec_l3Label (N : List UInt8) (hl : N.length < 4294967281) (w : World) : Calls Try.prog 59 #[.string (bs N)] w fun e w' => e = .returned (.bool (labB N)) ∧ w = w' := by
  go_enter Try.func59, Try.ntmps59
  by_cases h0 : N = []
  · subst h0
    go_wp2_with fail
    go_ret
    exact ⟨rfl, rfl⟩
  · have hp : 1 ≤ N.length := by cases N with | nil => exact absurd rfl h0 | cons _ _ => simp
    have hp' : ((N.length : Int) == 0) = false := by simp; omega
    have hp2 : (N.length == 0) = false := by simp; omega
    by_cases h6 : 6 < N.length
    · have h6' : (6 : Int) < (N.length : Int) := by omega
      have hb : labB N = false := by unfold labB; simp; omega
      have HB := Lib.hid hb
      clear hb h0
      go_wp2_with fail
      go_ret
      exact ⟨by rw [HB.out]; rfl, rfl⟩
    · have h6' : ¬ (6 : Int) < (N.length : Int) := by omega
      have HM : Hid (labB N = N.all low) := by
        show _ = _
        unfold labB
        rw [Bool.eq_iff_iff, decide_eq_true_eq]
        exact ⟨fun h => h.2.2, fun h => ⟨hp, by omega, h⟩⟩
      clear h0
      go_wp2_with fail
      go_loopw [3] (fun i wr => ∃ q : Nat, q ≤ N.length ∧ i = .int .i64 q ∧ (N.take q).all low = true ∧ w = wr) (fun i _ => N.length - (intOf i).toNat)
      case atStart => exact ⟨0, Nat.zero_le _, rfl, by simp, rfl⟩
      case round =>
        obtain ⟨q, hq, rfl, hA, rfl⟩ := hrel
        have HA := Lib.hid hA
        clear hA
        by_cases hlt : q < N.length
        · have hlt' : (q : Int) < (N.length : Int) := by omega
          have bg := bs_get N
          have bq : ∀ (h : q < N.length), N[q]'h = N.getD q 0 := fun h => by rw [List.getD_eq_getElem?_getD, List.getElem?_eq_getElem h]; rfl
          have HB : Hid (low (N.getD q 0) = false → N.all low = false) := fun h => by
            rw [List.all_eq_false]
            exact ⟨N.getD q 0, by rw [List.getD_eq_getElem?_getD, List.getElem?_eq_getElem hlt]; exact List.getElem_mem hlt, by rw [h]; simp⟩
          have HK : Hid (low (N.getD q 0) = true → (N.take (q + 1)).all low = true) := fun h => by
            rw [List.take_add_one, List.all_append, HA.out]
            rw [List.getD_eq_getElem?_getD, List.getElem?_eq_getElem hlt] at h
            simpa [List.getElem?_eq_getElem hlt] using h
          generalize N.getD q 0 = c at bq HB HK
          by_cases h97 : c.toNat < 97
          · have h97' : (c.toNat : Int) < 97 := by omega
            go_wp2_with fail
            go_ret
            exact ⟨by rw [HM.out, HB.out (by unfold low; simp; omega)]; rfl, rfl⟩
          · have h97' : ¬ (c.toNat : Int) < 97 := by omega
            by_cases h122 : 122 < c.toNat
            · have h122' : (122 : Int) < (c.toNat : Int) := by omega
              go_wp2_with fail
              go_ret
              exact ⟨by rw [HM.out, HB.out (by unfold low; simp; omega)]; rfl, rfl⟩
            · have h122' : ¬ (122 : Int) < (c.toNat : Int) := by omega
              go_wp2_with fail
              go_roundw
              case rel => exact ⟨q + 1, by omega, by go_num, HK.out (by unfold low; simp; omega), by trivial⟩
              case measure => simp [intOf]; omega
        · have hge : ¬ (q : Int) < (N.length : Int) := by omega
          have e : q = N.length := by omega
          subst e
          go_wp2_with fail
          go_ret
          have := HA.out
          rw [List.take_length] at this
          exact ⟨by rw [HM.out, this]; rfl, rfl⟩
theorem ext_init (D : List UInt8) (c : UInt8) : (bs (D ++ [c])).extract 0 D.length = bs D := by
  apply ByteArray.ext
  simp [bs]
theorem mark_snoc (D : List UInt8) (c : UInt8) : mark (D ++ [c]) = if c = 58 ∧ labB D = true then some D else none := by
  unfold mark labB
  simp only [decide_eq_true_eq, List.getLast?_concat, List.dropLast_concat, Option.some.injEq]
def MarkP (l : List UInt8) (w : World) (e : Ending) (w' : World) : Prop :=
  ∃ n ok, e = .returned (.tuple #[.string (bs n), .bool ok]) ∧ w = w' ∧ (ok = true → mark l = some n) ∧ (ok = false → mark l = none)
theorem get_snoc (D : List UInt8) (c : UInt8) (h : D.length < (bs (D ++ [c])).size) : (bs (D ++ [c]))[D.length]'h = c := by
  rw [bs_get]
  simp
set_option maxRecDepth 4000 in
set_option maxHeartbeats 1000000 in
theorem spec_l3Mark (l : List UInt8) (hl : l.length < 4294967281) (w : World) : Calls Try.prog 50 #[.string (bs l)] w (MarkP l w) := by
  rcases List.eq_nil_or_concat l with rfl | ⟨D, c, rfl⟩
  · go_enter Try.func50, Try.ntmps50
    go_wp2_with fail
    go_ret2
    exact ⟨[], false, rfl, rfl, nofun, fun _ => rfl⟩
  · rw [List.concat_eq_append] at hl ⊢
    rw [List.length_append, List.length_singleton] at hl
    have HM := Lib.hid (mark_snoc D c)
    have HX := ext_init D c
    have HG := get_snoc D c
    by_cases h1 : D = []
    · subst h1
      have hm : mark ([] ++ [c]) = none := by rw [HM.out, if_neg (by unfold labB; simp)]
      have HN := Lib.hid hm
      clear hm HM
      go_enter Try.func50, Try.ntmps50
      go_wp2_with fail
      go_ret2
      exact ⟨[], false, rfl, rfl, nofun, fun _ => HN.out⟩
    · have hp : 1 ≤ D.length := by cases D with | nil => exact absurd rfl h1 | cons _ _ => simp
      have hp' : ¬ (D.length : Int) < 1 := by omega
      clear h1
      by_cases h58 : c = 58
      · subst h58
        cases hB : labB D
        · have hm : mark (D ++ [58]) = none := by rw [HM.out, hB, if_neg (by simp)]
          have HN := Lib.hid hm
          have HB := Lib.hid hB
          clear hm HM hB
          go_enter Try.func50, Try.ntmps50
          go_wp2_with fail
          refine (spec_l3Label D (by omega) _).mono ?_
          rintro e w' ⟨rfl, rfl⟩
          rw [HB.out]
          go_wp2_with fail
          go_ret2
          exact ⟨[], false, rfl, rfl, nofun, fun _ => HN.out⟩
        · have hm : mark (D ++ [58]) = some D := by rw [HM.out, hB, if_pos ⟨rfl, rfl⟩]
          have HN := Lib.hid hm
          have HB := Lib.hid hB
          clear hm HM hB
          go_enter Try.func50, Try.ntmps50
          go_wp2_with fail
          refine (spec_l3Label D (by omega) _).mono ?_
          rintro e w' ⟨rfl, rfl⟩
          rw [HB.out]
          go_wp2_with fail
          go_ret2
          exact ⟨D, true, rfl, rfl, fun _ => HN.out, nofun⟩
      · have hm : mark (D ++ [c]) = none := by rw [HM.out, if_neg (fun h => h58 h.1)]
        have h58' : ((c.toNat : Int) == 58) = false := by
          simp only [beq_eq_false_iff_ne]
          exact fun e => h58 (by apply UInt8.toNat_inj.1; simp; omega)
        have h58n : ((c.toNat : Int) != 58) = true := by simp only [bne, h58']; rfl
        have HN := Lib.hid hm
        clear hm HM h58
        go_enter Try.func50, Try.ntmps50
        go_wp2_with fail
        go_ret2
        exact ⟨[], false, rfl, rfl, nofun, fun _ => HN.out⟩
/-- Labels that the call owns. -/
def lv (L : List (List UInt8 × Int)) : List Value := L.flatMap fun e => [Value.string (bs e.1), Value.int .i64 e.2]
theorem lv_get : ∀ (L : List (List UInt8 × Int)) (i : Nat), i < L.length → (lv L)[i * 2]? = some (.string (bs (L.getD i ([], 0)).1)) ∧ (lv L)[i * 2 + 1]? = some (.int .i64 (L.getD i ([], 0)).2)
  | [], i, h => by simp at h
  | e :: L, 0, _ => ⟨rfl, rfl⟩
  | e :: L, i + 1, h => by
    have := lv_get L i (by simpa using h)
    have e1 : (i + 1) * 2 = i * 2 + 1 + 1 := by omega
    rw [e1]
    exact this
def OwnsL (B : Nat) (u : World) (v : Value) (L : List (List UInt8 × Int)) : Prop := u.ownsRow B 90 2 v L.length (lv L)
theorem ownsL_empty (B : Nat) (w : World) (hB : B ≤ w.heap.size) : OwnsL B (w.alloc (.cells #[] 90)) (.slice (some ⟨w.heap.size, 0, none⟩) 0 0) [] := by
  refine ⟨rfl, .inr ⟨w.heap.size, 0, #[], rfl, hB, ?_, Nat.le_refl _, Nat.zero_le _, rfl, rfl⟩⟩
  show (w.heap.push _)[w.heap.size]? = _
  simp
theorem OwnsL.fr {B : Nat} {u u' : World} {v : Value} {L : List (List UInt8 × Int)} (h : OwnsL B u v L) (f : Fr u u') : OwnsL B u' v L := by
  obtain ⟨h1, h2⟩ := h
  refine ⟨h1, ?_⟩
  rcases h2 with h2 | ⟨g, cap, cur, hv, hB, hg, h3⟩
  · exact .inl h2
  · refine .inr ⟨g, cap, cur, hv, hB, ?_, h3⟩
    have hlt : g < u.heap.size := by
      by_cases hh : g < u.heap.size
      · exact hh
      · rw [Array.getElem?_eq_none (by omega)] at hg; cases hg
    rw [f.block g hlt]; exact hg
theorem OwnsL.labs {B : Nat} {u : World} {v : Value} {L : List (List UInt8 × Int)} (h : OwnsL B u v L) : Labs u v L := by
  obtain ⟨hl, hc⟩ := h
  rcases hc with ⟨rfl, hn⟩ | ⟨g, cap, cur, rfl, hB, hg, hcap, _, hcs, hxs⟩
  · exact ⟨none, 0, by rw [hn], fun h0 => by omega⟩
  · refine ⟨_, cap, rfl, fun h0 => ⟨g, rfl, ?_, fun i hi => ?_⟩⟩
    · by_cases hh : g < u.heap.size
      · exact hh
      · rw [Array.getElem?_eq_none (by omega)] at hg; cases hg
    · have h2 := lv_get L i hi
      rw [← hxs, List.getElem?_take_of_lt (by omega), List.getElem?_take_of_lt (by omega)] at h2
      simp only [World.cell?, hg]
      exact ⟨by simpa using h2.1, by simpa using h2.2⟩
theorem ownsL_app {B : Nat} {u : World} {v : Value} {L : List (List UInt8 × Int)} {x : List UInt8} {a : Int} (h : u.ownsRow B 90 2 v (L.length + 1) (lv L ++ [Value.string (bs x), Value.int .i64 a])) : OwnsL B u v (L ++ [(x, a)]) := by
  unfold OwnsL
  have e : lv (L ++ [(x, a)]) = lv L ++ [Value.string (bs x), Value.int .i64 a] := by simp [lv, List.flatMap_append]
  rw [e, List.length_append]
  exact h
theorem ownL_lt {B : Nat} {u : World} {v : Value} {L : List (List UInt8 × Int)} (h : OwnsL B u v L) : ∀ q, v.ownBlock = some q → B ≤ q := fun q hq => (World.ownsRow.lt h q hq).1
theorem info_lab : (Try.prog.info? 90).map (fun i => (i.zero, i.size, i.bytes)) = some (some (.agg #[.string ByteArray.empty, .int .i64 0]), 2, 24) := by kernel_rfl
theorem cells_two (w : World) (x y : Value) (t : TypeId) (g : Nat) (hg : w.heap.size = g) : ∀ j u, [x, y][j]? = some u → (w.alloc (.cells #[x, y] t)).cell? ((⟨g, 0, none⟩ : Addr).add j) = some u := by
  subst hg
  intro j u hj
  rcases Nat.eq_zero_or_pos j with rfl | h
  · simpa [Addr.add] using hj
  · simpa [Addr.add, show j ≠ 0 by omega] using hj
def LabS (ls : List (List UInt8)) (w : World) (e : Ending) (w' : World) : Prop :=
  ∃ v, e = .returned (.tuple #[v, .int .i64 (labs ls 0 [] 0 0).2.2]) ∧ OwnsL w.heap.size w' v (labs ls 0 [] 0 0).1 ∧ (labs ls 0 [] 0 0).1.length ≤ ls.length ∧ Fr w w' ∧ Ats (labs ls 0 [] 0 0).1 ls.length ∧ 0 ≤ (labs ls 0 [] 0 0).2.2 ∧ (labs ls 0 [] 0 0).2.2 ≤ ls.length
theorem findD_neg {L : List (List UInt8 × Int)} {n : Nat} {x : List UInt8} (hA : Ats L n) : (look L x = none ∧ findD L x = -1) ∨ ∃ t, look L x = some t ∧ findD L x = t ∧ 0 ≤ t := by
  cases h : look L x with
  | none => exact .inl ⟨rfl, by unfold findD; rw [h]; rfl⟩
  | some t => exact .inr ⟨t, rfl, by unfold findD; rw [h]; rfl, (hA _ (look_mem h)).1⟩
set_option maxRecDepth 4000 in
set_option maxHeartbeats 2000000 in
theorem spec_l3Labels (ls : List (List UInt8)) (ao : Option Addr) (cap : Nat) (w : World) (hs : Src w ls.length (tv ls) ao) (hn : ls.length ≤ 64) (hl : ∀ x ∈ ls, x.length < 4294967281) :
    Calls Try.prog 49 #[.slice ao ls.length cap] w (LabS ls w) := by
  obtain ⟨i0, hi, hz0, hz1, hz2⟩ := info_parts info_lab
  have hmx : maxLen = 9223372036854775807 := rfl
  have HS := Lib.hid hs
  have HL := Lib.hid hl
  clear hs hl
  go_enter Try.func49, Try.ntmps49
  go_wp2_with fail
  go_loopw [4, 5, 6, 7] (fun o a t i wr => ∃ (p : Nat) (at' tw : Int) (L : List (List UInt8 × Int)), p ≤ ls.length ∧ i = .int .i64 p ∧ a = .int .i64 at' ∧ t = .int .i64 tw ∧ labs (ls.drop p) p L at' tw = labs ls 0 [] 0 0 ∧ 0 ≤ at' ∧ at' ≤ p ∧ 0 ≤ tw ∧ tw ≤ p ∧ L.length ≤ p ∧ Ats L ls.length ∧ OwnsL w.heap.size wr o L ∧ Fr w wr) (fun _ _ _ i _ => ls.length - (intOf i).toNat)
  case atStart => exact ⟨0, 0, 0, [], Nat.zero_le _, rfl, rfl, rfl, rfl, by omega, by omega, by omega, by omega, Nat.le_refl _, fun e he => by simp at he, ownsL_empty _ _ (Nat.le_refl _), Fr.alloc _ _⟩
  case round =>
    obtain ⟨p, at', tw, L, hp, rfl, rfl, rfl, hE, a0, a1, t0, t1, hLl, hA, hM, hF⟩ := hrel
    have HE := Lib.hid hE
    have HA := Lib.hid hA
    have HM := Lib.hid hM
    have HF := Lib.hid hF
    have hsz := hF.size
    clear hE hA hM
    by_cases hlt : p < ls.length
    · have hlt' : (p : Int) < (ls.length : Int) := by omega
      obtain ⟨g, o, rfl, hgl, hc⟩ := HS.out (by omega)
      have d0 : wr.cell? ⟨g, o + p, none⟩ = some (.string (bs (ls.getD p []))) := by rw [hF.cell hgl]; exact hc p hlt
      have hx : (ls.getD p []).length < 4294967281 := HL.out _ (by rw [List.getD_eq_getElem?_getD, List.getElem?_eq_getElem hlt]; exact List.getElem_mem hlt)
      have hdr : ls.drop p = ls.getD p [] :: ls.drop (p + 1) := by
        rw [List.drop_eq_getElem_cons hlt, List.getD_eq_getElem?_getD, List.getElem?_eq_getElem hlt]
        rfl
      rw [hdr] at HE
      generalize ls.getD p [] = x at d0 hx HE
      clear hdr hc hF
      go_wp2_with fail
      refine (spec_l3Mark x hx _).mono ?_
      rintro e u1 ⟨nm, ok, rfl, rfl, k1, k2⟩
      cases ok
      · have hm := k2 rfl
        have HE2 : Hid (labs (ls.drop (p + 1)) (p + 1) L (at' + 1) tw = labs ls 0 [] 0 0) := by
          have := HE.out
          simp only [labs, hm] at this
          exact this
        clear k1 k2 hm HE
        go_wp2_with fail
        go_roundw
        case rel => exact ⟨p + 1, at' + 1, tw, L, by omega, by go_num, rfl, rfl, HE2.out, by omega, by omega, by omega, by omega, by omega, HA.out, HM.out, HF.out⟩
        case measure => simp [intOf]; omega
      · have hm := k1 rfl
        have hml := mark_low hm
        clear k1 k2
        go_wp2_with fail
        refine (spec_l3Find _ L nm _ HM.out.labs (by omega)).mono ?_
        rintro e u1 ⟨rfl, rfl⟩
        rcases findD_neg (x := nm) HA.out with ⟨hlk, hfd⟩ | ⟨t, hlk, hfd, ht0⟩
        · have HE2 : Hid (labs (ls.drop (p + 1)) (p + 1) (L ++ [(nm, at')]) at' tw = labs ls 0 [] 0 0) := by
            have := HE.out
            simp only [labs, hm, hlk] at this
            exact this
          rw [hfd]
          clear HE hm hlk hfd
          go_wp2_with (at_builtin; refine wpList_append_own _ rfl _ _ 72 rfl w.heap.size 90 i0 (.agg #[.string ByteArray.empty, .int .i64 0]) 2 24 Try.underlying72 hi hz0 hz1 hz2 rfl (by decide) _ _ _ rfl (World.ownsRow.alloc HM.out _) _ 1 1 [.string (bs nm), .int .i64 at'] rfl rfl (cells_two _ _ _ _ _ (by simp)) (fun x hx => by simp at hx; rcases hx with rfl | rfl <;> rfl) (show L.length + 1 ≤ maxLen by omega) (by omega) (by simp; omega) ?_; intro v1 w4 hown1 hg1 _)
          have F4 : Fr w w4 := Below.grown (HF.out.trans (Fr.alloc _ _)) hg1 (by simp; omega) (ownL_lt HM.out)
          go_roundw
          case rel =>
            refine ⟨p + 1, at', tw, L ++ [(nm, at')], by omega, by go_num, rfl, rfl, HE2.out, by omega, by omega, by omega, by omega, by simp; omega, fun e he => ?_, ownsL_app hown1, F4⟩
            rcases List.mem_append.1 he with he | he
            · exact HA.out e he
            · rw [List.mem_singleton.1 he]; exact ⟨by omega, by show at' ≤ _; omega⟩
          case measure => simp [intOf]; omega
        · rw [hfd]
          have HE2 : Hid (labs (ls.drop (p + 1)) (p + 1) L at' (if tw = 0 then (p : Int) + 1 else tw) = labs ls 0 [] 0 0) := by
            have := HE.out
            simp only [labs, hm, hlk] at this
            exact this
          have ht0' : ¬ t < 0 := by omega
          clear HE hm hlk hfd
          by_cases htw : tw = 0
          · subst htw
            go_wp2_with fail
            go_roundw
            case rel => exact ⟨p + 1, at', (p : Int) + 1, L, by omega, by go_num, rfl, rfl, by simpa using HE2.out, by omega, by omega, by omega, by omega, by omega, HA.out, HM.out, HF.out⟩
            case measure => simp [intOf]; omega
          · have htw' : (tw == 0) = false := by simp [htw]
            go_wp2_with fail
            go_roundw
            case rel => exact ⟨p + 1, at', tw, L, by omega, by go_num, rfl, rfl, by have := HE2.out; rwa [if_neg htw] at this, by omega, by omega, by omega, by omega, by omega, HA.out, HM.out, HF.out⟩
            case measure => simp [intOf]; omega
    · have hge : ¬ (p : Int) < (ls.length : Int) := by omega
      have e : p = ls.length := by omega
      subst e
      have hE : labs ls 0 [] 0 0 = (L, at', tw) := by
        rw [← HE.out, List.drop_length]
        rfl
      clear hF HE
      go_wp2_with fail
      refine bodyPost_ret (v := .tuple #[u4, .int .i64 tw]) (by simp [results, Try.results49, go_sem]) rfl ⟨u4, ?_⟩
      rw [hE]
      exact ⟨rfl, HM.out, by omega, HF.out, HA.out, by omega, by omega⟩

def LineP (at' : Int) (L : List UInt8 → Option Int) (l : List UInt8) (w : World) (e : Ending) (w' : World) : Prop :=
  ∃ v ok, e = .returned (.tuple #[.int .i64 v, .bool ok]) ∧ Fr w w' ∧ (ok = true → lineV at' L l = some v) ∧ (ok = false → lineV at' L l = none)
theorem con_num {y : List UInt8} : conT [y] = match num5 y with | some n => if 0 ≤ n ∧ n < 65536 then some n else none | none => none := by
  show (match canon y with | some n => if 0 ≤ n ∧ n < 65536 then some n else none | none => none) = _
  cases h5 : num5 y with
  | some n => rw [(num5_some h5).1]
  | none =>
    cases hc : canon y with
    | none => rfl
    | some n =>
      show (if 0 ≤ n ∧ n < 65536 then some n else none) = none
      rw [if_neg]
      intro h
      rw [num5_of hc (by omega) (by omega)] at h5
      cases h5
theorem rd_word (at' : Int) (L : List UInt8 → Option Int) (r : List (List UInt8)) : rd at' L (wordN :: r) = none := rfl
theorem conT_not {r : List (List UInt8)} (h : r.length ≠ 1) : conT r = none := by
  match r, h with
  | [], _ => rfl
  | [y], h => exact absurd rfl h
  | x :: y :: t, _ => rfl
set_option maxRecDepth 4000 in
set_option maxHeartbeats 2000000 in
theorem spec_l3Line (l : List UInt8) (hl : l.length ≤ 4000000) (at' : Int) (vl : Value) (ls : List (List UInt8 × Int)) (w : World) (hlab : Labs w vl ls) (hn : ls.length ≤ 1000) (HL : ∀ x t, look ls x = some t → 0 ≤ t ∧ t ≤ 1000) (HC : ∀ x t, look ls x = some t → canon x = none) (hat : 0 ≤ at' ∧ at' ≤ 1000) :
    Calls Try.prog 51 #[.string (bs l), .int .i64 at', vl] w (LineP at' (look ls) l w) := by
  obtain ⟨at0, at1⟩ := hat
  have HLB := Lib.hid hlab
  have HLL := Lib.hid HL
  have HCC := Lib.hid HC
  clear hlab HL HC
  go_enter Try.func51, Try.ntmps51
  go_wp2_with fail
  refine (spec_l3Words l hl w).mono ?_
  rintro e u1 ⟨v1, rfl, O1, f1⟩
  cases hsp : sp l with
  | nil => exact absurd hsp (sp_ne l)
  | cons x0 r =>
    rw [hsp] at O1
    have WD := Lib.hid O1.wds
    have HX : Hid (∀ x ∈ x0 :: r, x.length ≤ 4000000) := fun x hx => by
      have := sp_len l x (by rw [hsp]; exact hx)
      omega
    have HV : Hid (lineV at' (look ls) l = if 30 < l.length then none else lineT at' (look ls) (x0 :: r)) := by show _ = _; rw [lineV_eq, hsp]
    clear hsp
    obtain ⟨ao, cap, rfl, hcap, hmx, hc⟩ := O1.wds
    obtain ⟨g, off, rfl, hg, hcc⟩ := hc (by simp)
    have c0 : u1.cell? ⟨g, off, none⟩ = some (.string (bs x0)) := hcc 0 (by simp)
    clear O1 hc
    by_cases h30 : 30 < l.length
    · have h30' : (30 : Int) < (l.length : Int) := by omega
      have hv : lineV at' (look ls) l = none := by rw [HV.out, if_pos h30]
      have HN := Lib.hid hv
      clear hv HV hcc
      go_wp2_with fail
      go_ret2
      exact ⟨0, false, rfl, f1, nofun, fun _ => HN.out⟩
    · have h30' : ¬ (30 : Int) < (l.length : Int) := by omega
      have hv : lineV at' (look ls) l = lineT at' (look ls) (x0 :: r) := by rw [HV.out, if_neg h30]
      replace HV := Lib.hid hv
      clear hv
      by_cases hw : x0 = wordN
      · have hq : (x0 == [119, 111, 114, 100]) = true := by rw [hw]; decide
        by_cases h1 : r.length = 1
        · obtain ⟨y, rfl⟩ : ∃ y, r = [y] := by
            match r, h1 with
            | [y], _ => exact ⟨y, rfl⟩
          have c1 : u1.cell? ⟨g, off + 1, none⟩ = some (.string (bs y)) := hcc 1 (by simp)
          have hy : y.length ≤ 4000000 := HX.out y (by simp)
          have hv : lineV at' (look ls) l = match num5 y with | some n => if 0 ≤ n ∧ n < 65536 then some n else none | none => none := by
            rw [HV.out, hw, ← con_num]
            rfl
          replace HV := Lib.hid hv
          clear hv hcc hw h1
          simp only [List.length_cons, List.length_nil, Nat.zero_add] at hcap
          go_wp2_with fail
          refine (spec_l3Num y (by omega) _).mono ?_
          rintro e u2 ⟨v, ok, rfl, f2, k1, k2⟩
          cases ok
          · have hv : lineV at' (look ls) l = none := by rw [HV.out, k2 rfl]
            have HN := Lib.hid hv
            clear hv HV k1 k2
            go_wp2_with fail
            go_ret2
            exact ⟨v, false, rfl, f1.trans f2, nofun, fun _ => HN.out⟩
          · have hv : lineV at' (look ls) l = if 0 ≤ v ∧ v < 65536 then some v else none := by rw [HV.out, k1 rfl]
            have HN := Lib.hid hv
            clear hv HV k1 k2
            go_wp2_with fail
            refine (spec_WrdOk v _).mono ?_
            rintro e u3 ⟨rfl, rfl⟩
            cases hb : okB v
            · have HB := Lib.hid hb
              clear hb
              go_wp2_with fail
              go_ret2
              refine ⟨v, false, rfl, f1.trans f2, nofun, fun _ => ?_⟩
              rw [HN.out, if_neg]
              have := HB.out
              unfold okB at this
              simpa using this
            · have HB := Lib.hid hb
              clear hb
              go_wp2_with fail
              go_ret2
              refine ⟨v, true, rfl, f1.trans f2, fun _ => ?_, nofun⟩
              rw [HN.out, if_pos]
              have := HB.out
              unfold okB at this
              simpa using this
        · have h1' : ((r.length : Int) + 1 == 2) = false := by simp; omega
          have h1n : (r.length + 1 == 2) = false := by simp; omega
          have h1m : (r.length == 1) = false := by simp; omega
          have h1i : ((r.length : Int) == 1) = false := by simp; omega
          have hv : lineV at' (look ls) l = none := by rw [HV.out, hw]; exact conT_not h1
          have HN := Lib.hid hv
          have HW := Lib.hid hw
          clear hv HV hcc hw h1
          go_wp2_with fail
          refine (spec_l3Inst _ vl x0 r at' ls _ WD.out HX.out (HLB.out.fr f1) hn HLL.out HCC.out ⟨at0, at1⟩).mono ?_
          rintro e u2 ⟨k, d, a, b, f, n, ok, rfl, f2, k1, k2⟩
          cases ok
          · clear k1 k2
            go_wp2_with fail
            go_ret2
            exact ⟨0, false, rfl, (f1.trans f2).trans (Fr.alloc _ _), nofun, fun _ => HN.out⟩
          · have := k1 rfl
            rw [HW.out, rd_word] at this
            cases this
      · have hq : (x0 == [119, 111, 114, 100]) = false := by rw [beq_eq_false_iff_ne]; exact hw
        have hv : lineV at' (look ls) l = match rd at' (look ls) (x0 :: r) with
            | some (k, fs) => some (worD k (fs.getD 0 0) (fs.getD 1 0) (fs.getD 2 0) (fs.getD 3 0) (fs.getD 4 0))
            | none => none := by
          rw [HV.out]
          simp only [lineT, if_neg hw]
          cases rd at' (look ls) (x0 :: r) <;> rfl
        replace HV := Lib.hid hv
        clear hv hcc hw
        go_wp2_with fail
        refine (spec_l3Inst _ vl x0 r at' ls _ WD.out HX.out (HLB.out.fr f1) hn HLL.out HCC.out ⟨at0, at1⟩).mono ?_
        rintro e u2 ⟨k, d, a, b, f, n, ok, rfl, f2, k1, k2⟩
        cases ok
        · have hv : lineV at' (look ls) l = none := by rw [HV.out, k2 rfl]
          have HN := Lib.hid hv
          clear hv HV k1 k2
          go_wp2_with fail
          go_ret2
          exact ⟨0, false, rfl, (f1.trans f2).trans (Fr.alloc _ _), nofun, fun _ => HN.out⟩
        · have hv : lineV at' (look ls) l = some (worD k d a b f n) := by rw [HV.out, k1 rfl]; rfl
          have HN := Lib.hid hv
          obtain ⟨b0, b1, b2, b3, b4, b5⟩ := Box.new u2 k d a b f n 66
          have F2 := (f1.trans f2).trans (Fr.alloc u2 (.cells #[.int .i64 k, .int .i64 d, .int .i64 a, .int .i64 b, .int .i64 f, .int .i64 n] 66))
          clear hv HV k1 k2
          go_wp2_with fail
          refine (spec_CodWord k d a b f n _).mono ?_
          rintro e u3 ⟨rfl, f3⟩
          go_wp2_with fail
          go_ret2
          exact ⟨_, true, rfl, F2.trans f3, fun _ => HN.out, nofun⟩
set_option maxRecDepth 4000 in
set_option maxHeartbeats 4000000 in
theorem spec_TxtRead (ls : List (List UInt8)) (ao : Option Addr) (cap : Nat) (w : World) (hs : Src w ls.length (tv ls) ao) (hn : ls.length ≤ 1048576) (hl : ∀ x ∈ ls, x.length ≤ 4000000) :
    Calls Try.prog 45 #[.slice ao ls.length cap] w (RdP w (tread ls)) := by
  obtain ⟨i0, hi, hz0, hz1, hz2⟩ := info_parts info_intV
  have hmx : maxLen = 9223372036854775807 := rfl
  have HS := Lib.hid hs
  have HL := Lib.hid hl
  clear hs hl
  go_enter Try.func45, Try.ntmps45
  by_cases h64 : 64 < ls.length
  · have h64' : (64 : Int) < (ls.length : Int) := by omega
    have ht : tread ls = ([], 65) := if_pos h64
    go_wp2_with fail
    go_ret2
    exact ⟨_, 0, by rw [ht]; rfl, by rw [ht]; exact Vc.nil _ _ _ _, Fr.alloc _ _⟩
  · have h64' : ¬ (64 : Int) < (ls.length : Int) := by omega
    have ht : tread ls = words (look (labs ls 0 [] 0 0).1) (labs ls 0 [] 0 0).2.2 ls 0 [] := if_neg h64
    have HTR := Lib.hid ht
    have HLW := Lib.hid (labs_low ls 0 [] 0 0 (fun e he => by simp at he) (by omega))
    clear ht
    go_wp2_with fail
    refine (spec_l3Labels ls _ _ _ HS.out (by omega) (fun x hx => by have := HL.out x hx; omega)).mono ?_
    rintro e w2 ⟨vL, rfl, M2, hLn, F2, hA, tw0, tw1⟩
    generalize (labs ls 0 [] 0 0).2.2 = tw at HTR tw0 tw1
    generalize (labs ls 0 [] 0 0).1 = L at HTR HLW M2 hA hLn
    have hLB : ∀ x t, look L x = some t → 0 ≤ t ∧ t ≤ 1000 := fun x t h => by have := hA _ (look_mem h); simp at this; omega
    replace hLB := Lib.hid hLB
    have hLC := Lib.hid (look_canon HLW.out)
    replace M2 := Lib.hid M2.labs
    clear hA HLW
    have hs2 := F2.size
    go_wp2_with fail
    go_loopw [6, 7] (fun o i wr => ∃ (p : Nat) (out : List Int), p ≤ ls.length ∧ i = .int .i64 p ∧ words (look L) tw (ls.drop p) p out = tread ls ∧ OwnsI w2.heap.size wr o out ∧ out.length ≤ p ∧ Fr w2 wr) (fun _ i _ => ls.length - (intOf i).toNat)
    case atStart => exact ⟨0, [], Nat.zero_le _, rfl, HTR.out.symm, ownsI_empty _ _ (Nat.le_refl _), Nat.le_refl _, Fr.alloc _ _⟩
    case round =>
      obtain ⟨p, out, hp, rfl, hE, hO, hol, hF⟩ := hrel
      obtain ⟨ao1, cap1, rfl⟩ := ownsI_len hO
      have HE := Lib.hid hE
      have HO := Lib.hid hO
      have FF := Lib.hid (F2.trans hF)
      have HF := Lib.hid hF
      have hsz := FF.out.size
      have hszF := HF.out.size
      clear hE hO HTR
      by_cases hlt : p < ls.length
      · have hlt' : (p : Int) < (ls.length : Int) := by omega
        obtain ⟨g, o, rfl, hgl, hc⟩ := HS.out (by omega)
        have d0 : wr.cell? ⟨g, o + p, none⟩ = some (.string (bs (ls.getD p []))) := by rw [FF.out.cell hgl]; exact hc p hlt
        have hx : (ls.getD p []).length ≤ 4000000 := HL.out _ (by rw [List.getD_eq_getElem?_getD, List.getElem?_eq_getElem hlt]; exact List.getElem_mem hlt)
        have hdr : ls.drop p = ls.getD p [] :: ls.drop (p + 1) := by
          rw [List.drop_eq_getElem_cons hlt, List.getD_eq_getElem?_getD, List.getElem?_eq_getElem hlt]
          rfl
        rw [hdr] at HE
        generalize ls.getD p [] = x at d0 hx HE
        clear hdr hc hF
        by_cases htw : (p : Int) + 1 = tw
        · have he : tread ls = ([], tw) := by rw [← HE.out]; simp only [words, if_pos htw]
          have HTW := Lib.hid htw
          have htw' : ((p : Int) + 1 == tw) = true := by simp [htw]
          clear htw
          go_wp2_with fail
          go_ret2
          exact ⟨_, 0, by rw [he]; rfl, by rw [he]; exact Vc.nil _ _ _ _, FF.out.trans (Fr.alloc _ _)⟩
        · have htw' : ((p : Int) + 1 == tw) = false := by simp [htw]
          have HTW := Lib.hid htw
          clear htw
          go_wp2_with fail
          refine (spec_l3Mark x (by omega) _).mono ?_
          rintro e u1 ⟨nm, ok, rfl, rfl, k1, k2⟩
          cases ok
          · have HM := Lib.hid (k2 rfl)
            clear k1 k2
            go_wp2_with fail
            refine (spec_l3Line x hx out.length vL L _ (M2.out.fr HF.out) (by omega) hLB.out hLC.out (by omega)).mono ?_
            rintro e u4 ⟨v, ok, rfl, f4, z1, z2⟩
            have hs4 := f4.size
            cases ok
            · have he : tread ls = ([], (p : Int) + 1) := by rw [← HE.out]; simp only [words, if_neg HTW.out, HM.out, z2 rfl]
              clear z1 z2
              go_wp2_with fail
              go_ret2
              exact ⟨_, 0, by rw [he]; rfl, by rw [he]; exact Vc.nil _ _ _ _, (FF.out.trans f4).trans (Fr.alloc _ _)⟩
            · have HE2 : Hid (words (look L) tw (ls.drop (p + 1)) (p + 1) (out ++ [v]) = tread ls) := by
                have := HE.out
                simp only [words, if_neg HTW.out, HM.out, z1 rfl] at this
                exact this
              have HO4 := Lib.hid (HO.out.fr f4)
              clear z1 z2 HE
              go_wp2_with (at_builtin; refine wpList_append_own _ rfl _ _ 22 rfl w2.heap.size 3 i0 (.int .i64 0) 1 8 Try.underlying22 hi hz0 hz1 hz2 rfl (by decide) _ _ _ rfl (World.ownsRow.alloc HO4.out _) _ 1 1 [.int .i64 v] rfl rfl (cell_str_at _ _ _ _ (by simp)) (fun x hx => by simp at hx; subst hx; rfl) (show out.length + 1 ≤ maxLen by omega) (by omega) (by simp; omega) ?_; intro v1 w4 hown1 hg1 _)
              have F4 : Fr w2 w4 := Below.grown ((HF.out.trans f4).trans (Fr.alloc _ _)) hg1 (by simp; omega) (ownI_lt HO4.out)
              go_roundw
              case rel => exact ⟨p + 1, out ++ [v], by omega, by go_num, HE2.out, ownsI_app hown1, by simp; omega, F4⟩
              case measure => simp [intOf]; omega
          · have hm := k1 rfl
            have HE2 : Hid (words (look L) tw (ls.drop (p + 1)) (p + 1) out = tread ls) := by
              have := HE.out
              simp only [words, if_neg HTW.out, hm] at this
              exact this
            clear k1 k2 hm HE
            go_wp2_with fail
            go_roundw
            case rel => exact ⟨p + 1, out, by omega, by go_num, HE2.out, HO.out, by omega, HF.out⟩
            case measure => simp [intOf]; omega
      · have hge : ¬ (p : Int) < (ls.length : Int) := by omega
        have e : p = ls.length := by omega
        subst e
        clear hF
        go_wp2_with fail
        have hE := HE.out
        rw [List.drop_length] at hE
        simp only [words] at hE
        obtain ⟨ao2, cap2, hv, hV⟩ := ownsI_vc HO.out
        refine bodyPost_ret (v := .tuple #[.slice ao1 out.length cap1, .int .i64 0]) (by simp [results, Try.results45, go_sem]) rfl ⟨ao1, cap1, by rw [← hE], ?_, FF.out⟩
        rw [← hE]
        cases hv
        exact hV.mono hs2

theorem okB_of' {v : Int} (h0 : 0 ≤ v) (h1 : v < 65536) : okB v = true := by unfold okB; simp; omega
end Go.Proofs.Ytmkinbnopgfljaa
