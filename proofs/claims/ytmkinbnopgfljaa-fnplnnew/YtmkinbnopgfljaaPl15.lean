/- The model's steps, one behind the other: l4Step, PlnRun. -/
import Derived.Maps.AppendAt
import Derived.Test.YtmkinbnopgfljaaPl14
namespace Go.Proofs.Ytmkinbnopgfljaa
open Go.RowKit
set_option linter.unusedVariables false
set_option linter.unusedSimpArgs false
theorem spec_l4Step (s : St) (gr gc gm cr cc cm : Nat) (ring : Bool) (u : World) (ho : Own u gr gc gm s) (hk : OkS s) :
    Calls Try.prog 48 #[.agg #[.int .i64 s.pc, .slice (some ⟨gr, 0, none⟩) 8 cr, .slice (some ⟨gc, 0, none⟩) 5 cc, .slice (some ⟨gm, 0, none⟩) 256 cm], .bool ring] u (MP (stepS s ring).1 (stepS s ring).2 gr gc gm cr cc cm u) := by
  have c3 := (ok_get hk.C 3).1
  by_cases h1 : ring = true ∧ usr s.C = true
  · have e : stepS s ring = (stopS s 7, { ev0 s with why := 7 }) := if_pos h1
    rw [e]
    obtain ⟨rfl, hu⟩ := h1
    exact spec_Step_ring s gr gc gm cr cc cm u ho hk hu
  · have e1 : stepS s ring = (if see s.C s.M s.pc false < 0 then (stopS s 2, { ev0 s with why := 2 }) else if gd (wAt s) = false then (stopS s 1, { ev1 s with why := 1 }) else (exeS s).fin s (ev1 s)) := if_neg h1
    rw [e1]
    by_cases hs : see s.C s.M s.pc false < 0
    · rw [if_pos hs]
      cases ring
      · exact spec_Step_takeF s gr gc gm cr cc cm u ho hk hs
      · exact spec_Step_takeT s gr gc gm cr cc cm u ho hk (by simpa using h1) hs
    · rw [if_neg hs]
      by_cases hg : gd (wAt s) = false
      · rw [if_pos hg]
        cases ring
        · exact spec_Step_codeF s gr gc gm cr cc cm u ho hk (by omega) hg
        · exact spec_Step_codeT s gr gc gm cr cc cm u ho hk (by simpa using h1) (by omega) hg
      · rw [if_neg hg]
        have hg' : gd (wAt s) = true := by simpa using hg
        cases ring
        · exact spec_Step_exeF s gr gc gm cr cc cm u ho hk (by omega) hg'
        · exact spec_Step_exeT s gr gc gm cr cc cm u ho hk (by simpa using h1) (by omega) hg'
/-- So many steps, and what was done. -/
def runS : Nat → St → St × List Ev
  | 0, s => (s, [])
  | n + 1, s => ((stepS (runS n s).1 false).1, (runS n s).2 ++ [(stepS (runS n s).1 false).2])
theorem run_ok {s : St} (h : OkS s) : ∀ n, OkS (runS n s).1
  | 0 => h
  | n + 1 => step_ok (run_ok h n) false
def evC (e : Ev) : List Value := [.int .i64 e.pc, .int .i64 e.w, .int .i64 e.why, .int .i64 e.d, .int .i64 e.v, .int .i64 e.ad, .int .i64 e.dt]
def evsC (l : List Ev) : List Value := l.flatMap evC
theorem evsC_app (l : List Ev) (e : Ev) : evsC (l ++ [e]) = evsC l ++ evC e := by simp [evsC]
theorem info_ev : (Try.prog.info? 69).map (fun i => (i.zero, i.size, i.bytes)) = some (some (.agg #[.int .i64 0, .int .i64 0, .int .i64 0, .int .i64 0, .int .i64 0, .int .i64 0, .int .i64 0]), 7, 56) := by kernel_rfl
theorem own_but {L : List Nat} {u u' : World} {B : Nat} {e : TypeId} {m n : Nat} {v : Value} {xs : List Value} (h : u.ownsRow B e m v n xs) (f : But L u u') (hn : ∀ q, v.ownBlock = some q → q ∉ L) : u'.ownsRow B e m v n xs := by
  refine ⟨h.1, ?_⟩
  rcases h.2 with hn' | ⟨g, cap, cur, rfl, hb, hgg, rest⟩
  · exact .inl hn'
  · refine .inr ⟨g, cap, cur, rfl, hb, ?_, rest⟩
    have hl : g < u.heap.size := by
      by_cases hh : g < u.heap.size
      · exact hh
      · rw [Array.getElem?_eq_none (by omega)] at hgg; cases hgg
    rw [f.block g hl (hn g rfl)]; exact hgg
theorem but_grown {w w' : World} {row : Option Nat} (h : w.grownBy w' row) : But row.toList w w' :=
  ⟨h.os, h.tape, h.output, h.size, fun k hk hn => h.block k hk (fun e => hn (by rw [← e]; simp))⟩
theorem owns_none (B : Nat) (w : World) (g : Nat) (hg : w.heap.size = g) (hB : B ≤ g) (t : TypeId) (m : Nat) : (w.alloc (.cells #[] t)).ownsRow B t m (.slice (some ⟨g, 0, none⟩) 0 0) 0 [] := by
  subst hg
  refine ⟨by simp, .inr ⟨w.heap.size, 0, #[], rfl, hB, ?_, Nat.le_refl _, Nat.zero_le _, by simp, by simp⟩⟩
  show (w.heap.push _)[w.heap.size]? = _
  simp
theorem box7_cells {u : World} {g : Nat} {e : Ev} (h : Box7 u g e) : ∀ j v, (evC e)[j]? = some v → u.cell? ((⟨g, 0, none⟩ : Addr).add j) = some v := fun j v hj => by
  have hj7 : j < 7 := by
    by_cases hh : j < 7
    · exact hh
    · rw [List.getElem?_eq_none (by simp [evC]; omega)] at hj; cases hj
  have hc : j = 0 ∨ j = 1 ∨ j = 2 ∨ j = 3 ∨ j = 4 ∨ j = 5 ∨ j = 6 := by omega
  rcases hc with rfl | rfl | rfl | rfl | rfl | rfl | rfl
  · cases hj; exact h.c0
  · cases hj; exact h.c1
  · cases hj; exact h.c2
  · cases hj; exact h.c3
  · cases hj; exact h.c4
  · cases hj; exact h.c5
  · cases hj; exact h.c6
theorem evC_one (e : Ev) : ∀ u ∈ evC e, u.oneCell' = true := fun u hu => by
  simp only [evC, List.mem_cons, List.mem_nil_iff, or_false] at hu
  rcases hu with rfl | rfl | rfl | rfl | rfl | rfl | rfl <;> rfl
/-- Behind PlnRun: the machine in new rows, and the events in another one. -/
def RunP (s : St) (n : Nat) (w : World) (e : Ending) (w' : World) : Prop :=
  ∃ gr gc gm cr cc cm v, e = .returned (.tuple #[.agg #[.int .i64 (runS n s).1.pc, .slice (some ⟨gr, 0, none⟩) 8 cr, .slice (some ⟨gc, 0, none⟩) 5 cc, .slice (some ⟨gm, 0, none⟩) 256 cm], v]) ∧ Own w' gr gc gm (runS n s).1 ∧ w.heap.size ≤ gr ∧ w.heap.size ≤ gc ∧ w.heap.size ≤ gm ∧ w'.ownsRow w.heap.size 69 7 v n (evsC (runS n s).2) ∧ (∀ q, v.ownBlock = some q → q ≠ gr ∧ q ≠ gc ∧ q ≠ gm) ∧ Fr w w' ∧ Ca w' gr 8 cr
/-- In the loop of PlnRun. -/
structure Lr (w : World) (X gr gc gm cr cc cm : Nat) (s : St) (p : Nat) (out : Value) (wr : World) : Prop where
  bx : Box4 wr X (.int .i64 (runS p s).1.pc) (.slice (some ⟨gr, 0, none⟩) 8 cr) (.slice (some ⟨gc, 0, none⟩) 5 cc) (.slice (some ⟨gm, 0, none⟩) 256 cm)
  bz : Box4 wr (w.heap.size + 1) (.int .i64 0) (.slice none 0 0) (.slice none 0 0) (.slice none 0 0)
  ow : Own wr gr gc gm (runS p s).1
  vo : wr.ownsRow (w.heap.size + 2) 69 7 out p (evsC (runS p s).2)
  na : ∀ q, out.ownBlock = some q → q ≠ gr ∧ q ≠ gc ∧ q ≠ gm ∧ q ≠ X
  fr : Fr w wr
theorem owns_base {u : World} {B B' : Nat} {e : TypeId} {m n : Nat} {v : Value} {xs : List Value} (h : u.ownsRow B e m v n xs) (hB : B' ≤ B) : u.ownsRow B' e m v n xs := by
  refine ⟨h.1, ?_⟩
  rcases h.2 with hn | ⟨g, cap, cur, rfl, hb, rest⟩
  · exact .inl hn
  · exact .inr ⟨g, cap, cur, rfl, by omega, rest⟩
theorem ok_few {s : St} (h : OkS s) : Few s := ⟨by rw [h.Rl]; decide, by rw [h.Cl]; decide, by rw [h.Ml]; decide⟩
set_option maxRecDepth 8000 in
set_option maxHeartbeats 4000000 in
theorem spec_PlnRun (s : St) (aR aC aM : Option Addr) (cR cC cM : Nat) (n : Int) (w : World) (h : SrcS w s aR aC aM) (hk : OkS s) (hn : n ≤ 200) :
    Calls Try.prog 44 #[.agg #[.int .i64 (s).pc, .slice aR (s).R.length cR, .slice aC (s).C.length cC, .slice aM (s).M.length cM], .int .i64 n] w (RunP s n.toNat w) := by
  obtain ⟨i0, hi, hz0, hz1, hz2⟩ := info_parts info_ev
  have F3 : Fr w (((w.alloc (.cells #[.int .i64 s.pc, .slice aR s.R.length cR, .slice aC s.C.length cC, .slice aM s.M.length cM] 26)).alloc (.cells #[.int .i64 0, .slice none 0 0, .slice none 0 0, .slice none 0 0] 26)).alloc (.cells #[] 69)) := by
    (repeat' first | (with_reducible exact Below.refl _ _) | (with_reducible assumption) | ((with_reducible refine Below.setCell ?_ ?hb _); (case hb => first | exact Nat.le_refl _ | (simp; done) | (simp; omega) | omega)) | ((with_reducible refine Below.alloc ?_ ?hb _); (case hb => first | exact Nat.le_refl _ | (simp; done) | (simp; omega) | omega)) | (with_reducible refine Below.drew ?_))
  have E := Lib.hid (spec_PlnOk s aR aC aM cR cC cM _ (h.fr F3) (ok_few hk))
  rw [(okS_iff s).2 hk] at E
  have HF := Lib.hid F3
  have HK := Lib.hid hk
  have HS := Lib.hid h
  have hd : decide (200 < n) = false := by simp; omega
  clear F3 h hk
  go_enter Try.func44, Try.ntmps44
  go_wp2_with fail
  simp only [Nat.add_assoc, Nat.reduceAdd]
  refine E.out.mono ?_
  rintro e u1 ⟨rfl, f1⟩
  have b1 : Box4 u1 w.heap.size (.int .i64 s.pc) (.slice aR s.R.length cR) (.slice aC s.C.length cC) (.slice aM s.M.length cM) := by
    refine Box4.fr ?_ f1
    (repeat (first | (with_reducible assumption) | (with_reducible exact Box4.new _ _ _ _ _ _ _ (by first | rfl | simp | (simp; omega))) | (with_reducible refine Box4.alloc ?_ _) | (with_reducible refine Box4.drew ?_) | (with_reducible refine Box4.drewN ?_ _) | (with_reducible refine Box4.other ?_ _ _ _ (by omega))))
  have b2 : Box4 u1 (w.heap.size + 1) (.int .i64 0) (.slice none 0 0) (.slice none 0 0) (.slice none 0 0) := by
    refine Box4.fr ?_ f1
    (repeat (first | (with_reducible assumption) | (with_reducible exact Box4.new _ _ _ _ _ _ _ (by first | rfl | simp | (simp; omega))) | (with_reducible refine Box4.alloc ?_ _) | (with_reducible refine Box4.drew ?_) | (with_reducible refine Box4.drewN ?_ _) | (with_reducible refine Box4.other ?_ _ _ _ (by omega))))
  have o1 : u1.ownsRow (w.heap.size + 2) 69 7 (.slice (some ⟨w.heap.size + 2, 0, none⟩) 0 0) 0 [] := own_but (owns_none _ _ _ (by simp) (Nat.le_refl _) _ _) (But.of (L := []) f1) (by simp)
  have FF := Lib.hid (HF.out.trans f1)
  have hs1 : w.heap.size + 3 ≤ u1.heap.size := by have := f1.size; simp at this; omega
  have HZ := Lib.hid b2
  have HO1 := Lib.hid o1
  obtain ⟨g1, b10, b11, b12, b13, _, _, _, _⟩ := b1
  clear f1 E HF b2 o1
  go_wp2_with fail
  refine (spec_l4Copy s aR aC aM cR cC cM u1 (HS.out.fr FF.out) HK.out.Rl HK.out.Cl HK.out.Ml).mono ?_
  rintro e u2 ⟨gr, gc, gm, cr, cc, cm, rfl, ho, l1, l2, l3, f2⟩
  have hs2 := f2.size
  have lt1 := ho.R.lt
  have lt2 := ho.C.lt
  have lt3 := ho.M.lt
  have L0 : Lr w u2.heap.size gr gc gm cr cc cm s 0 (.slice (some ⟨w.heap.size + 2, 0, none⟩) 0 0) (u2.alloc (.cells #[.int .i64 s.pc, .slice (some ⟨gr, 0, none⟩) 8 cr, .slice (some ⟨gc, 0, none⟩) 5 cc, .slice (some ⟨gm, 0, none⟩) 256 cm] 26)) := by
    refine ⟨Box4.new _ _ _ _ _ _ _ rfl, (HZ.out.fr f2).alloc _, ho.alloc _, World.ownsRow.alloc (own_but HO1.out (But.of (L := []) f2) (by simp)) _, fun q hq => ?_, (FF.out.trans f2).trans (Fr.alloc _ _)⟩
    have : w.heap.size + 2 = q := by simpa [Value.ownBlock] using hq
    omega
  have HL0 := Lib.hid L0
  clear L0 ho f2 b10 b11 b12 b13 g1 HZ HO1 FF hd
  go_wp2_with fail
  go_loopw [6, 8] (fun out k wr => ∃ p : Nat, (p : Int) ≤ max n 0 ∧ k = .int .i64 p ∧ Lr w u2.heap.size gr gc gm cr cc cm s p out wr) (fun _ k _ => n.toNat - (intOf k).toNat)
  case atStart => exact ⟨0, by omega, rfl, HL0.out⟩
  case round =>
    obtain ⟨p, hp, rfl, hL⟩ := hrel
    have HL := Lib.hid hL
    have hp2 : p ≤ 200 := by omega
    obtain ⟨⟨x1, x2, x3, x4, x5, x6, x7, x8, x9⟩, zb, _, _, _, _⟩ := hL
    have hsz := HL.out.fr.size
    by_cases hlt : (p : Int) < n
    · clear zb
      go_wp2_with fail
      refine (spec_l4Step (runS p s).1 gr gc gm cr cc cm false wr HL.out.ow (run_ok HK.out p)).mono ?_
      rintro e v1 ⟨rfl, ho', hB'⟩
      have hsz1 := hB'.size
      have XB := HL.out.bx.but hB' (by simp; omega)
      have ZB := HL.out.bz.but hB' (by simp; omega)
      have VB := own_but HL.out.vo hB' (fun q hq => by have := HL.out.na q hq; simp; omega)
      have FB : Fr w v1 := fr_but HL.out.fr hB' (fun k hk => by simp at hk; omega)
      have hXl : u2.heap.size < v1.heap.size := XB.lt
      have HXB := Lib.hid XB
      have HZB := Lib.hid ZB
      have HVB := Lib.hid VB
      have HFB := Lib.hid FB
      have HOB := Lib.hid ho'
      have HNB := Lib.hid HL.out.na
      have HQ1 := Lib.hid (show (runS (p + 1) s).1 = (stepS (runS p s).1 false).1 from rfl)
      have HQ2 := Lib.hid (show evsC (runS (p + 1) s).2 = evsC (runS p s).2 ++ evC (stepS (runS p s).1 false).2 from evsC_app _ _)
      rw [← HQ1.out] at HOB
      rw [← HQ1.out]
      generalize (stepS (runS p s).1 false).2 = ev at *
      clear x1 x2 x3 x4 x5 x6 x7 x8 x9 XB ZB VB FB ho' hB' HL hsz HQ1
      obtain ⟨x1, x2, x3, x4, x5, x6, x7, x8, x9⟩ := HXB.out
      have m1 : ¬ u2.heap.size = v1.heap.size := by omega
      have m2 : ¬ v1.heap.size = u2.heap.size := by omega
      have m3 : ¬ u2.heap.size = v1.heap.size + 1 := by omega
      have m4 : ¬ v1.heap.size + 1 = u2.heap.size := by omega
      go_wp2_with (at_builtin; (try simp only [Nat.add_assoc, Nat.reduceAdd]; refine wpList_gen (fun t => Box4 t u2.heap.size (.int .i64 (runS (p + 1) s).1.pc) (.slice (some ⟨gr, 0, none⟩) 8 cr) (.slice (some ⟨gc, 0, none⟩) 5 cc) (.slice (some ⟨gm, 0, none⟩) 256 cm) ∧ Box4 t (w.heap.size + 1) (.int .i64 0) (.slice none 0 0) (.slice none 0 0) (.slice none 0 0) ∧ Own t gr gc gm (runS (p + 1) s).1 ∧ t.ownsRow (w.heap.size + 2) 69 7 u6 p (evsC (runS p s).2) ∧ Fr w t ∧ Box7 t (v1.heap.size + 2) ev) ⟨?_, ?_, ?_, ?_, ?_, ?_⟩ ?_; (have q1 := HXB.out; (repeat (first | (with_reducible refine Box4.alloc ?_ _))); exact q1.set _ _ _ _); (have q1 := HZB.out; (repeat (first | (with_reducible assumption) | (with_reducible exact Box4.new _ _ _ _ _ _ _ (by first | rfl | simp | (simp; omega))) | (with_reducible refine Box4.alloc ?_ _) | (with_reducible refine Box4.drew ?_) | (with_reducible refine Box4.drewN ?_ _) | (with_reducible refine Box4.other ?_ _ _ _ (by omega))))); (have q1 := HOB.out; (repeat (first | (with_reducible refine Own.alloc ?_ _) | (with_reducible refine Own.drew ?_) | (with_reducible refine Own.drewN ?_ _) | (with_reducible refine Own.other ?_ _ _ _ (by omega) (by omega) (by omega)))); exact q1); (refine own_but (L := [u2.heap.size]) HVB.out ?_ (fun q hq => by have := HNB.out q hq; simp; omega); (repeat (first | (with_reducible exact But.refl _ _) | (with_reducible assumption) | (with_reducible refine But.alloc ?_ _) | (with_reducible refine But.drew ?_) | (with_reducible refine But.drewN ?_ _) | (with_reducible refine But.set ?_ _ _ _ (by first | (left; simp; done) | (right; simp; done) | (right; omega) | (right; simp; omega)))))); (refine fr_but (L := [u2.heap.size]) HFB.out ?_ (fun k hk => by simp at hk; omega); (repeat (first | (with_reducible exact But.refl _ _) | (with_reducible assumption) | (with_reducible refine But.alloc ?_ _) | (with_reducible refine But.drew ?_) | (with_reducible refine But.drewN ?_ _) | (with_reducible refine But.set ?_ _ _ _ (by first | (left; simp; done) | (right; simp; done) | (right; omega) | (right; simp; omega)))))); ((repeat (first | (with_reducible assumption) | (with_reducible exact Box7.new _ _ _ _ (by first | rfl | simp | (simp; omega))) | (with_reducible exact Box7.newv _ _ _ _ _ _ _ _ _ _ (by first | rfl | simp | (simp; omega))) | (with_reducible refine Box7.alloc ?_ _) | (with_reducible refine Box7.drew ?_) | (with_reducible refine Box7.drewN ?_ _) | (with_reducible refine Box7.other ?_ _ _ _ (by omega))))); rintro t ⟨tx, tz, tow, tv, tf, te⟩; refine wpList_append_own_at _ rfl _ _ 56 rfl (w.heap.size + 2) 69 i0 _ 7 56 Try.underlying56 hi hz0 hz1 hz2 rfl (by decide) u6 p _ rfl tv ⟨v1.heap.size + 2, 0, none⟩ 1 1 (evC ev) rfl rfl (box7_cells te) (evC_one ev) (by unfold maxLen; omega) (by omega) (by have := tf.size; have := te.lt; omega) ?_; intro out2 t2 hown hg _ hor))
      have HO2 := Lib.hid hown
      rw [← HQ2.out] at HO2
      have hgB := but_grown hg
      have hne : ∀ q, u6.ownBlock = some q → q ≠ gr ∧ q ≠ gc ∧ q ≠ gm ∧ q ≠ u2.heap.size := HNB.out
      have hlt6 := fun q (hq : u6.ownBlock = some q) => (World.ownsRow.lt tv q hq).1
      have hsz2 := tf.size
      have hel := te.lt
      have HT : Lr w u2.heap.size gr gc gm cr cc cm s (p + 1) out2 t2 := by
        refine ⟨tx.but hgB (fun hm => ?_), tz.but hgB (fun hm => ?_), tow.but hgB (fun hm => ?_) (fun hm => ?_) (fun hm => ?_), HO2.out, fun q hq => ?_, fr_but tf hgB (fun k hk => ?_)⟩
        · have := hne _ (by simpa using hm); omega
        · have := hlt6 _ (by simpa using hm); omega
        · have := hne _ (by simpa using hm); omega
        · have := hne _ (by simpa using hm); omega
        · have := hne _ (by simpa using hm); omega
        · rcases hor with h | h
          · exact hne q (h.symm.trans hq)
          · rw [h] at hq
            have : t.heap.size = q := by simpa using hq
            omega
        · have := hlt6 k (by simpa using hk); omega
      have HTT := Lib.hid HT
      clear HT tx tz tow tv tf te hown hg hor hgB hne hlt6 hel HXB HZB HVB HFB HOB HNB HO2 HQ2
      go_wp2
      go_roundw
      case rel => exact ⟨p + 1, by omega, by go_num, HTT.out⟩
      case measure => simp [intOf]; omega
    · have hpn : p = n.toNat := by omega
      have HPN := Lib.hid hpn
      have hzl := HL.out.bz.lt
      clear hpn
      have hK2 := run_ok HK.out p
      have C := Lib.hid (spec_l4CopyT (runS p s).1 (some ⟨gr, 0, none⟩) (some ⟨gc, 0, none⟩) (some ⟨gm, 0, none⟩) cr cc cm wr HL.out.ow.src hK2.Rl hK2.Cl hK2.Ml)
      rw [hK2.Rl, hK2.Cl, hK2.Ml] at C
      clear hK2 zb
      go_wp2_with fail
      refine C.out.mono ?_
      rintro e v1 ⟨hr, hc, hm, c1, c2, c3, rfl, ho', k1, k2, k3, f', kr⟩
      have Zb := HL.out.bz.fr f'
      have Zb0 := Zb
      obtain ⟨zl, z0, z1, z2, z3, y0, y1, y2, y3⟩ := Zb
      have hv1 := f'.size
      have VB := own_but HL.out.vo (But.of (L := []) f') (by simp)
      have HVB := Lib.hid VB
      have HFB := Lib.hid (HL.out.fr.trans f')
      have HOB := Lib.hid ho'
      have HKr := Lib.hid kr
      have HNB := Lib.hid HL.out.na
      have HVL := Lib.hid (fun q (hq : u6.ownBlock = some q) => World.ownsRow.lt HL.out.vo q hq)
      clear VB ho' kr f' x1 x2 x3 x4 x5 x6 x7 x8 x9 HL Zb0
      go_wp2
      refine bodyPost_ret (v := .tuple #[.agg #[.int .i64 (runS p s).1.pc, .slice (some ⟨hr, 0, none⟩) 8 c1, .slice (some ⟨hc, 0, none⟩) 5 c2, .slice (some ⟨hm, 0, none⟩) 256 c3], u6]) (by simp [results, Try.results44, go_sem, z0, z1, z2, z3]) rfl ⟨hr, hc, hm, c1, c2, c3, u6, by rw [← HPN.out], by rw [← HPN.out]; exact HOB.out.but ((But.refl [w.heap.size + 1] v1).set4 (w.heap.size + 1) _ _ _ _ (.inl (by simp))) (by simp; omega) (by simp; omega) (by simp; omega), by omega, by omega, by omega, ?_, fun q hq => ?_, ?_, HKr.out.but ((But.refl [w.heap.size + 1] v1).set4 (w.heap.size + 1) _ _ _ _ (.inl (by simp))) (by simp; omega)⟩
      · rw [← HPN.out]
        exact owns_base (own_but HVB.out ((But.refl [w.heap.size + 1] v1).set4 (w.heap.size + 1) _ _ _ _ (.inl (by simp))) (fun q hq => by have := (HVL.out q hq).1; simp; omega)) (by omega)
      · have := (HVL.out q hq).2
        omega
      · exact fr_but HFB.out ((But.refl [w.heap.size + 1] v1).set4 (w.heap.size + 1) _ _ _ _ (.inl (by simp))) (fun k hk => by have := List.mem_singleton.1 hk; omega)

end Go.Proofs.Ytmkinbnopgfljaa
