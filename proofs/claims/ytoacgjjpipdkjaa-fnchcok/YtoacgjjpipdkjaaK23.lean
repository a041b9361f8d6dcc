/- Caches marked by the laws, and held. Whole caches marked by the laws, and held. A cache that came in. Answers that are caches: not too long; where they lie. -/
import Derived.Test.YtoacgjjpipdkjaaK20
import Derived.Test.YtoacgjjpipdkjaaOpenGue
namespace Go.Proofs.Ytoacgjjpipdkjaa
open Go.RowKit
set_option linter.unusedVariables false
set_option linter.unusedSimpArgs false
theorem rng_of {u : World} {g : Nat} {X : List La} (h : ∀ i, i < X.length → u.cell? ⟨g, i * 4, none⟩ = some (.bool (X.getD i la0).n.u) ∧ u.cell? ⟨g, i * 4 + 1, none⟩ = some (.int .i64 (X.getD i la0).n.p) ∧ u.cell? ⟨g, i * 4 + 2, none⟩ = some (.bool (X.getD i la0).n.d) ∧ u.cell? ⟨g, i * 4 + 3, none⟩ = some (.slice (X.getD i la0).a (X.getD i la0).n.W.length (X.getD i la0).c)) : u.rangeAt g 0 (clL X) := fun j v hv => by
  have hj : j < 4 * X.length := by
    have := (List.getElem?_eq_some_iff.1 hv).1
    rwa [clL_len] at this
  obtain ⟨i, r, rfl, hr⟩ : ∃ i r, j = 4 * i + r ∧ r < 4 := ⟨j / 4, j % 4, by omega, by omega⟩
  have hi : i < X.length := by omega
  have hc := clL_at X i hi
  obtain ⟨h0, h1, h2, h3⟩ := h i hi
  rw [Nat.zero_add, show 4 * i + r = i * 4 + r by omega]
  rcases r with _ | _ | _ | _ | r
  · rw [Nat.add_zero, hc.1] at hv; cases hv; exact h0
  · rw [hc.2.1] at hv; cases hv; exact h1
  · rw [hc.2.2.1] at hv; cases hv; exact h2
  · rw [hc.2.2.2] at hv; cases hv; exact h3
  · omega
theorem RoL.set3 {u : World} {g : Nat} {X : List La} (h : RoL u g X) (k : Nat) (y : La) (hk : k < X.length) (ha : y.a = (X.getD k la0).a) (hl : y.n.W.length = (X.getD k la0).n.W.length) (hc : y.c = (X.getD k la0).c) :
    RoL (((u.setCell ⟨g, k * 4, none⟩ (.bool y.n.u)).setCell ⟨g, k * 4 + 1, none⟩ (.int .i64 y.n.p)).setCell ⟨g, k * 4 + 2, none⟩ (.bool y.n.d)) g (X.set k y) := by
  refine ⟨by have := h.lt; simpa [World.setCell] using this, rng_of fun i hi => ?_, fun j hj => ?_⟩
  · rw [List.length_set] at hi
    obtain ⟨h0, h1, h2, h3⟩ := h.slot i hi
    rw [getD_setA]
    by_cases e : k = i
    · subst e
      rw [if_pos ⟨rfl, hi⟩, ha, hl, hc]
      refine ⟨?_, ?_, ?_, ?_⟩
      · rw [World.cell?_setCell_other _ _ _ _ (by simp), World.cell?_setCell_other _ _ _ _ (by simp), World.cell?_setCell_same _ _ _ h0]
      · rw [World.cell?_setCell_other _ _ _ _ (by simp)]
        exact World.cell?_setCell_same _ _ _ (by rw [World.cell?_setCell_other _ _ _ _ (by simp)]; exact h1)
      · exact World.cell?_setCell_same _ _ _ (by rw [World.cell?_setCell_other _ _ _ _ (by simp), World.cell?_setCell_other _ _ _ _ (by simp)]; exact h2)
      · rw [World.cell?_setCell_other _ _ _ _ (by simp), World.cell?_setCell_other _ _ _ _ (by simp), World.cell?_setCell_other _ _ _ _ (by simp)]; exact h3
    · rw [if_neg (fun h => e h.1)]
      refine ⟨?_, ?_, ?_, ?_⟩ <;> rw [World.cell?_setCell_other _ _ _ _ (by simp <;> omega), World.cell?_setCell_other _ _ _ _ (by simp <;> omega), World.cell?_setCell_other _ _ _ _ (by simp <;> omega)] <;> assumption
  · rw [List.length_set] at hj
    have ht := h.thr j hj
    refine ⟨?_, by rw [World.frozen?_setCell, World.frozen?_setCell, World.frozen?_setCell]; exact ht.2⟩
    have one : ∀ (v : World) (b : Addr) (x : Value), (v.cell? ⟨g, 0 + j, none⟩).isSome = true → ((v.setCell b x).cell? ⟨g, 0 + j, none⟩).isSome = true := fun v b x hv => by
      by_cases e : b = ⟨g, 0 + j, none⟩
      · subst e
        obtain ⟨z, hz⟩ := Option.isSome_iff_exists.1 hv
        rw [World.cell?_setCell_same _ _ _ hz]; rfl
      · rw [World.cell?_setCell_other _ _ _ _ e]; exact hv
    exact one _ _ _ (one _ _ _ (one _ _ _ ht.1))
theorem OwL.mark {B : Nat} {u u2 : World} {g : Nat} {Y : List La} (h : OwL B u g Y) (p : Nat) (y : La) (hp : p < Y.length) (ha : y.a = (Y.getD p la0).a) (hl : y.n.W.length = (Y.getD p la0).n.W.length) (hc : y.c = (Y.getD p la0).c)
    (hv : Vc B u2 y.n.W.length (ivl y.n.W) y.a) (hb : But (wbk y) (((u.setCell ⟨g, p * 4, none⟩ (.bool y.n.u)).setCell ⟨g, p * 4 + 1, none⟩ (.int .i64 y.n.p)).setCell ⟨g, p * 4 + 2, none⟩ (.bool y.n.d)) u2) : OwL B u2 g (Y.set p y) := by
  have hw : wbk y = wbk (Y.getD p la0) := by show bkS _ _ = bkS _ _; rw [ha, hl]
  have h3 : But [g] u (((u.setCell ⟨g, p * 4, none⟩ (.bool y.n.u)).setCell ⟨g, p * 4 + 1, none⟩ (.int .i64 y.n.p)).setCell ⟨g, p * 4 + 2, none⟩ (.bool y.n.d)) := ((((But.refl _ _).set _ _ _ (.inl (by simp))).set _ _ _ (.inl (by simp))).set _ _ _ (.inl (by simp)))
  refine ⟨h.b, (h.r.set3 p y hp ha hl hc).but hb (by rw [hw]; exact h.ap p hp), ⟨fun i hi => ?_, fun i j hi hj hij m h1 h2 => ?_⟩, fun i hi => ?_⟩
  · rw [List.length_set] at hi
    rw [getD_setA]
    split
    · exact hv
    · rename_i e
      refine ((h.w.wd i hi).but' h3 (fun m hm hx => by rw [List.mem_singleton.1 hx] at hm; exact h.ap i hi hm)).but' hb (fun m hm hx => ?_)
      rw [hw] at hx
      exact h.w.ap i p hi hp (fun e' => e ⟨e'.symm, hi⟩) m hm hx
  · rw [List.length_set] at hi hj
    rw [getD_setA] at h1 h2
    split at h1
    · rename_i e
      rw [if_neg (fun e' => hij (e.1.symm.trans e'.1))] at h2
      rw [hw] at h1
      exact h.w.ap p j hp hj (fun e' => hij (e.1.symm.trans e')) m h1 h2
    · split at h2
      · rename_i e
        rw [hw] at h2
        exact h.w.ap i p hi hp (fun e' => hij (e'.trans e.1)) m h1 h2
      · exact h.w.ap i j hi hj hij m h1 h2
  · rw [List.length_set] at hi
    rw [getD_setA]
    split
    · rw [hw]; exact h.ap p hp
    · exact h.ap i hi
def ints (q : Int) (n : Nat) : List Int := (List.range n).map fun i : Nat => q + (i : Int)
theorem ints_len (q : Int) (n : Nat) : (ints q n).length = n := by simp [ints]
theorem ints_get (q : Int) (n i : Nat) (hi : i < n) : (ints q n).getD i 0 = q + (i : Int) := by simp [ints, List.getD_eq_getElem?_getD, hi]
/-- A line, marked from q on. -/
def mkLn7 (q : Int) (n : Nat) : Ln := ⟨q % 3 == 0, q + 1, (q + 1 + 1) % 3 == 0, ints (q + 1 + 1 + 1) n⟩
def mkX7 (k : Int) (X : List La) (i : Nat) : La := ⟨mkLn7 (k + 3 * i + sumW X i) (X.getD i la0).n.W.length, (X.getD i la0).a, (X.getD i la0).c⟩
def mkY7 (k : Int) (X : List La) (p : Nat) : List La := (List.range X.length).map fun i => if i < p then mkX7 k X i else X.getD i la0
theorem mkY_len (k : Int) (X : List La) (p : Nat) : (mkY7 k X p).length = X.length := by simp [mkY7]
theorem mkY_get (k : Int) (X : List La) (p i : Nat) (hi : i < X.length) : (mkY7 k X p).getD i la0 = if i < p then mkX7 k X i else X.getD i la0 := by simp [mkY7, List.getD_eq_getElem?_getD, hi]
theorem la_ext {L S : List La} (hl : L.length = S.length) (h : ∀ i, i < S.length → L.getD i la0 = S.getD i la0) : L = S := by
  apply List.ext_getElem hl
  intro i h1 h2
  have := h i h2
  simpa [List.getD_eq_getElem?_getD, List.getElem?_eq_getElem h1, List.getElem?_eq_getElem h2] using this
theorem mkY_zero (k : Int) (X : List La) : mkY7 k X 0 = X := la_ext (mkY_len _ _ _) (fun i hi => by rw [mkY_get _ _ _ _ hi, if_neg (by omega)])
theorem mkY_succ (k : Int) (X : List La) (p : Nat) (hp : p < X.length) : mkY7 k X (p + 1) = (mkY7 k X p).set p (mkX7 k X p) := la_ext (by rw [List.length_set, mkY_len, mkY_len]) (fun i hi => by
  rw [List.length_set, mkY_len] at hi
  rw [getD_setA, mkY_get _ _ _ _ hi, mkY_get _ _ _ _ hi, mkY_len]
  by_cases e : p = i
  · subst e
    rw [if_pos (by omega), if_pos ⟨rfl, hi⟩]
  · have h2 : ¬ (p = i ∧ i < X.length) := fun h => e h.1
    rw [if_neg h2]
    by_cases h : i < p
    · rw [if_pos (by omega), if_pos h]
    · rw [if_neg (by omega), if_neg h])
theorem mkX_wbk (k : Int) (X : List La) (i : Nat) : wbk (mkX7 k X i) = wbk (X.getD i la0) := by
  show bkS _ _ = bkS _ _
  simp [mkX7, mkLn7, ints_len]
theorem mkY_wbk (k : Int) (X : List La) (p i : Nat) (hi : i < X.length) : wbk ((mkY7 k X p).getD i la0) = wbk (X.getD i la0) := by
  rw [mkY_get _ _ _ _ hi]
  split
  · exact mkX_wbk k X i
  · rfl
/-- All blocks of lines' words. -/
def wbks (X : List La) : List Nat := X.flatMap wbk
theorem wbks_mem {X : List La} {i m : Nat} (hi : i < X.length) (h : m ∈ wbk (X.getD i la0)) : m ∈ wbks X := by
  refine List.mem_flatMap.2 ⟨X.getD i la0, ?_, h⟩
  rw [List.getD_eq_getElem?_getD, List.getElem?_eq_getElem hi]
  exact List.getElem_mem hi
theorem mem_wbks {X : List La} {m : Nat} (h : m ∈ wbks X) : ∃ i, i < X.length ∧ m ∈ wbk (X.getD i la0) := by
  obtain ⟨l, hl, hm⟩ := List.mem_flatMap.1 h
  obtain ⟨i, hi, rfl⟩ := List.mem_iff_getElem.1 hl
  exact ⟨i, hi, by rw [List.getD_eq_getElem?_getD, List.getElem?_eq_getElem hi]; exact hm⟩
set_option maxRecDepth 8000 in
set_option maxHeartbeats 4000000 in
theorem laws_markLines1 (B : Nat) (X : List La) (g cap : Nat) (k : Int) (u : World) (h : OwL B u g X) (hB : B ≤ u.heap.size) (hx : X.length ≤ 1048576) (hs : sumW X X.length ≤ 1048576) (k0 : 1 ≤ k) (k1 : k ≤ 2000000) :
    Calls Try.prog 74 #[.slice (some ⟨g, 0, none⟩) X.length cap, .int .i64 k] u fun e u' => e = .returned (.int .i64 (k + 3 * X.length + sumW X X.length)) ∧ OwL B u' g (mkY7 k X X.length) ∧ But (g :: wbks X) u u' := by
  have HB := Lib.hid hB
  have HS := Lib.hid hs
  have HO := Lib.hid h
  clear h hs
  go_enter Try.func74, Try.ntmps74
  go_wp2_with fail
  go_loopw [1, 5] (fun s i wr => ∃ p : Nat, p ≤ X.length ∧ i = .int .i64 p ∧ s = .int .i64 (k + 3 * p + sumW X p) ∧ OwL B wr g (mkY7 k X p) ∧ But (g :: wbks X) u wr) (fun _ i _ => X.length - (intOf i).toNat)
  case atStart => exact ⟨0, Nat.zero_le _, rfl, by simp [sumW], by rw [mkY_zero]; exact HO.out, But.refl _ _⟩
  case round =>
    obtain ⟨p, hp, rfl, rfl, hO, hb⟩ := hrel
    have HOr := Lib.hid hO
    have HBr := Lib.hid hb
    by_cases hlt : p < X.length
    · have hlp : p < (mkY7 k X p).length := by rw [mkY_len]; exact hlt
      obtain ⟨d0, d1, d2, d3⟩ := hO.r.slot p hlp
      have TH := hO.r.there4 p hlp
      have t0 : wr.frozen? ⟨g, p * 4, none⟩ = false := by { have := (TH 0 (by omega)).2; simpa using this }
      have t1 := (TH 1 (by omega)).2
      have t2 := (TH 2 (by omega)).2
      have hgp : (mkY7 k X p).getD p la0 = X.getD p la0 := by rw [mkY_get _ _ _ _ hlt, if_neg (by omega)]
      have hV := hO.w.wd p hlp
      have hG := hO.ap p hlp
      rw [hgp] at d0 d1 d2 d3 hV hG
      have hsp := sumW_le X hp
      have hsq := sumW_le X (show p + 1 ≤ X.length from hlt)
      have HSx := Lib.hid (show sumW X (p + 1) = sumW X p + (X.getD p la0).n.W.length from rfl)
      have HGp := Lib.hid hgp
      obtain ⟨q, hq⟩ : ∃ q : Int, q = k + 3 * p + sumW X p := ⟨_, rfl⟩
      have hq0 : 0 ≤ q := by omega
      have hq1 : q ≤ 9000000 := by have := HS.out; omega
      have HQ := Lib.hid hq
      have HY := Lib.hid (show mkX7 k X p = ⟨mkLn7 q (X.getD p la0).n.W.length, (X.getD p la0).a, (X.getD p la0).c⟩ by rw [hq]; rfl)
      have hwl : (X.getD p la0).n.W.length ≤ 1048576 := by have := HS.out; simp only [sumW] at hsq; omega
      rw [← hq]
      have hlt' : (p : Int) < (X.length : Int) := by omega
      have hp0 : (0 : Int) ≤ (p : Int) := Int.natCast_nonneg _
      have HWk := Lib.hid (fun m (hm : m ∈ wbk (X.getD p la0)) => wbks_mem hlt hm)
      have HVp := Lib.hid hV
      have HGk := Lib.hid hG
      clear hO hb TH hgp hV hG hsp hsq hq
      generalize hl : X.getD p la0 = l at *
      have HLl := Lib.hid hl
      clear hl
      go_upto_region 10 with fail
      have h3 : But [g] wr (((wr.setCell ⟨g, p * 4, none⟩ (.bool (q % 3 == 0))).setCell ⟨g, p * 4 + 1, none⟩ (.int .i64 (q + 1))).setCell ⟨g, p * 4 + 2, none⟩ (.bool ((q + 1 + 1) % 3 == 0))) := ((((But.refl _ _).set _ _ _ (.inl (by simp))).set _ _ _ (.inl (by simp))).set _ _ _ (.inl (by simp)))
      have HV3 := Lib.hid (HVp.out.but' h3 (fun m hm hx => by rw [List.mem_singleton.1 hx] at hm; exact HGk.out hm))
      have H3 := Lib.hid h3
      have hz3 := h3.size
      have hz0 := HBr.out.size
      clear h3
      obtain ⟨w3, hw3⟩ : ∃ w3, (((wr.setCell ⟨g, p * 4, none⟩ (.bool (q % 3 == 0))).setCell ⟨g, p * 4 + 1, none⟩ (.int .i64 (q + 1))).setCell ⟨g, p * 4 + 2, none⟩ (.bool ((q + 1 + 1) % 3 == 0))) = w3 := ⟨_, rfl⟩
      have e3 : w3.cell? ⟨g, p * 4 + 3, none⟩ = some (.slice l.a l.n.W.length l.c) := by
        rw [← hw3, World.cell?_setCell_other _ _ _ _ (by simp), World.cell?_setCell_other _ _ _ _ (by simp), World.cell?_setCell_other _ _ _ _ (by simp)]
        exact d3
      have HW3 := Lib.hid hw3
      rw [hw3] at HV3 H3 hz3 ⊢
      clear hw3 d0 d1 d2 d3 t0 t1 t2
      go_wp2_with fail
      refine (laws_markInts5 B w3 l.n.W l.a l.c (q + 1 + 1 + 1) HV3.out (by have := HB.out; omega) hwl (by omega) (by omega)).mono ?_
      rintro e u5 ⟨rfl, hV5, hb5⟩
      have HV5 := Lib.hid hV5
      have HB5 := Lib.hid hb5
      clear hV5 hb5 e3
      go_wp2
      go_roundw
      case rel =>
        refine ⟨p + 1, by omega, by go_num, ?_, ?_, ?_⟩
        · congr 1
          rw [HSx.out]
          have := HQ.out
          omega
        · rw [mkY_succ _ _ _ hlt, HY.out]
          refine HOr.out.mark p ⟨mkLn7 q l.n.W.length, l.a, l.c⟩ (by rw [mkY_len]; exact hlt) (by rw [HGp.out]) (by rw [HGp.out]; simp [mkLn7, ints_len]) (by rw [HGp.out]) ?_ ?_
          · have := HV5.out
            refine (show Vc B u5 (ints (q + 1 + 1 + 1) l.n.W.length).length (ivl (ints (q + 1 + 1 + 1) l.n.W.length)) l.a from ?_)
            rw [ints_len]
            exact this.cong (fun i hi => by simp only [ivl]; rw [ints_get _ _ _ hi])
          · have hwb : wbk (⟨mkLn7 q l.n.W.length, l.a, l.c⟩ : La) = bkS l.n.W.length l.a := by show bkS _ _ = _; simp [mkLn7, ints_len]
            rw [hwb]
            have := HW3.out
            simp only [mkLn7]
            rw [this]
            exact HB5.out
        · exact ((HBr.out.trans (H3.out.wide (fun m hm => by simp at hm; simp [hm])))).trans (HB5.out.wide (fun m hm => List.mem_cons_of_mem _ (HWk.out m hm)))
      case measure => simp [intOf]; omega
    · have hge : ¬ (p : Int) < (X.length : Int) := by omega
      obtain rfl : p = X.length := by omega
      clear hO hb
      go_wp2
      go_ret
      exact ⟨rfl, HOr.out, HBr.out⟩

set_option maxRecDepth 8000 in
set_option maxHeartbeats 4000000 in
theorem laws_heldLines (X : List La) (ao : Option Addr) (cap : Nat) (k : Int) (u : World) (h : SrcL u (mkY7 k X X.length) ao) (hx : X.length ≤ 1048576) (hs : sumW X X.length ≤ 1048576) (k0 : 1 ≤ k) (k1 : k ≤ 2000000) :
    Calls Try.prog 75 #[.slice ao X.length cap, .int .i64 k] u fun e u' => e = .returned (.int .i64 (k + 3 * X.length + sumW X X.length)) ∧ Fr u u' := by
  have HS := Lib.hid hs
  have HH := Lib.hid h
  clear h hs
  go_enter Try.func75, Try.ntmps75
  go_wp2_with fail
  go_loopw [1, 5] (fun s i wr => ∃ p : Nat, p ≤ X.length ∧ i = .int .i64 p ∧ s = .int .i64 (k + 3 * p + sumW X p) ∧ Fr u wr) (fun _ i _ => X.length - (intOf i).toNat)
  case atStart => exact ⟨0, Nat.zero_le _, rfl, by simp [sumW], Below.refl _ _⟩
  case round =>
    obtain ⟨p, hp, rfl, rfl, hf⟩ := hrel
    have HF := Lib.hid hf
    by_cases hlt : p < X.length
    · obtain ⟨g, o, rfl, hgl, hrg⟩ := HH.out.at0 (by rw [mkY_len]; omega)
      obtain ⟨d0, d1, d2, d3⟩ := line_at (range_fr hrg hf hgl) p (by rw [mkY_len]; exact hlt)
      have hW := HH.out.wd p (by rw [mkY_len]; exact hlt)
      rw [mkY_get _ _ _ _ hlt, if_pos hlt] at d0 d1 d2 d3 hW
      have hsp := sumW_le X hp
      have hsq := sumW_le X (show p + 1 ≤ X.length from hlt)
      have HSx := Lib.hid (show sumW X (p + 1) = sumW X p + (X.getD p la0).n.W.length from rfl)
      have hwl : (X.getD p la0).n.W.length ≤ 1048576 := by have := HS.out; simp only [sumW] at hsq; omega
      obtain ⟨q, hq⟩ : ∃ q : Int, q = k + 3 * p + sumW X p := ⟨_, rfl⟩
      have hq0 : 1 ≤ q := by omega
      have hq1 : q ≤ 9000000 := by have := HS.out; omega
      have hY : mkX7 k X p = ⟨mkLn7 q (X.getD p la0).n.W.length, (X.getD p la0).a, (X.getD p la0).c⟩ := by rw [hq]; rfl
      rw [hY] at d0 d1 d2 d3 hW
      have HQ := Lib.hid hq
      rw [← hq]
      have hlt' : (p : Int) < (X.length : Int) := by omega
      have hp0 : (0 : Int) ≤ (p : Int) := Int.natCast_nonneg _
      have HI := Lib.hid (show Src wr (X.getD p la0).n.W.length (fun i => .int .i64 (q + 1 + 1 + 1 + (i : Int))) (X.getD p la0).a from fun h0 => by
        obtain ⟨g', o', e, hl', hc⟩ := (hW.fr hf) (by show 0 < (ints _ _).length; rw [ints_len]; exact h0)
        refine ⟨g', o', e, hl', fun i hi => ?_⟩
        rw [hc i (by show i < (ints _ _).length; rw [ints_len]; exact hi)]
        simp only [mkLn7, ivl]
        rw [ints_get _ _ _ hi])
      simp only [mkLn7, ints_len] at d0 d1 d2 d3
      clear hf hrg hW hsp hsq hq hY
      generalize X.getD p la0 = l at *
      go_wp2_with fail
      refine (laws_heldIntSo wr l.n.W.length l.a l.c (q + 1 + 1 + 1) HI.out hwl (by omega) (by omega)).mono ?_
      rintro e u1 ⟨rfl, f1⟩
      have F1 := Lib.hid f1
      have n1 : ¬ q + 1 + 1 + 1 + (l.n.W.length : Int) < 0 := by omega
      clear f1 d0 d1 d2 d3
      go_wp2
      go_roundw
      case rel =>
        refine ⟨p + 1, by omega, by go_num, ?_, Fr.trans HF.out F1.out⟩
        congr 1
        rw [HSx.out]
        have := HQ.out
        omega
      case measure => simp [intOf]; omega
    · have hge : ¬ (p : Int) < (X.length : Int) := by omega
      obtain rfl : p = X.length := by omega
      clear hf
      go_wp2
      go_ret
      exact ⟨rfl, HF.out⟩
theorem laws_markLines0 (u : World) (ao : Option Addr) (cap : Nat) (k : Int) :
    Calls Try.prog 74 #[.slice ao 0 cap, .int .i64 k] u fun e u' => e = .returned (.int .i64 k) ∧ u = u' := by
  go_enter Try.func74, Try.ntmps74
  go_wp2_with fail
  go_loopw [1, 5] (fun q i wr => q = .int .i64 k ∧ i = .int .i64 0 ∧ u = wr) (fun _ _ _ => 0)
  case atStart => exact ⟨rfl, rfl, rfl⟩
  case round =>
    obtain ⟨rfl, rfl, rfl⟩ := hrel
    go_wp2_with fail
    go_ret
    exact ⟨rfl, rfl⟩
/-- All blocks of a cache. -/
def kbl (M : List Int) (X : List La) (aM aL : Option Addr) : List Nat := bkS M.length aM ++ (bkS X.length aL ++ wbks X)
theorem VcH7.bl {B : Nat} {u : World} {M : List Int} {X : List La} {aM aL : Option Addr} (h : VcH7 B u M X aM aL) : ∀ m, m ∈ kbl M X aM aL → B ≤ m ∧ m < u.heap.size := fun m hm => by
  rcases List.mem_append.1 hm with hm | hm
  · exact h.rM.bk m hm
  · rcases List.mem_append.1 hm with hm | hm
    · obtain ⟨h0, b, e, rfl⟩ := mem_bkS hm
      obtain ⟨g, e', hB, r⟩ := h.rL h0
      rw [e] at e'
      cases e'
      exact ⟨hB, r.lt⟩
    · obtain ⟨i, hi, hm⟩ := mem_wbks hm
      exact h.w.bk i hi m hm
/-- A cache that was marked from k on. -/
def mkM7 (k : Int) (M : List Int) : List Int := ints k M.length
structure VcM7 (B : Nat) (u : World) (k : Int) (M : List Int) (X : List La) (aM aL : Option Addr) : Prop where
  rM : Vc B u M.length (fun i => .int .i64 (k + (i : Int))) aM
  rL : SrcL u (mkY7 (k + M.length) X X.length) aL
  bl : ∀ m, m ∈ kbl M X aM aL → B ≤ m ∧ m < u.heap.size
theorem SrcL.but {L : List Nat} {u u' : World} {X : List La} {ao : Option Addr} (h : SrcL u X ao) (f : But L u u') (h1 : ∀ m, m ∈ bkS X.length ao → m ∉ L) (h2 : ∀ i, i < X.length → ∀ m, m ∈ wbk (X.getD i la0) → m ∉ L) : SrcL u' X ao := by
  refine ⟨fun h0 => ?_, fun i hi h0 => ?_⟩
  · obtain ⟨g, o, e, hl, hc⟩ := h.at0 h0
    have hg : g ∉ L := h1 g (by rw [e]; exact bkS_mem (b := ⟨g, o, none⟩) h0)
    exact ⟨g, o, e, Nat.lt_of_lt_of_le hl f.size, range_but hc f hl hg⟩
  · obtain ⟨g, o, e, hl, hc⟩ := h.wd i hi h0
    have hg : g ∉ L := h2 i hi g (by show g ∈ bkS _ _; rw [e]; exact bkS_mem (b := ⟨g, o, none⟩) h0)
    exact ⟨g, o, e, Nat.lt_of_lt_of_le hl f.size, fun j hj => by rw [f.cell hl hg]; exact hc j hj⟩
theorem VcM7.but {B : Nat} {L : List Nat} {u u' : World} {k : Int} {M : List Int} {X : List La} {aM aL : Option Addr} (h : VcM7 B u k M X aM aL) (f : But L u u') (hn : ∀ m, m ∈ kbl M X aM aL → m ∉ L) : VcM7 B u' k M X aM aL := by
  refine ⟨h.rM.but' f (fun m hm => hn m (List.mem_append_left _ hm)), h.rL.but f (fun m hm => hn m ?_) (fun i hi m hm => hn m ?_), fun m hm => ⟨(h.bl m hm).1, Nat.lt_of_lt_of_le (h.bl m hm).2 f.size⟩⟩
  · rw [mkY_len] at hm
    exact List.mem_append_right _ (List.mem_append_left _ hm)
  · rw [mkY_len] at hi
    rw [mkY_wbk _ _ _ _ hi] at hm
    exact List.mem_append_right _ (List.mem_append_right _ (wbks_mem hi hm))
theorem VcM7.fr {B : Nat} {u u' : World} {k : Int} {M : List Int} {X : List La} {aM aL : Option Addr} (h : VcM7 B u k M X aM aL) (f : Fr u u') : VcM7 B u' k M X aM aL := h.but (L := []) (But.of f) (fun _ _ => by simp)
set_option maxRecDepth 8000 in
set_option maxHeartbeats 4000000 in
theorem laws_markChc (B : Nat) (M : List Int) (X : List La) (aM aL : Option Addr) (cM cL : Nat) (k : Int) (u : World) (h : VcH7 B u M X aM aL) (hB : B ≤ u.heap.size) (hn : FewT M X) (k0 : 1 ≤ k) (k1 : k ≤ 1000) :
    Calls Try.prog 25 #[caV aM aL M X cM cL, .int .i64 k] u fun e u' => e = .returned (.int .i64 (k + M.length + 3 * X.length + sumW X X.length)) ∧ VcM7 B u' k M X aM aL ∧ But (kbl M X aM aL) u u' := by
  have F0 : Fr u (u.alloc (.cells #[.slice aM M.length cM, .slice aL X.length cL] 30)) := Fr.alloc _ _
  have HF := Lib.hid F0
  have X0 := Lib.hid (Box2.new u (.slice aM M.length cM) (.slice aL X.length cL) 30 _ rfl)
  have V0 := Lib.hid (h.fr F0)
  have HBl := Lib.hid h.bl
  have hs0 : B ≤ (u.alloc (.cells #[.slice aM M.length cM, .slice aL X.length cL] 30)).heap.size := Nat.le_trans hB F0.size
  have ht := hn.T
  have hM : M.length ≤ 1048576 := by omega
  have hX : X.length ≤ 1048576 := by omega
  have hW : sumW X X.length ≤ 1048576 := by omega
  have HW := Lib.hid hW
  clear F0 h hn ht hW
  unfold caV
  go_enter Try.func25, Try.ntmps25
  go_upto_region 1 with fail
  generalize (u.alloc (.cells #[.slice aM M.length cM, .slice aL X.length cL] 30)) = u0 at *
  obtain ⟨_, c0, c1, _, _⟩ := X0.out
  go_wp2_with fail
  refine (laws_markInts5 B u0 M aM cM k V0.out.rM hs0 hM k0 (by omega)).mono ?_
  rintro e u1 ⟨rfl, hV1, hb1⟩
  have V1 := Lib.hid hV1
  have B1 := Lib.hid hb1
  have hs1 := hb1.size
  have X1 := Lib.hid (X0.out.but hb1 (fun hm => by have := (HBl.out _ (List.mem_append_left _ hm)).2; omega))
  have W1 := Lib.hid (V0.out.w.but hb1 (fun i hi m hm hx => (V0.out.pM m hx).2 i hi hm))
  have L1 := Lib.hid (show 0 < X.length → ∃ g, aL = some ⟨g, 0, none⟩ ∧ B ≤ g ∧ RoL u1 g X from fun h0 => by
    obtain ⟨g, e, hB, r⟩ := V0.out.rL h0
    exact ⟨g, e, hB, r.but hb1 (fun hx => (V0.out.pM g hx).1 (by rw [e]; exact bkS_mem (b := ⟨g, 0, none⟩) h0))⟩)
  clear hV1 hb1 X0 c0 c1
  obtain ⟨_, x0, x1, _, _⟩ := X1.out
  by_cases h0 : 0 < X.length
  · obtain ⟨g, hg, hgB, hgr⟩ := L1.out h0
    have HO := Lib.hid (show OwL B u1 g X from ⟨hgB, hgr, W1.out, fun i hi hm => V0.out.pL g (by rw [hg]; exact bkS_mem (b := ⟨g, 0, none⟩) h0) i hi hm⟩)
    have HG := Lib.hid hg
    have HG0 := Lib.hid (show g ∈ bkS X.length aL by rw [hg]; exact bkS_mem (b := ⟨g, 0, none⟩) h0)
    rw [hg] at x1
    clear hg hgr L1
    go_wp2_with fail
    refine (laws_markLines1 B X g cL (k + M.length) u1 HO.out (by omega) hX HW.out (by omega) (by omega)).mono ?_
    rintro e u2 ⟨rfl, hO2, hb2⟩
    have O2 := Lib.hid hO2
    have B2 := Lib.hid hb2
    have hs2 := hb2.size
    have hs3 := HF.out.size
    clear hO2 hb2 x0 x1
    go_wp2
    go_ret
    refine ⟨rfl, ⟨V1.out.but' B2.out (fun m hm hx => ?_), by rw [HG.out]; exact O2.out.src, fun m hm => ⟨(HBl.out m hm).1, by have := (HBl.out m hm).2; omega⟩⟩, ?_⟩
    · rcases List.mem_cons.1 hx with e | hx
      · exact (V0.out.pM m hm).1 (by rw [e]; exact HG0.out)
      · obtain ⟨i, hi, hx⟩ := mem_wbks hx
        exact (V0.out.pM m hm).2 i hi hx
    · refine ((But.wide (L := []) (But.of HF.out) (fun _ h => by cases h)).trans (B1.out.wide (fun m hm => List.mem_append_left _ hm))).trans (B2.out.wide (fun m hm => ?_))
      rcases List.mem_cons.1 hm with e | hm
      · exact List.mem_append_right _ (List.mem_append_left _ (by rw [e]; exact HG0.out))
      · exact List.mem_append_right _ (List.mem_append_right _ hm)
  · have hz : X.length = 0 := by omega
    have HZ := Lib.hid hz
    have hs3 := HF.out.size
    rw [hz] at x1
    clear h0 hz
    go_wp2_with fail
    refine (laws_markLines0 u1 aL cL (k + M.length)).mono ?_
    rintro e u2 ⟨rfl, rfl⟩
    go_wp2
    go_ret
    refine ⟨?_, ⟨V1.out, ⟨fun h => absurd h (by rw [mkY_len, HZ.out]; decide), fun i hi => absurd hi (by rw [mkY_len, HZ.out]; omega)⟩, fun m hm => ⟨(HBl.out m hm).1, by have := (HBl.out m hm).2; omega⟩⟩, ?_⟩
    · rw [HZ.out]
      exact ret_int (by simp [sumW])
    · exact (But.wide (L := []) (But.of HF.out) (fun _ h => by cases h)).trans (B1.out.wide (fun m hm => List.mem_append_left _ hm))
set_option maxRecDepth 8000 in
set_option maxHeartbeats 4000000 in
theorem laws_heldChc (B : Nat) (M : List Int) (X : List La) (aM aL : Option Addr) (cM cL : Nat) (k : Int) (u : World) (h : VcM7 B u k M X aM aL) (hn : FewT M X) (k0 : 1 ≤ k) (k1 : k ≤ 1000) :
    Calls Try.prog 26 #[caV aM aL M X cM cL, .int .i64 k] u fun e u' => e = .returned (.int .i64 (k + M.length + 3 * X.length + sumW X X.length)) ∧ Fr u u' := by
  have F0 : Fr u (u.alloc (.cells #[.slice aM M.length cM, .slice aL X.length cL] 30)) := Fr.alloc _ _
  have HF := Lib.hid F0
  have X0 := Lib.hid (Box2.new u (.slice aM M.length cM) (.slice aL X.length cL) 30 _ rfl)
  have V0 := Lib.hid (h.fr F0)
  have ht := hn.T
  have hM : M.length ≤ 1048576 := by omega
  have hX : X.length ≤ 1048576 := by omega
  have hW : sumW X X.length ≤ 1048576 := by omega
  have HW := Lib.hid hW
  clear F0 h hn hW
  unfold caV
  go_enter Try.func26, Try.ntmps26
  go_upto_region 1 with fail
  generalize (u.alloc (.cells #[.slice aM M.length cM, .slice aL X.length cL] 30)) = u0 at *
  obtain ⟨_, c0, c1, _, _⟩ := X0.out
  go_wp2_with fail
  refine (laws_heldIntSo u0 M.length aM cM k V0.out.rM.src hM k0 (by omega)).mono ?_
  rintro e u1 ⟨rfl, f1⟩
  have F1 := Lib.hid f1
  obtain ⟨_, x0, x1, _, _⟩ := X0.out.fr f1
  have n1 : ¬ k + (M.length : Int) < 0 := by omega
  clear f1 c0 c1
  go_wp2_with fail
  refine (laws_heldLines X aL cL (k + M.length) u1 (V0.out.rL.fr F1.out) hX HW.out (by omega) (by omega)).mono ?_
  rintro e u2 ⟨rfl, f2⟩
  have F2 := Lib.hid f2
  have n2 : ¬ k + (M.length : Int) + 3 * (X.length : Int) + (sumW X X.length : Int) < 0 := by omega
  clear f2 x0 x1
  go_wp2
  go_ret
  exact ⟨rfl, Fr.trans (Fr.trans HF.out F1.out) F2.out⟩

open Go.ChangeShapes Go.WideShapes Go.ChangeAt Go.RowKit
set_option maxRecDepth 100000 in
theorem row_open_cap {H : Type} {enc : TypeId × Value → H} {w : World} {base : Nat} {spare : Nat → Bool} {held : Bool} {fuel : Nat} {c : Value} {x : DataW H × List MemPlace} (h : DataW.trod enc Try.prog w base spare held fuel 22 [c] = some x) :
    ∃ (ao : Option Addr) (cap : Nat) (xs : List Int), c = .slice ao xs.length cap ∧ Src w xs.length (ivl xs) ao ∧ xs.length ≤ 9223372036854775807 ∧ xs.length ≤ cap := by
  rcases open_ints Try.underlying22 Try.underlying3 (by kernel_rfl) h with ⟨hcs, _⟩ | ⟨a, l, cp, zs, hcs, _, hl, hm, hz, _, hcell, hwz⟩
  · injection hcs with hcs
    subst hcs
    exact ⟨none, 0, [], rfl, fun h => by simp at h, by simp, by simp⟩
  · injection hcs with hcs
    subst hcs
    have hzl : l ≤ zs.length := by rw [hz]; split <;> omega
    have hlen : (zs.take l).length = l := by simp; omega
    have hmx : maxLen = 9223372036854775807 := rfl
    refine ⟨some a, cp, zs.take l, by rw [hlen], ?_, by omega, by omega⟩
    refine src_of_row fun i hi => ?_
    rw [hlen] at hi
    rw [hcell i (by omega)]
    simp only [ivl, List.getD_eq_getElem?_getD, List.getElem?_take_of_lt hi]
set_option maxRecDepth 100000 in
theorem lines_open {H : Type} {enc : TypeId × Value → H} {w : World} {base : Nat} {spare : Nat → Bool} {held : Bool} {fuel : Nat} {c : Value} {x : DataW H × List MemPlace} (h : DataW.trod enc Try.prog w base spare held fuel 23 [c] = some x) :
    ∃ (ao : Option Addr) (cap : Nat) (X : List La), c = .slice ao X.length cap ∧ SrcL w X ao ∧ X.length ≤ 9223372036854775807 ∧ ∀ i, i < X.length → (X.getD i la0).n.W.length ≤ 9223372036854775807 := by
  have ce : Try.prog.cellsOf 93 = 4 := by kernel_rfl
  have cI : Try.prog.cellsOf 3 = 1 := by kernel_rfl
  have cB : Try.prog.cellsOf 4 = 1 := by kernel_rfl
  have cS : Try.prog.cellsOf 22 = 1 := by kernel_rfl
  rcases Go.Deep.open_slice Try.underlying23 h with ⟨hcs, _⟩ | ⟨a, len, cap, m, n, D, Pl, hcs, hb, hl, hm, hmm, _, hx⟩
  · injection hcs with hcs
    subst hcs
    exact ⟨none, 0, [], rfl, ⟨fun h => by simp at h, fun i hi => by simp at hi⟩, by simp, fun i hi => by simp at hi⟩
  · injection hcs with hcs
    subst hcs
    have hlm : len ≤ m := by rw [hmm]; split <;> omega
    have each : ∀ i, i < len → ∃ y : La, (w.cell? (a.add (i * 4)) = some (.bool y.n.u) ∧ w.cell? (a.add (i * 4 + 1)) = some (.int .i64 y.n.p) ∧ w.cell? (a.add (i * 4 + 2)) = some (.bool y.n.d) ∧ w.cell? (a.add (i * 4 + 3)) = some (.slice y.a y.n.W.length y.c)) ∧ WSrc w y ∧ y.n.W.length ≤ 9223372036854775807 := by
      intro i hi
      obtain ⟨cs', h1, h2⟩ := hx i (by omega)
      rw [ce] at h1
      obtain ⟨_, hlen, hcell⟩ := World.cells?_some h1
      obtain ⟨xs, k, hk, hxy, _, hxl, hf⟩ := DataW.trod_struct Try.underlying93 h2
      match xs, hxl, cs', hlen with
      | [y0, y1, y2, y3], _, [v0, v1, v2, v3], _ =>
        have g0 := hf 0 _ rfl
        have g1 := hf 1 _ rfl
        have g2 := hf 2 _ rfl
        have g3 := hf 3 _ rfl
        simp only [cI, cB, cS, List.drop_zero, List.take_succ_cons, List.take_zero, List.drop_succ_cons, List.getElem?_cons_zero, List.getElem?_cons_succ] at g0 g1 g2 g3
        obtain ⟨z0, e0, _⟩ := DataW.trod_bool Try.underlying4 g0
        obtain ⟨z1, e1, _, _⟩ := DataW.trod_int Try.underlying3 g1
        obtain ⟨z2, e2, _⟩ := DataW.trod_bool Try.underlying4 g2
        obtain ⟨aW, kW, W, e3, sW, lW⟩ := row_open g3
        injection e0 with e0
        injection e1 with e1
        injection e2 with e2
        subst e0 e1 e2 e3
        have q0 := hcell 0 (by omega)
        have q1 := hcell 1 (by omega)
        have q2 := hcell 2 (by omega)
        have q3 := hcell 3 (by omega)
        rw [Go.Deep.add_add] at q0 q1 q2 q3
        exact ⟨⟨⟨z0, z1, z2, W⟩, aW, kW⟩, ⟨by simpa using q0, by simpa using q1, by simpa using q2, by simpa using q3⟩, sW, lW⟩
    have : Inhabited La := ⟨la0⟩
    obtain ⟨q, hq⟩ := Go.Deep.choose_lt each
    have hmx : maxLen = 9223372036854775807 := rfl
    have hgq : ∀ i, i < len → ((List.range len).map q).getD i la0 = q i := fun i hi => by simp [List.getD_eq_getElem?_getD, hi]
    refine ⟨some a, cap, (List.range len).map q, by simp, ⟨fun h0 => ?_, fun i hi => ?_⟩, by simp; omega, fun i hi => ?_⟩
    · have hl0 : 0 < len := by simpa using h0
      obtain ⟨b, off, spot⟩ := a
      have hc0 := (hq 0 hl0).1.1
      have hspot : spot = none := by simpa [Addr.add] using World.cell?_spot hc0
      subst hspot
      refine ⟨b, off, rfl, lt_of_cell (a := ⟨b, off, none⟩) (by simpa [Addr.add] using hc0), fun j v hv => ?_⟩
      have hj : j < 4 * len := by
        have := (List.getElem?_eq_some_iff.1 hv).1
        rw [clL_len] at this
        simpa using this
      obtain ⟨i, r, rfl, hr⟩ : ∃ i r, j = 4 * i + r ∧ r < 4 := ⟨j / 4, j % 4, by omega, by omega⟩
      have hi : i < len := by omega
      have hc := clL_at ((List.range len).map q) i (by simpa using hi)
      rw [hgq i hi] at hc
      have ha : ∀ j, (⟨b, off, none⟩ : Addr).add j = ⟨b, off + j, none⟩ := fun j => Addr.add_mid b off j
      have hqi := (hq i hi).1
      rw [ha, ha, ha, ha] at hqi
      rw [show off + (4 * i + r) = off + (i * 4 + r) by omega]
      rcases r with _ | _ | _ | _ | r
      · rw [Nat.add_zero, hc.1] at hv; cases hv; exact hqi.1
      · rw [hc.2.1] at hv; cases hv; exact hqi.2.1
      · rw [hc.2.2.1] at hv; cases hv; exact hqi.2.2.1
      · rw [hc.2.2.2] at hv; cases hv; exact hqi.2.2.2
      · omega
    · have hi' : i < len := by simpa using hi
      rw [hgq i hi']
      exact (hq i hi').2.1
    · have hi' : i < len := by simpa using hi
      rw [hgq i hi']
      exact (hq i hi').2.2
set_option maxRecDepth 100000 in
theorem open_chc {H : Type} {enc : TypeId × Value → H} {w : World} {r : Reach} {b0 base : Nat} {spare : Nat → Bool} {held : Bool} {v : Value} {d : DataW H} {p : List MemPlace}
    (hv : Value.okWide Try.prog w r b0 25 v) (h : DataW.Trod enc Try.prog w base spare held 25 v d p) :
    ∃ (M : List Int) (X : List La) (aM aL : Option Addr) (cM cL : Nat), v = caV aM aL M X cM cL ∧ SrcC w M X aM aL ∧ BigC M X ∧ M.length ≤ cM := by
  have cT : Try.prog.cellsOf 23 = 1 := by kernel_rfl
  have cS : Try.prog.cellsOf 22 = 1 := by kernel_rfl
  have hc : Try.prog.cellsOf 25 = 2 := by kernel_rfl
  obtain ⟨cs, rfl, hsz⟩ := okWide_struct Try.underlying25 hv
  obtain ⟨c0, c1, rfl⟩ := array2 (hsz.trans hc)
  obtain ⟨fuel, hf⟩ := h
  obtain ⟨xs, n, _, _, hl, hlen, hfl⟩ := DataW.trod_struct Try.underlying25 hf
  match xs, hlen with
  | [y0, y1], _ =>
    have g0 := hfl 0 _ rfl
    have g1 := hfl 1 _ rfl
    simp only [cT, cS, Value.cells, List.drop_zero, List.take_succ_cons, List.take_zero, List.drop_succ_cons, List.getElem?_cons_zero, List.getElem?_cons_succ] at g0 g1
    obtain ⟨aM, kM, M, rfl, sM, lM, lcM⟩ := row_open_cap g0
    obtain ⟨aL, kL, X, rfl, sL, lL, lW⟩ := lines_open g1
    exact ⟨M, X, aM, aL, kM, kL, rfl, ⟨sM, sL⟩, ⟨lM, lL, lW⟩, lcM⟩

/-- An answer: a cache that is ok, or none. -/
def OkA (c : Ch) : Prop := OkC c ∨ c = ch0
theorem okA_few {c : Ch} (h : OkA c) {M : List Int} {X : List La} (e : c = ⟨M, lns X⟩) : FewT M X := by
  rcases h with h | h
  · subst e
    have hl : X.length = 4 := by have := h.Ll; simpa using this
    have hW : ∀ i, i < 4 → (X.getD i la0).n.W.length ≤ 4 := fun i hi => by
      have := okLns_at h.L i (by rw [h.Ll]; exact hi)
      rw [show (Ch.mk M (lns X)).L = lns X from rfl, lns_get] at this
      exact okLn_W this
    have h0 := hW 0 (by omega)
    have h1 := hW 1 (by omega)
    have h2 := hW 2 (by omega)
    have h3 := hW 3 (by omega)
    have hM : M.length = 256 := h.Ml
    refine ⟨?_⟩
    rw [hl, hM]
    simp only [sumW]
    omega
  · rw [h] at e
    injection e with e1 e2
    have hX : X = [] := by simpa [lns] using e2.symm
    subst e1 hX
    exact ⟨by simp [sumW]⟩
theorem okA_read (c : Ch) (a : Int) : OkA (readA c a) := by
  unfold readA
  split
  · rename_i h
    simp only [Bool.and_eq_true] at h
    exact .inl (bringC_ok ((okC_iff c).1 h.1) h.2)
  · exact .inr rfl
theorem okA_write (c : Ch) (a n : Int) : OkA (writeA c a n) := by
  unfold writeA
  split
  · rename_i h
    simp only [Bool.and_eq_true] at h
    exact .inl (writeC_ok ((okC_iff c).1 h.1.1) h.1.2 h.2)
  · exact .inr rfl
theorem okA_lay (c : Ch) (a n : Int) : OkA (layA c a n) := by
  unfold layA
  split
  · rename_i h
    simp only [Bool.and_eq_true] at h
    exact .inl (layC_ok ((okC_iff c).1 h.1.1) h.1.2 h.2)
  · exact .inr rfl
theorem newOk {M : List Int} (h : wordsB M 256 = true) : OkC ⟨M, lns newL⟩ := by
  obtain ⟨h1, h2⟩ := wordsB_true h
  refine ⟨h1, h2, rfl, okLns_of (p := 4) (fun i hi => ?_) (Nat.le_refl 4)⟩
  rcases i with _ | _ | _ | _ | i
  · exact ln0_ok _ _
  · exact ln0_ok _ _
  · exact ln0_ok _ _
  · exact ln0_ok _ _
  · omega
theorem okA_new (M : List Int) : OkA (newC7 M) := by
  unfold newC7
  split
  · rename_i h
    exact .inl (newOk h)
  · exact .inr rfl
theorem VcH7.apart {B : Nat} {L : List Nat} {u u' : World} {M : List Int} {X : List La} {aM aL : Option Addr} (h : VcH7 B u M X aM aL) (f : But L u u') (hn : ∀ m, m ∈ kbl M X aM aL → m ∉ L) : VcH7 B u' M X aM aL := by
  refine ⟨h.rM.but' f (fun k hk => hn k (List.mem_append_left _ hk)), fun h0 => ?_, h.w.but f (fun i hi k hk => hn k (List.mem_append_right _ (List.mem_append_right _ (wbks_mem hi hk)))), h.pL, h.pM⟩
  obtain ⟨g, e, hb, r⟩ := h.rL h0
  exact ⟨g, e, hb, r.but f (hn g (List.mem_append_right _ (List.mem_append_left _ (by rw [e]; exact bkS_mem (b := ⟨g, 0, none⟩) h0))))⟩
theorem ch_inj {M M' : List Int} {X X' : List La} {c : Ch} (h : c = ⟨M, lns X⟩) (h' : c = ⟨M', lns X'⟩) : M = M' ∧ lns X = lns X' := by
  rw [h] at h'
  injection h' with h1 h2
  exact ⟨h1, h2⟩
theorem few_lns {M : List Int} {X X' : List La} (h : FewT M X) (e : lns X = lns X') : FewT M X' := by
  have hl : X'.length = X.length := by have e1 := congrArg List.length e; simpa [lns] using e1.symm
  have hs : ∀ n, sumW X' n = sumW X n := fun n => by
    induction n with
    | zero => rfl
    | succ n ih => simp only [sumW]; rw [ih, ← lns_get X', ← lns_get X, e]
  exact ⟨by rw [hl, hs]; exact h.T⟩

end Go.Proofs.Ytoacgjjpipdkjaa
