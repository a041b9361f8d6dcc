/- Cells of a block, and what the calls of a law about one instruction leave behind, as the laws' texts use them. -/
import Derived.Test.YtbjapncfgancoaaDoorPe2
import Derived.Test.YtbjapncfgancoaaDoorPl7
import Derived.Test.YtbjapncfgancoaaDoorPl6
namespace Go.Proofs.YtbjapncfgancoaaDoor
open Go.RowKit
set_option linter.unusedVariables false
set_option linter.unusedSimpArgs false
/-- Values lie in block g, and may be written. -/
structure Cel (u : World) (g : Nat) (vs : List Value) : Prop where
  lt : g < u.heap.size
  cel : ∀ i, i < vs.length → u.cell? ⟨g, i, none⟩ = some (vs.getD i undef)
  fro : ∀ i, i < vs.length → u.frozen? ⟨g, i, none⟩ = false
theorem Cel.but {L : List Nat} {u u' : World} {g : Nat} {vs : List Value} (h : Cel u g vs) (f : But L u u') (hn : g ∉ L) : Cel u' g vs :=
  ⟨Nat.lt_of_lt_of_le h.lt f.size, fun i hi => by rw [f.cell h.lt hn]; exact h.cel i hi, fun i hi => by rw [f.frozen h.lt hn]; exact h.fro i hi⟩
theorem Cel.fr {u u' : World} {g : Nat} {vs : List Value} (h : Cel u g vs) (f : Fr u u') : Cel u' g vs := h.but (L := []) (But.of f) (by simp)
theorem Cel.other {u : World} {g : Nat} {vs : List Value} (h : Cel u g vs) (Z j : Nat) (v : Value) (hz : ¬ Z = g) : Cel (u.setCell ⟨Z, j, none⟩ v) g vs :=
  h.but (L := [Z]) ((But.refl _ _).set Z j v (.inl (by simp))) (by simp; try omega)
theorem Cel.alloc {u : World} {g : Nat} {vs : List Value} (h : Cel u g vs) (o : Obj) : Cel (u.alloc o) g vs := h.fr (Fr.alloc _ _)
theorem Cel.drew {u : World} {g : Nat} {vs : List Value} (h : Cel u g vs) : Cel u.drew g vs := ⟨h.lt, h.cel, h.fro⟩
theorem Cel.drewN {u : World} {g : Nat} {vs : List Value} (h : Cel u g vs) (n : Nat) : Cel (u.drewN n) g vs := h.but (L := []) ((But.refl _ _).drewN n) (by simp)
theorem Cel.set {u : World} {g : Nat} {vs : List Value} (h : Cel u g vs) (i : Nat) (v : Value) (hi : i < vs.length) : Cel (u.setCell ⟨g, i, none⟩ v) g (vs.set i v) := by
  refine ⟨by have := h.lt; simpa [World.setCell] using this, fun j hj => ?_, fun j hj => by rw [World.frozen?_setCell]; exact h.fro j (by simpa using hj)⟩
  rw [List.length_set] at hj
  by_cases e : i = j
  · subst e
    rw [World.cell?_setCell_same _ _ _ (h.cel i hi)]
    simp [List.getD_eq_getElem?_getD, hi]
  · rw [World.cell?_setCell_other _ _ _ _ (by simp; try omega), h.cel j hj]
    simp [List.getD_eq_getElem?_getD, List.getElem?_set_ne e]
theorem Cel.new (w : World) (vs : List Value) (t : TypeId) (g : Nat) (hg : w.heap.size = g) : Cel (w.alloc (.cells vs.toArray t)) g vs := by
  subst hg
  refine ⟨by simp, fun i hi => ?_, fun i hi => (alloc_at w _ t _ rfl i).2⟩
  rw [(alloc_at w _ t _ rfl i).1]
  simp [List.getD_eq_getElem?_getD, hi]
/-- One instruction, taken at place p of memory. -/
theorem see_step {s : St} {k d ra rb f n p : Int} (hi : iok k d ra rb f n = true) (hs : see s.C s.M s.pc false = p) (h0 : 0 ≤ p) (hm : s.M.getD p.toNat 0 = worD k d ra rb f n) :
    stepS s false = (effS s (hE s.pc (worD k d ra rb f n)) k d ra rb f n).fin s (hE s.pc (worD k d ra rb f n)) := by
  obtain ⟨hg, w0, w1, w2, w3, w4, w5⟩ := gd_word hi
  have ha : wAt s = worD k d ra rb f n := by unfold wAt mm; rw [hs]; exact hm
  have e1 : ev1 s = hE s.pc (worD k d ra rb f n) := by unfold ev1 hE; rw [ha]
  rw [step_exe (by simp) (by rw [hs]; exact h0) (by rw [ha]; exact hg), e1]
  unfold exeS
  rw [e1, ha, w0, w1, w2, w3, w4, w5]
theorem see_all {C M : List Int} {p : Int} {save : Bool} (hc : C.getD 3 0 % 2 = 0) (h1 : p < 256) : see C M p save = p := by
  unfold see
  rw [if_pos hc, if_pos h1]
theorem see_far {C M : List Int} {p : Int} {save : Bool} (hc : C.getD 3 0 % 2 = 0) (h1 : 256 ≤ p) : see C M p save = -1 := by
  unfold see
  rw [if_pos hc, if_neg (by omega)]
/-- One instruction of a machine that sees all. -/
theorem at_step {s : St} {k d ra rb f n : Int} (hi : iok k d ra rb f n = true) (h0 : 0 ≤ s.pc) (h1 : s.pc < 256) (hc : s.C.getD 3 0 % 2 = 0) (hm : s.M.getD s.pc.toNat 0 = worD k d ra rb f n) :
    stepS s false = (effS s (hE s.pc (worD k d ra rb f n)) k d ra rb f n).fin s (hE s.pc (worD k d ra rb f n)) := see_step hi (see_all hc h1) h0 hm
theorem step_okS {s s2 : St} {e2 : Ev} {ring : Bool} (h : OkS s) (hst : stepS s ring = (s2, e2)) : OkS s2 := by
  have := step_ok h ring
  rw [hst] at this
  exact this
theorem run_to {k d ra rb f n pc a b wd : Int} {s2 : St} {e2 : Ev} (hi : iok k d ra rb f n = true) (h0 : 0 ≤ pc) (h1 : pc < 256) (ha : okB a = true) (hb : okB b = true) (hwd : worD k d ra rb f n = wd) (hst : stepS (hS pc wd a b) false = (s2, e2)) (w : World) (ht : Tabs w) :
    Calls Tryd.prog 33 #[.agg #[.int .i64 k, .int .i64 d, .int .i64 ra, .int .i64 rb, .int .i64 f, .int .i64 n], .int .i64 pc, .int .i64 a, .int .i64 b] w fun e w' =>
      ∃ (g1 g2 g3 gr gc gm x1 x2 x3 xr xc xm X0 : Nat), e = .returned (.tuple #[.agg #[.int .i64 pc, .slice (some ⟨g1, 0, none⟩) 8 gr, .slice (some ⟨g2, 0, none⟩) 5 gc, .slice (some ⟨g3, 0, none⟩) 256 gm], .agg #[.int .i64 s2.pc, .slice (some ⟨x1, 0, none⟩) 8 xr, .slice (some ⟨x2, 0, none⟩) 5 xc, .slice (some ⟨x3, 0, none⟩) 256 xm], .agg #[.int .i64 (e2).pc, .int .i64 (e2).w, .int .i64 (e2).why, .int .i64 (e2).d, .int .i64 (e2).v, .int .i64 (e2).ad, .int .i64 (e2).dt]]) ∧ Own w' g1 g2 g3 (hS pc wd a b) ∧ Own w' x1 x2 x3 s2 ∧ (w.heap.size ≤ g1 ∧ w.heap.size ≤ g2 ∧ w.heap.size ≤ g3 ∧ g1 < X0 ∧ g2 < X0 ∧ g3 < X0 ∧ X0 ≤ x1 ∧ X0 ≤ x2 ∧ X0 ≤ x3) ∧ Fr w w' := by
  refine (laws_haRun k d ra rb f n pc a b hi h0 h1 ha hb w ht).mono ?_
  rintro e u hq
  unfold RunQ at hq
  rw [hwd, hst] at hq
  exact hq
theorem step_to {s s2 : St} {e2 : Ev} {ring : Bool} {u : World} {g1 g2 g3 r c m : Nat} {p : Int} (h : Own u g1 g2 g3 s) (hk : OkS s) (hp : s.pc = p) (ht : Tabs u) (hst : stepS s ring = (s2, e2)) :
    Calls Tryd.prog 22 #[.agg #[.int .i64 p, .slice (some ⟨g1, 0, none⟩) 8 r, .slice (some ⟨g2, 0, none⟩) 5 c, .slice (some ⟨g3, 0, none⟩) 256 m], .bool ring] u fun e w' =>
      ∃ gr gc gm cr cc cm, e = .returned (.tuple #[.agg #[.int .i64 s2.pc, .slice (some ⟨gr, 0, none⟩) 8 cr, .slice (some ⟨gc, 0, none⟩) 5 cc, .slice (some ⟨gm, 0, none⟩) 256 cm], .agg #[.int .i64 (e2).pc, .int .i64 (e2).w, .int .i64 (e2).why, .int .i64 (e2).d, .int .i64 (e2).v, .int .i64 (e2).ad, .int .i64 (e2).dt]]) ∧ Own w' gr gc gm s2 ∧ u.heap.size ≤ gr ∧ u.heap.size ≤ gc ∧ u.heap.size ≤ gm ∧ Fr u w' := by
  subst hp
  have E := impl_PlnStep s (some ⟨g1, 0, none⟩) (some ⟨g2, 0, none⟩) (some ⟨g3, 0, none⟩) r c m ring u h.src hk ht
  rw [hk.Rl, hk.Cl, hk.Ml] at E
  refine E.mono ?_
  rintro e w' hq
  unfold PstP at hq
  rw [hst] at hq
  exact hq
theorem lay_to {s : St} {u : World} {g1 g2 g3 r c m : Nat} {p a n : Int} (h : Own u g1 g2 g3 s) (hk : OkS s) (hp : s.pc = p) (a0 : 0 ≤ a) (a1 : a < 256) (hn : okB n = true) :
    Calls Tryd.prog 39 #[.agg #[.int .i64 p, .slice (some ⟨g1, 0, none⟩) 8 r, .slice (some ⟨g2, 0, none⟩) 5 c, .slice (some ⟨g3, 0, none⟩) 256 m], .int .i64 a, .int .i64 n] u fun e w' =>
      ∃ gr gc gm cr cc cm, e = .returned (.agg #[.int .i64 p, .slice (some ⟨gr, 0, none⟩) 8 cr, .slice (some ⟨gc, 0, none⟩) 5 cc, .slice (some ⟨gm, 0, none⟩) 256 cm]) ∧ Own w' gr gc gm ⟨p, s.R, s.C, s.M.set a.toNat n⟩ ∧ u.heap.size ≤ gr ∧ u.heap.size ≤ gc ∧ u.heap.size ≤ gm ∧ Fr u w' := by
  subst hp
  have E := impl_PlnLay s (some ⟨g1, 0, none⟩) (some ⟨g2, 0, none⟩) (some ⟨g3, 0, none⟩) r c m a n u h.src (ok_few20 hk).few
  rw [hk.Rl, hk.Cl, hk.Ml] at E
  refine E.mono ?_
  have hB : layB s a n = true := by
    unfold layB
    rw [(okS_iff s).2 hk, hn]
    simp [a0, a1]
  rintro e w' (⟨_, hq⟩ | ⟨hq, _⟩)
  · exact hq
  · rw [hB] at hq; cases hq
theorem lay_okS {s : St} {a n : Int} (hk : OkS s) (a0 : 0 ≤ a) (a1 : a < 256) (hn : okB n = true) : OkS ⟨s.pc, s.R, s.C, s.M.set a.toNat n⟩ :=
  lay_ok (s := s) (by unfold layB; rw [(okS_iff s).2 hk, hn]; simp [a0, a1])
theorem worD_ok {k d ra rb f n wd : Int} (hi : iok k d ra rb f n = true) (hwd : worD k d ra rb f n = wd) : okB wd = true := by
  rw [← hwd]
  exact okB_mk (worD_bd hi).1 (worD_bd hi).2
/-- A box in which no number stands second is none of a machine's rows. -/
theorem apart_ro {u : World} {z g : Nat} {vs : List Value} {xs : List Int} (h : Cel u z vs) (r : Ro u g xs) (h1 : 1 < vs.length) (hv : ∀ i, vs.getD 1 undef ≠ .int .i64 i) (h2 : 1 < xs.length) : z ≠ g := by
  rintro rfl
  have a := h.cel 1 h1
  have b := r.cel 1 h2
  rw [a] at b
  exact hv _ (Option.some.inj b)
theorem apart_own {u : World} {z g1 g2 g3 : Nat} {a c d : Value} {s : St} (h : Cel u z [a, .slice none 0 0, c, d]) (o : Own u g1 g2 g3 s) (hk : OkS s) : z ≠ g1 ∧ z ≠ g2 ∧ z ≠ g3 :=
  ⟨apart_ro h o.R (by simp) (fun i => by simp) (by rw [hk.Rl]; decide), apart_ro h o.C (by simp) (fun i => by simp) (by rw [hk.Cl]; decide), apart_ro h o.M (by simp) (fun i => by simp) (by rw [hk.Ml]; decide)⟩
/-- A machine that sees all, at a word of its memory. -/
structure Sup (s : St) (wd : Int) : Prop where
  p0 : 0 ≤ s.pc
  p1 : s.pc < 256
  c : s.C.getD 3 0 % 2 = 0
  m : s.M.getD s.pc.toNat 0 = wd
theorem hS_sup {pc wd a b : Int} (h0 : 0 ≤ pc) (h1 : pc < 256) : Sup (hS pc wd a b) wd := by
  refine ⟨h0, h1, ?_, ?_⟩
  · show (zeros 5).getD 3 0 % 2 = 0
    rw [zeros_get]
    rfl
  · show ((zeros 256).set pc.toNat wd).getD pc.toNat 0 = wd
    rw [getD_set, if_pos ⟨rfl, by rw [zeros_len]; omega⟩]
theorem Sup.usr {s : St} {wd : Int} (h : Sup s wd) : usr s.C = false := usr_f h.c
theorem sup_eff {s : St} {wd k d ra rb f n : Int} (h : Sup s wd) (hi : iok k d ra rb f n = true) (hwd : worD k d ra rb f n = wd) : stepS s false = (effS s (hE s.pc wd) k d ra rb f n).fin s (hE s.pc wd) := by
  have e := at_step hi h.p0 h.p1 h.c (by rw [hwd]; exact h.m)
  rw [hwd] at e
  exact e
theorem sup_load {s : St} {wd d ra rb f n q v : Int} (h : Sup s wd) (hi : iok 3 d ra rb f n = true) (hwd : worD 3 d ra rb f n = wd) (hq : (rg s ra + n) % 65536 = q) (q0 : 0 ≤ q) (q1 : q < 256) (hv : s.M.getD q.toNat 0 = v) :
    stepS s false = (⟨nx s, putR s.R d v, s.C, s.M⟩, putE (hE s.pc wd) d v) := by
  rw [sup_eff h hi hwd, eff_3, hq, see_all h.c q1, if_neg (by omega)]
  unfold mm
  rw [hv]
  rfl
theorem sup_load_far {s : St} {wd d ra rb f n q : Int} (h : Sup s wd) (hi : iok 3 d ra rb f n = true) (hwd : worD 3 d ra rb f n = wd) (hq : (rg s ra + n) % 65536 = q) (q1 : 256 ≤ q) :
    stepS s false = (stopS s 3, ⟨s.pc, wd, 3, 0, 0, -1, 0⟩) := by
  rw [sup_eff h hi hwd, eff_3, hq, see_far h.c q1, if_pos (by omega)]
  rfl
theorem sup_save {s : St} {wd d ra rb f n q : Int} (h : Sup s wd) (hi : iok 4 d ra rb f n = true) (hwd : worD 4 d ra rb f n = wd) (hq : (rg s ra + n) % 65536 = q) (q0 : 0 ≤ q) (q1 : q < 256) :
    stepS s false = (⟨nx s, s.R, s.C, s.M.set q.toNat (rg s rb)⟩, ⟨s.pc, wd, 0, 0, 0, q, rg s rb⟩) := by
  rw [sup_eff h hi hwd, eff_4, hq, see_all h.c q1, if_neg (by omega)]
  rfl
theorem sup_save_far {s : St} {wd d ra rb f n q : Int} (h : Sup s wd) (hi : iok 4 d ra rb f n = true) (hwd : worD 4 d ra rb f n = wd) (hq : (rg s ra + n) % 65536 = q) (q1 : 256 ≤ q) :
    stepS s false = (stopS s 4, ⟨s.pc, wd, 4, 0, 0, -1, 0⟩) := by
  rw [sup_eff h hi hwd, eff_4, hq, see_far h.c q1, if_pos (by omega)]
  rfl
theorem sup_swap {s : St} {wd d ra rb f n v : Int} (h : Sup s wd) (hi : iok 10 d ra rb f n = true) (hwd : worD 10 d ra rb f n = wd) (q0 : 0 ≤ rg s ra) (q1 : rg s ra < 256) (hv : s.M.getD (rg s ra).toNat 0 = v) :
    stepS s false = (⟨nx s, putR s.R d v, s.C, s.M.set (rg s ra).toNat (rg s rb)⟩, putE ⟨s.pc, wd, 0, 0, 0, rg s ra, rg s rb⟩ d v) := by
  rw [sup_eff h hi hwd, eff_10, see_all h.c q1, if_neg (by omega)]
  unfold mm
  rw [hv]
  rfl
theorem sup_jump {s : St} {wd d ra rb f n : Int} (h : Sup s wd) (hi : iok 7 d ra rb f n = true) (hwd : worD 7 d ra rb f n = wd) :
    stepS s false = (⟨(nx s + n) % 65536, putR s.R d (nx s), s.C, s.M⟩, putE (hE s.pc wd) d (nx s)) := by
  rw [sup_eff h hi hwd, eff_7]
  rfl
theorem sup_call {s : St} {wd d ra rb f n : Int} (h : Sup s wd) (hi : iok 8 d ra rb f n = true) (hwd : worD 8 d ra rb f n = wd) :
    stepS s false = (⟨(rg s ra + n) % 65536, putR s.R d (nx s), s.C, s.M⟩, putE (hE s.pc wd) d (nx s)) := by
  rw [sup_eff h hi hwd, eff_8]
  rfl
theorem sup_sys {s : St} {wd d ra rb f n : Int} (h : Sup s wd) (hi : iok 12 d ra rb f n = true) (hwd : worD 12 d ra rb f n = wd) :
    stepS s false = (stopS s (5 + 16 * n), ⟨s.pc, wd, 5 + 16 * n, 0, 0, -1, 0⟩) := by
  rw [sup_eff h hi hwd, eff_12]
  rfl
theorem sup_back {s : St} {wd d ra rb f n : Int} (h : Sup s wd) (hi : iok 13 d ra rb f n = true) (hwd : worD 13 d ra rb f n = wd) :
    stepS s false = (⟨s.C.getD 0 0, s.R, s.C.set 3 (s.C.getD 3 0 / 2), s.M⟩, hE s.pc wd) := by
  rw [sup_eff h hi hwd, eff_13, h.usr]
  rfl
theorem sup_get {s : St} {wd d ra rb f n : Int} (h : Sup s wd) (hi : iok 14 d ra rb f n = true) (hwd : worD 14 d ra rb f n = wd) :
    stepS s false = (⟨nx s, putR s.R d (s.C.getD f.toNat 0), s.C, s.M⟩, putE (hE s.pc wd) d (s.C.getD f.toNat 0)) := by
  rw [sup_eff h hi hwd, eff_14, h.usr]
  rfl
theorem sup_set {s : St} {wd d ra rb f n : Int} (h : Sup s wd) (hi : iok 15 d ra rb f n = true) (hwd : worD 15 d ra rb f n = wd) :
    stepS s false = (⟨nx s, s.R, setF s f (rg s ra), s.M⟩, hE s.pc wd) := by
  rw [sup_eff h hi hwd, eff_15, h.usr]
  rfl

end Go.Proofs.YtbjapncfgancoaaDoor
