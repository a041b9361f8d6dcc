/- The model's NamNew. -/
import Derived.Test.YtddllgjieccikaaN19
import Derived.Test.YtddllgjieccikaaN13
import Derived.Test.YtddllgjieccikaaNbx
namespace Go.Proofs.Ytddllgjieccikaa
open Go.RowKit
set_option linter.unusedVariables false
set_option linter.unusedSimpArgs false
/-- Places that the model makes, row by row, in a box. -/
structure Nw (B : Nat) (u : World) (b : Nat) (M F : List Int) (H : List Bool) (aM aF : Option Addr) (cM cF g3 g4 : Nat) : Prop where
  rX : Box4 u b (.slice aM M.length cM) (.slice aF F.length cF) (.slice (some ⟨g3, 0, none⟩) 20 20) (.slice (some ⟨g4, 0, none⟩) 20 20)
  rM : Rc B u M aM cM
  rF : Rc B u F aF cF
  rV : Ro u g3 (List.replicate 20 (0 : Int))
  rH : RoB u g4 H
  b3 : B ≤ g3
  b4 : B ≤ g4
  bb : B ≤ b
  n34 : g3 ≠ g4
  nb3 : b ≠ g3
  nb4 : b ≠ g4
  kM : ∀ g, aM = some ⟨g, 0, none⟩ → 0 < M.length → g ≠ b ∧ g ≠ g3 ∧ g ≠ g4
  kF : ∀ g, aF = some ⟨g, 0, none⟩ → 0 < F.length → g ≠ b ∧ g ≠ g3 ∧ g ≠ g4
  mf : ∀ g g', aM = some ⟨g, 0, none⟩ → aF = some ⟨g', 0, none⟩ → 0 < M.length → 0 < F.length → g ≠ g'
theorem Nw.fr {B : Nat} {u u' : World} {b : Nat} {M F : List Int} {H : List Bool} {aM aF : Option Addr} {cM cF g3 g4 : Nat} (h : Nw B u b M F H aM aF cM cF g3 g4) (f : Fr u u') : Nw B u' b M F H aM aF cM cF g3 g4 :=
  ⟨h.rX.fr f, h.rM.fr f, h.rF.fr f, h.rV.fr f, h.rH.fr f, h.b3, h.b4, h.bb, h.n34, h.nb3, h.nb4, h.kM, h.kF, h.mf⟩
theorem rc_low {B : Nat} {u u' : World} {xs : List Int} {ao : Option Addr} {c : Nat} {L : List Nat} (h : Rc B u xs ao c) (f : But L u u') (hn : ∀ g, ao = some ⟨g, 0, none⟩ → 0 < xs.length → g ∉ L) : Rc B u' xs ao c := by
  rcases h with h | ⟨g, e, hB, r, k, h0⟩
  · exact .inl h
  · exact .inr ⟨g, e, hB, r.but f (hn g e h0), k.but f (hn g e h0), h0⟩
theorem Nw.setH {B : Nat} {u : World} {b : Nat} {M F : List Int} {H : List Bool} {aM aF : Option Addr} {cM cF g3 g4 : Nat} (h : Nw B u b M F H aM aF cM cF g3 g4) (p : Nat) (v : Bool) (hp : p < H.length) : Nw B (u.setCell ⟨g4, p, none⟩ (.bool v)) b M F (H.set p v) aM aF cM cF g3 g4 :=
  have hst : But [g4] u (u.setCell ⟨g4, p, none⟩ (.bool v)) := (But.refl _ _).set _ _ _ (.inl (by simp))
  ⟨h.rX.but hst (by simp; exact h.nb4), rc_low h.rM hst (fun g e h0 => by have := (h.kM g e h0).2.2; simpa using this), rc_low h.rF hst (fun g e h0 => by have := (h.kF g e h0).2.2; simpa using this), h.rV.but hst (by simp; exact h.n34), h.rH.set p v hp, h.b3, h.b4, h.bb, h.n34, h.nb3, h.nb4, h.kM, h.kF, h.mf⟩
theorem rc_lt {B : Nat} {u : World} {xs : List Int} {ao : Option Addr} {c : Nat} (h : Rc B u xs ao c) (g : Nat) (e : ao = some ⟨g, 0, none⟩) (h0 : 0 < xs.length) : g < u.heap.size := by
  rcases h with ⟨hz, _⟩ | ⟨g', e', _, r, _⟩
  · omega
  · rw [e] at e'
    cases e'
    exact r.lt
theorem Nw.appM {B : Nat} {u u' : World} {b : Nat} {M F : List Int} {H : List Bool} {aM aF : Option Addr} {cM cF g3 g4 : Nat} (h : Nw B u b M F H aM aF cM cF g3 g4) {v : Int} {g c : Nat} (r : Ro u' g (M ++ [v])) (k : Ca u' g (M ++ [v]).length c) (hB : B ≤ g) (hg : (0 < M.length ∧ aM = some ⟨g, 0, none⟩) ∨ u.heap.size ≤ g) (f : But (bkS M.length aM) u u') :
    Nw B (u'.setCell ⟨b, 0, none⟩ (.slice (some ⟨g, 0, none⟩) (M ++ [v]).length c)) b (M ++ [v]) F H (some ⟨g, 0, none⟩) aF c cF g3 g4 := by
  have nb : b ∉ bkS M.length aM := fun hm => by obtain ⟨q, e, h0, hh⟩ := rc_bk h.rM hm; exact (h.kM q e h0).1 hh.symm
  have n3 : g3 ∉ bkS M.length aM := fun hm => by obtain ⟨q, e, h0, hh⟩ := rc_bk h.rM hm; exact (h.kM q e h0).2.1 hh.symm
  have n4 : g4 ∉ bkS M.length aM := fun hm => by obtain ⟨q, e, h0, hh⟩ := rc_bk h.rM hm; exact (h.kM q e h0).2.2 hh.symm
  have lb := h.rX.lt
  have l3 := h.rV.lt
  have l4 := h.rH.lt
  have hgb : g ≠ b ∧ g ≠ g3 ∧ g ≠ g4 := by
    rcases hg with ⟨h0, e⟩ | hg
    · exact h.kM g e h0
    · omega
  have hst : But [b] u' (u'.setCell ⟨b, 0, none⟩ (.slice (some ⟨g, 0, none⟩) (M ++ [v]).length c)) := (But.refl _ _).set _ _ _ (.inl (by simp))
  have n1 := h.nb3
  have n2 := h.nb4
  exact ⟨(h.rX.but f nb).t0 _, .inr ⟨g, rfl, hB, r.but hst (by simp; omega), k.but hst (by simp; omega), by simp⟩, rc_low (rc_low h.rF f (fun g1 e1 h1 hm => by obtain ⟨q, eq, hq, hh2⟩ := rc_bk h.rM hm; exact h.mf _ _ eq e1 hq h1 hh2.symm)) hst (fun g1 e1 h1 => by have := (h.kF g1 e1 h1).1; simpa using this), (h.rV.but f n3).but hst (by simp; omega), (h.rH.but f n4).but hst (by simp; omega), h.b3, h.b4, h.bb, h.n34, h.nb3, h.nb4, fun q e _ => by cases e; exact hgb, h.kF, fun q q' e e' h0 h0' => by cases e; rcases hg with ⟨h1, e1⟩ | hg; exact h.mf _ _ e1 e' h1 h0'; have := rc_lt h.rF q' e' h0'; omega⟩
theorem Nw.appF {B : Nat} {u u' : World} {b : Nat} {M F : List Int} {H : List Bool} {aM aF : Option Addr} {cM cF g3 g4 : Nat} (h : Nw B u b M F H aM aF cM cF g3 g4) {v : Int} {g c : Nat} (r : Ro u' g (F ++ [v])) (k : Ca u' g (F ++ [v]).length c) (hB : B ≤ g) (hg : (0 < F.length ∧ aF = some ⟨g, 0, none⟩) ∨ u.heap.size ≤ g) (f : But (bkS F.length aF) u u') :
    Nw B (u'.setCell ⟨b, 1, none⟩ (.slice (some ⟨g, 0, none⟩) (F ++ [v]).length c)) b M (F ++ [v]) H aM (some ⟨g, 0, none⟩) cM c g3 g4 := by
  have nb : b ∉ bkS F.length aF := fun hm => by obtain ⟨q, e, h0, hh⟩ := rc_bk h.rF hm; exact (h.kF q e h0).1 hh.symm
  have n3 : g3 ∉ bkS F.length aF := fun hm => by obtain ⟨q, e, h0, hh⟩ := rc_bk h.rF hm; exact (h.kF q e h0).2.1 hh.symm
  have n4 : g4 ∉ bkS F.length aF := fun hm => by obtain ⟨q, e, h0, hh⟩ := rc_bk h.rF hm; exact (h.kF q e h0).2.2 hh.symm
  have lb := h.rX.lt
  have l3 := h.rV.lt
  have l4 := h.rH.lt
  have hgb : g ≠ b ∧ g ≠ g3 ∧ g ≠ g4 := by
    rcases hg with ⟨h0, e⟩ | hg
    · exact h.kF g e h0
    · omega
  have hst : But [b] u' (u'.setCell ⟨b, 1, none⟩ (.slice (some ⟨g, 0, none⟩) (F ++ [v]).length c)) := (But.refl _ _).set _ _ _ (.inl (by simp))
  have n1 := h.nb3
  have n2 := h.nb4
  exact ⟨(h.rX.but f nb).t1 _, rc_low (rc_low h.rM f (fun g1 e1 h1 hm => by obtain ⟨q, eq, hq, hh2⟩ := rc_bk h.rF hm; exact h.mf _ _ e1 eq h1 hq hh2)) hst (fun g1 e1 h1 => by have := (h.kM g1 e1 h1).1; simpa using this), .inr ⟨g, rfl, hB, r.but hst (by simp; omega), k.but hst (by simp; omega), by simp⟩, (h.rV.but f n3).but hst (by simp; omega), (h.rH.but f n4).but hst (by simp; omega), h.b3, h.b4, h.bb, h.n34, h.nb3, h.nb4, h.kM, fun q e _ => by cases e; exact hgb, fun q q' e e' h0 h0' => by cases e'; rcases hg with ⟨h1, e1⟩ | hg; exact h.mf _ _ e e1 h0 h1; have := rc_lt h.rM q e h0; omega⟩
theorem Nw.nbM {B : Nat} {u : World} {b : Nat} {M F : List Int} {H : List Bool} {aM aF : Option Addr} {cM cF g3 g4 : Nat} (h : Nw B u b M F H aM aF cM cF g3 g4) : b ∉ bkS M.length aM := fun hm => by obtain ⟨q, e, h0, hh⟩ := rc_bk h.rM hm; exact (h.kM q e h0).1 hh.symm
theorem Nw.loM {B : Nat} {u : World} {b : Nat} {M F : List Int} {H : List Bool} {aM aF : Option Addr} {cM cF g3 g4 : Nat} (h : Nw B u b M F H aM aF cM cF g3 g4) : ∀ k, k ∈ bkS M.length aM → B ≤ k := fun k hm => by
  obtain ⟨q, e, h0, rfl⟩ := rc_bk h.rM hm
  rcases h.rM with ⟨hz, _⟩ | ⟨g, e2, hB, _⟩
  · omega
  · rw [e] at e2
    cases e2
    exact hB
theorem Nw.nbF {B : Nat} {u : World} {b : Nat} {M F : List Int} {H : List Bool} {aM aF : Option Addr} {cM cF g3 g4 : Nat} (h : Nw B u b M F H aM aF cM cF g3 g4) : b ∉ bkS F.length aF := fun hm => by obtain ⟨q, e, h0, hh⟩ := rc_bk h.rF hm; exact (h.kF q e h0).1 hh.symm
theorem Nw.loF {B : Nat} {u : World} {b : Nat} {M F : List Int} {H : List Bool} {aM aF : Option Addr} {cM cF g3 g4 : Nat} (h : Nw B u b M F H aM aF cM cF g3 g4) : ∀ k, k ∈ bkS F.length aF → B ≤ k := fun k hm => by
  obtain ⟨q, e, h0, rfl⟩ := rc_bk h.rF hm
  rcases h.rF with ⟨hz, _⟩ | ⟨g, e2, hB, _⟩
  · omega
  · rw [e] at e2
    cases e2
    exact hB
theorem Nw.vc {B : Nat} {u : World} {b : Nat} {M F : List Int} {H : List Bool} {aM aF : Option Addr} {cM cF g3 g4 : Nat} (h : Nw B u b M F H aM aF cM cF g3 g4) : VcNm B u ⟨M, F, (List.replicate 20 (0 : Int)), H⟩ aM aF (some ⟨g3, 0, none⟩) (some ⟨g4, 0, none⟩) := by
  refine VcNm.mk' h.rM.vc.vo h.rF.vc.vo (vo_ro h.rV h.b3) (vo_rob h.rH h.b4) (fun k h1 h2 => ?_) (fun k h1 h2 => ?_) (fun k h1 h2 => ?_) (fun k h1 h2 => ?_) (fun k h1 h2 => ?_) (bkS_ap h.n34)
  · obtain ⟨q, e, l, hk⟩ := rc_bk h.rM h1
    obtain ⟨q', e', l', hk'⟩ := rc_bk h.rF h2
    exact h.mf _ _ e e' l l' (hk.symm.trans hk')
  all_goals
    obtain ⟨_, q', e', hk'⟩ := mem_bkS h2
    cases e'
    first
      | (obtain ⟨q, e, l, hk⟩ := rc_bk h.rM h1; first | exact (h.kM _ e l).2.1 (hk.symm.trans hk'.symm) | exact (h.kM _ e l).2.2 (hk.symm.trans hk'.symm))
      | (obtain ⟨q, e, l, hk⟩ := rc_bk h.rF h1; first | exact (h.kF _ e l).2.1 (hk.symm.trans hk'.symm) | exact (h.kF _ e l).2.2 (hk.symm.trans hk'.symm))
section
variable {P : Program} {Q : Exit → Act → World → Prop}
theorem wp_make_newB {o : Oper} {a : Act} {w : World} {K : Act → World → Prop} (l c : Operand) (t : TypeId) (hop : o.op = Op.makeSlice t l c)
    (e : TypeId) (i : TypeInfo) (z : Value) (h1 : P.underlying t = some (.slice e)) (h2 : P.info? e = some i) (h3 : i.zero = some z) (h4 : i.size = 1) (h5 : i.bytes = 1)
    (n : Nat) (hl : a.eval l = .int .i64 (n : Int)) (hc : a.eval c = .int .i64 (n : Int)) (hn : n ≤ 100000000)
    (hK : ∀ w', w'.ownsRow w.heap.size e 1 (.slice (some ⟨w.heap.size, 0, none⟩) n n) n (madeCells z.cells (n * 1)).toList → w.grownBy w' none → K (a.put o.dst (.slice (some ⟨w.heap.size, 0, none⟩) n n)) w') : o.wp P a w K Q := by
  obtain ⟨w', hrun, r1, r2⟩ := run_make_full (P := P) w w.heap.size t e i z 1 h1 h2 h3 h4 .i64 .i64 n (by rw [h5]; omega) (by unfold maxLen; omega) (Nat.le_refl _)
  unfold Oper.wp
  simp [execOp, hop, hl, hc, hrun, Result.andThen]
  exact hK w' r1 r2
end
theorem rob_own {u : World} {B g n c : Nat} {e : TypeId} {xs : List Bool} (h : u.ownsRow B e 1 (.slice (some ⟨g, 0, none⟩) n c) n (xs.map (Value.bool))) : RoB u g xs ∧ B ≤ g ∧ xs.length = n := by
  obtain ⟨hl, hc⟩ := h
  rw [List.length_map, Nat.mul_one] at hl
  rcases hc with ⟨h, _⟩ | ⟨g', cap, cur, hv, hB, hg, hcap, _, hcs, hxs⟩
  · cases h
  · cases hv
    refine ⟨⟨?_, fun i hi => ?_, fun i hi => by simp [World.frozen?, hg]⟩, hB, hl⟩
    · by_cases hh : g < u.heap.size
      · exact hh
      · rw [Array.getElem?_eq_none (by omega)] at hg; cases hg
    · simp only [World.cell?, hg]
      have h1 : (cur.toList.take (n * 1))[i]? = (xs.map (Value.bool))[i]? := by rw [hxs]
      rw [List.getElem?_take_of_lt (by omega), List.getElem?_map, List.getElem?_eq_getElem hi] at h1
      simpa [List.getD, List.getElem?_eq_getElem hi] using h1
theorem made_zeroB (n : Nat) : (madeCells (Value.bool false).cells (n * 1)).toList = (List.replicate n false).map (Value.bool) := by
  simp [madeCells, Value.cells]
  apply List.ext_getElem
  · simp
  · intro i h1 h2
    simp [Nat.mod_one]
theorem box_ro {u : World} {b g : Nat} {c d e : Value} {xs : List Int} (h : Box4 u b (.slice none 0 0) c d e) (r : Ro u g xs) (h0 : 0 < xs.length) : b ≠ g := fun e => by
  subst e
  have := h.c0.symm.trans (r.cel 0 h0)
  cases this
theorem box_rob {u : World} {b g : Nat} {c d e : Value} {xs : List Bool} (h : Box4 u b (.slice none 0 0) c d e) (r : RoB u g xs) (h0 : 0 < xs.length) : b ≠ g := fun e => by
  subst e
  have := h.c0.symm.trans (r.cel 0 h0)
  cases this
def mmM (p : Nat) : List Int := (List.range (min p 8)).map fun (i : Nat) => (i : Int)
def mmF (p : Nat) : List Int := (List.range (p - 8)).map fun (i : Nat) => ((i + 8 : Nat) : Int)
theorem mm_1 : ∀ p, p < 8 → mmM p ++ [(p : Int)] = mmM (p + 1) ∧ mmF p = mmF (p + 1) := by decide +kernel
theorem mm_2 : ∀ p, p < 20 → 8 ≤ p → mmF p ++ [(p : Int)] = mmF (p + 1) ∧ mmM p = mmM (p + 1) := by decide +kernel
theorem nw_len (p : Nat) : (nwH p).length = 20 := by simp [nwH]
theorem mm_end : mmM 20 = newN.M ∧ mmF 20 = newN.F ∧ nwH 20 = newN.H := by decide +kernel
theorem mm_l : ∀ p, p ≤ 20 → (mmM p).length ≤ 8 ∧ (mmF p).length ≤ 12 := by decide +kernel
set_option maxRecDepth 8000 in
set_option maxHeartbeats 4000000 in
theorem spec_NamNew (w : World) : Calls Try.prog 18 #[] w (NmP newN w) := by
  obtain ⟨i0, hi, hz0, hz1, hz2⟩ := info_parts info_intV
  obtain ⟨j0, hj, hy0, hy1, hy2⟩ := info_partsB info_boolV
  have HF := Lib.hid (Fr.alloc w (.cells #[.slice none 0 0, .slice none 0 0, .slice none 0 0, .slice none 0 0] 25))
  have HZ := Lib.hid (Box4.new w (.slice none 0 0) (.slice none 0 0) (.slice none 0 0) (.slice none 0 0) 25 _ rfl)
  have HUS := Lib.hid (show (w.alloc (.cells #[.slice none 0 0, .slice none 0 0, .slice none 0 0, .slice none 0 0] 25)).heap.size = w.heap.size + 1 by simp)
  go_enter Try.func18, Try.ntmps18
  go_wp2_with fail
  generalize (w.alloc (.cells #[.slice none 0 0, .slice none 0 0, .slice none 0 0, .slice none 0 0] 25)) = u0 at *
  refine wp_region_rows 29 4 [] (fun _ => []) lb0_in (fun i => i == 0 || i == 1 || i == 3) (fun i v u => match i with | 0 => ∃ g, v = .slice (some ⟨g, 0, none⟩) 20 20 ∧ u0.heap.size ≤ g ∧ Ro u g (List.replicate 20 (0 : Int)) | 1 => ∃ g, v = .slice (some ⟨g, 0, none⟩) 20 20 ∧ u0.heap.size ≤ g ∧ RoB u g (List.replicate 20 false) | 2 => ∃ g3 g4, v = .agg #[.slice none 0 0, .slice none 0 0, .slice (some ⟨g3, 0, none⟩) 20 20, .slice (some ⟨g4, 0, none⟩) 20 20] ∧ u0.heap.size ≤ g3 ∧ u0.heap.size ≤ g4 ∧ Ro u g3 (List.replicate 20 (0 : Int)) ∧ RoB u g4 (List.replicate 20 false) ∧ g3 ≠ g4 | 3 => ∃ b, v = .pointer (some ⟨b, 0, none⟩) ∧ u0.heap.size ≤ b ∧ Box4 u b (.slice none 0 0) (.slice none 0 0) (.slice none 0 0) (.slice none 0 0) | _ => True) ?mono (by kernel_rfl) (by kernel_rfl) rfl (by kernel_rfl) (by kernel_rfl) (by decide) ?step ?fin
  case mono =>
    intro i j v u u' hi hij hdj hsz h hB
    rcases j with _ | _ | _ | _ | j
    · obtain ⟨g, e, b, r⟩ := h
      exact ⟨g, e, b, r.but hB (by simp)⟩
    · obtain ⟨g, e, b, r⟩ := h
      exact ⟨g, e, b, r.but hB (by simp)⟩
    · obtain ⟨g3, g4, e, b3, b4, r3, r4, n⟩ := h
      exact ⟨g3, g4, e, b3, b4, r3.but hB (by simp), r4.but hB (by simp), n⟩
    · obtain ⟨b, e, hb, x⟩ := h
      exact ⟨b, e, hb, x.but hB (by simp)⟩
    · trivial
  case step =>
    intro i o ho hiz
    rcases i with _ | _ | _ | _ | _ | i
    · clear hiz
      cases ho
      intro act u hB hL hdep hap hnw
      replace hB := hB [] (fun j _ k hk => lb0_in j k hk)
      obtain ⟨ysl, ha, hy⟩ := hL.puts [3, 4, 5, 1] (by kernel_rfl)
      clear hdep hL hy hap hnw
      simp only [List.foldl, List.setIfInBounds_toArray, List.set_cons_succ, List.set_cons_zero] at ha
      subst ha
      refine wpOp_step rfl (fun K hK => ?_)
      rw [if_pos (by simp [Region.wanted])]
      refine wp_make_new _ _ 22 rfl 3 i0 (.int .i64 0) Try.underlying22 hi hz0 hz1 hz2 20 rfl rfl (by decide) ?_
      intro w' ho hg
      have hr : Ro w' u.heap.size (List.replicate 20 (0 : Int)) := by
        rw [made_zero] at ho; exact (ro_own ho).1
      refine hK _ _ ⟨_, rfl, (fun h => by cases h), ⟨_, rfl, hB.size, hr⟩, But.of (grown_fr hg), (fun _ p hp => by cases hp; exact ⟨Nat.le_refl _, hr.lt⟩)⟩
    · clear hiz
      cases ho
      intro act u hB hL hdep hap hnw
      replace hB := hB [] (fun j _ k hk => lb0_in j k hk)
      obtain ⟨ysl, ha, hy⟩ := hL.puts [3, 4, 5, 1] (by kernel_rfl)
      clear hdep hL hy hap hnw
      simp only [List.foldl, List.setIfInBounds_toArray, List.set_cons_succ, List.set_cons_zero] at ha
      subst ha
      refine wpOp_step rfl (fun K hK => ?_)
      rw [if_pos (by simp [Region.wanted])]
      refine wp_make_newB _ _ 23 rfl 4 j0 (.bool false) Try.underlying23 hj hy0 hy1 hy2 20 rfl rfl (by decide) ?_
      intro w' ho hg
      have hr : RoB w' u.heap.size (List.replicate 20 false) := by
        rw [made_zeroB] at ho; exact (rob_own ho).1
      refine hK _ _ ⟨_, rfl, (fun h => by cases h), ⟨_, rfl, hB.size, hr⟩, But.of (grown_fr hg), (fun _ p hp => by cases hp; exact ⟨Nat.le_refl _, hr.lt⟩)⟩
    · clear hiz
      cases ho
      intro act u hB hL hdep hap hnw
      replace hB := hB [] (fun j _ k hk => lb0_in j k hk)
      have d0 := hdep { on := 0, ground := .data } (by simp) rfl _ rfl
      have d1 := hdep { on := 1, ground := .data } (by simp) rfl _ rfl
      obtain ⟨ysl, ha, hy⟩ := hL.puts [3, 4, 5, 1] (by kernel_rfl)
      obtain ⟨g3, h0, b0, r0⟩ := d0
      have e0 : ysl 3 = .slice (some ⟨g3, 0, none⟩) 20 20 := (hy 3).symm.trans h0
      obtain ⟨g4, h1, b1, r1⟩ := d1
      have e1 : ysl 4 = .slice (some ⟨g4, 0, none⟩) 20 20 := (hy 4).symm.trans h1
      have n01 := hap { on := 0, ground := .data } (by simp) { on := 1, ground := .data } (by simp) rfl rfl (by decide) rfl rfl _ _ rfl rfl g3 g4 (by rw [h0]; rfl) (by rw [h1]; rfl)
      clear hdep hL hy hap hnw h0 h1
      simp only [List.foldl, List.setIfInBounds_toArray, List.set_cons_succ, List.set_cons_zero, e0, e1] at ha
      subst ha
      clear e0 e1
      refine wpOp_step rfl (fun K hK => ?_)
      go_simp
      exact hK _ _ ⟨_, rfl, (fun h => by cases h), ⟨g3, g4, rfl, b0, b1, r0, r1, n01⟩, But.refl _ _, (fun h => by cases h)⟩
    · clear hiz
      cases ho
      intro act u hB hL hdep hap hnw
      replace hB := hB [] (fun j _ k hk => lb0_in j k hk)
      obtain ⟨ysl, ha, hy⟩ := hL.puts [3, 4, 5, 1] (by kernel_rfl)
      clear hdep hL hy hap hnw
      simp only [List.foldl, List.setIfInBounds_toArray, List.set_cons_succ, List.set_cons_zero] at ha
      subst ha
      refine wpOp_step rfl (fun K hK => ?_)
      go_simp
      exact hK _ _ ⟨_, rfl, (fun h => by cases h), ⟨_, rfl, hB.size, Box4.new _ _ _ _ _ _ _ rfl⟩, But.of (Fr.alloc _ _), (fun _ p hp => by cases hp; exact ⟨Nat.le_refl _, by simp⟩)⟩
    · exact absurd rfl hiz
    · exact absurd ho (by simp)
  case fin =>
    intro act u hB hL hsf hap hnw
    have d2 := hsf 2 _ rfl (by decide)
    have d3 := hsf 3 _ rfl (by decide)
    obtain ⟨ysl, ha, hy⟩ := hL.puts [3, 4, 5, 1] (by kernel_rfl)
    obtain ⟨g3, g4, h2, b3, b4, r3, r4, n34⟩ := d2
    have e2 : ysl 5 = .agg #[.slice none 0 0, .slice none 0 0, .slice (some ⟨g3, 0, none⟩) 20 20, .slice (some ⟨g4, 0, none⟩) 20 20] := (hy 5).symm.trans h2
    obtain ⟨b, h3, hb, hx⟩ := d3
    have e3 : ysl 1 = .pointer (some ⟨b, 0, none⟩) := (hy 1).symm.trans h3
    clear hL hsf hy hap hnw h2 h3
    simp only [List.foldl, List.setIfInBounds_toArray, List.set_cons_succ, List.set_cons_zero, e2, e3] at ha
    subst ha
    clear e2 e3
    have hx9 := hx
    have nb3 := box_ro hx r3 (by simp)
    have nb4 := box_rob hx r4 (by simp)
    obtain ⟨_, z0, z1, z2, z3, zf0, zf1, zf2, zf3⟩ := hx9
    refine wpOp_step rfl (fun K hK => ?_)
    go_simp
    refine hK _ _ ?_
    have hst : But [b] u ((((u.setCell ⟨b, 0, none⟩ (.slice none 0 0)).setCell ⟨b, 1, none⟩ (.slice none 0 0)).setCell ⟨b, 2, none⟩ (.slice (some ⟨g3, 0, none⟩) 20 20)).setCell ⟨b, 3, none⟩ (.slice (some ⟨g4, 0, none⟩) 20 20)) := (But.refl _ _).set4 _ _ _ _ _ (.inl (by simp))
    have HN := Lib.hid (show Nw (w.heap.size + 1) ((((u.setCell ⟨b, 0, none⟩ (.slice none 0 0)).setCell ⟨b, 1, none⟩ (.slice none 0 0)).setCell ⟨b, 2, none⟩ (.slice (some ⟨g3, 0, none⟩) 20 20)).setCell ⟨b, 3, none⟩ (.slice (some ⟨g4, 0, none⟩) 20 20)) b (mmM 0) (mmF 0) (nwH 0) none none 0 0 g3 g4 from ⟨hx.set _ _ _ _, .inl ⟨rfl, rfl⟩, .inl ⟨rfl, rfl⟩, r3.but hst (by simp; exact nb3.symm), by rw [nw_0.2.2]; exact r4.but hst (by simp; exact nb4.symm), by have := HUS.out; omega, by have := HUS.out; omega, by have := HUS.out; omega, n34, nb3, nb4, fun g e _ => (by cases e), fun g e _ => (by cases e), fun g g' e _ _ _ => (by cases e)⟩)
    have HFu := Lib.hid (show Fr w _ from fr_new (fr_but (L := []) HF.out hB (fun k hk => by cases hk)) hst (by have := HUS.out; omega))
    have HZu := Lib.hid ((HZ.out.but hB (by simp)).but hst (by have := HUS.out; simp; omega))
    clear hst z0 z1 z2 z3 zf0 zf1 zf2 zf3 hx r3 r4 hB
    generalize ((((u.setCell ⟨b, 0, none⟩ (.slice none 0 0)).setCell ⟨b, 1, none⟩ (.slice none 0 0)).setCell ⟨b, 2, none⟩ (.slice (some ⟨g3, 0, none⟩) 20 20)).setCell ⟨b, 3, none⟩ (.slice (some ⟨g4, 0, none⟩) 20 20)) = u9 at *
    go_wp2_with fail
    go_loopw [2] (fun i wr => ∃ (p : Nat) (aM aF : Option Addr) (cM cF : Nat), p ≤ 20 ∧ i = .int .i64 p ∧ Nw (w.heap.size + 1) wr b (mmM p) (mmF p) (nwH p) aM aF cM cF g3 g4 ∧ Box4 wr w.heap.size (.slice none 0 0) (.slice none 0 0) (.slice none 0 0) (.slice none 0 0) ∧ Fr w wr) (fun i _ => 20 - (intOf i).toNat)
    case atStart => exact ⟨0, none, none, 0, 0, by omega, rfl, HN.out, HZu.out, HFu.out⟩
    case round =>
      obtain ⟨p, aM, aF, cM, cF, hp, rfl, hN, hZ, hW⟩ := hrel
      have IN := Lib.hid hN
      have IZ := Lib.hid hZ
      have IW := Lib.hid hW
      clear hN hZ hW HN HZu HFu
      by_cases hlt : p < 20
      · have hlt' : (p : Int) < 20 := by omega
        have hp0 : (0 : Int) ≤ (p : Int) := by omega
        have d1 := IN.out.rH.cel p (by rw [nw_len]; exact hlt)
        have d2 := IN.out.rH.fro p (by rw [nw_len]; exact hlt)
        have HL := Lib.hid (mm_l p hp)
        obtain ⟨_, y0, y1, y2, y3, yf0, yf1, yf2, yf3⟩ := IN.out.rX
        go_upto_region 6 with fail
        have hst : But [g4] wr (wr.setCell ⟨g4, p, none⟩ (.bool true)) := (But.refl _ _).set _ _ _ (.inl (by simp))
        have JN := Lib.hid (IN.out.setH p true (by rw [nw_len]; exact hlt))
        rw [nw_H p hlt] at JN
        have JZ := Lib.hid (IZ.out.but hst (by have := IN.out.b4; simp; omega))
        have JW := Lib.hid (show Fr w _ from fr_new IW.out hst (by have := IN.out.b4; omega))
        clear hst d1 d2 y0 y1 y2 y3 yf0 yf1 yf2 yf3 IN IZ IW
        generalize (wr.setCell ⟨g4, p, none⟩ (.bool true)) = w1 at *
        by_cases h8 : p < 8
        · have h8i : (p : Int) < 8 := by omega
          obtain ⟨_, y0, y1, y2, y3, yf0, yf1, yf2, yf3⟩ := JN.out.rX
          have fA := Fr.alloc w1 (.cells #[.int .i64 p] 3)
          have KN := Lib.hid (JN.out.fr fA)
          have KZ := Lib.hid (JZ.out.fr fA)
          have KW := Lib.hid (JW.out.trans fA)
          have HPC := Lib.hid (show (w1.alloc (.cells #[.int .i64 p] 3)).cell? ⟨w1.heap.size, 0, none⟩ = some (.int .i64 p) from (alloc_at w1 _ 3 _ rfl 0).1)
          have HBW := Lib.hid (show w.heap.size + 1 ≤ (w1.alloc (.cells #[.int .i64 p] 3)).heap.size by have := KZ.out.lt; omega)
          clear fA JN JZ JW
          go_upto_region 4 with (at_builtin; refine wpList_plain rfl fun K hK => wp_append_rc _ _ rfl (w.heap.size + 1) (mmM p) aM cM rfl KN.out.rM p _ rfl HPC.out (by have := HL.out.1; omega) HBW.out ?_; intro gF cF9 v2 hR hCa hBg hgg hbut; have KC := Lib.hid (KN.out.appM hR hCa hBg hgg hbut); have KX := Lib.hid (KN.out.rX.but hbut KN.out.nbM); have KZ1 := Lib.hid (KZ.out.but hbut (fun hm => by have := KN.out.loM _ hm; omega)); have KW1 := Lib.hid (fr_but KW.out hbut (fun k hk => by have := KN.out.loM _ hk; omega)); rw [(mm_1 p h8).1] at KC ⊢; clear hR hCa hBg hgg hbut y0 y1 y2 y3 yf0 yf1 yf2 yf3 KN KZ KW HPC; refine hK _ _ ?_; obtain ⟨_, y0, y1, y2, y3, yf0, yf1, yf2, yf3⟩ := KX.out)
          have hb9 : But [b] v2 (v2.setCell ⟨b, 0, none⟩ (.slice (some ⟨gF, 0, none⟩) (mmM (p + 1)).length cF9)) := (But.refl _ _).set _ _ _ (.inl (by simp))
          have KZ2 := Lib.hid (KZ1.out.but hb9 (by have := KC.out.bb; simp; omega))
          have KW2 := Lib.hid (fr_new KW1.out hb9 (by have := KC.out.bb; omega))
          clear hb9 y0 y1 y2 y3 yf0 yf1 yf2 yf3 KZ1 KW1 KX
          generalize (v2.setCell ⟨b, 0, none⟩ (.slice (some ⟨gF, 0, none⟩) (mmM (p + 1)).length cF9)) = v3 at *
          go_wp2_with fail
          go_roundw
          case rel => exact ⟨p + 1, some ⟨gF, 0, none⟩, aF, cF9, cF, by omega, by go_num, (by rw [← (mm_1 p h8).2]; exact KC.out), KZ2.out, KW2.out⟩
          case measure => simp [intOf]; omega
        · have h8i : ¬ (p : Int) < 8 := by omega
          obtain ⟨_, y0, y1, y2, y3, yf0, yf1, yf2, yf3⟩ := JN.out.rX
          have fA := Fr.alloc w1 (.cells #[.int .i64 p] 3)
          have KN := Lib.hid (JN.out.fr fA)
          have KZ := Lib.hid (JZ.out.fr fA)
          have KW := Lib.hid (JW.out.trans fA)
          have HPC := Lib.hid (show (w1.alloc (.cells #[.int .i64 p] 3)).cell? ⟨w1.heap.size, 0, none⟩ = some (.int .i64 p) from (alloc_at w1 _ 3 _ rfl 0).1)
          have HBW := Lib.hid (show w.heap.size + 1 ≤ (w1.alloc (.cells #[.int .i64 p] 3)).heap.size by have := KZ.out.lt; omega)
          clear fA JN JZ JW
          go_upto_region 4 with (at_builtin; refine wpList_plain rfl fun K hK => wp_append_rc _ _ rfl (w.heap.size + 1) (mmF p) aF cF rfl KN.out.rF p _ rfl HPC.out (by have := HL.out.2; omega) HBW.out ?_; intro gF cF9 v2 hR hCa hBg hgg hbut; have KC := Lib.hid (KN.out.appF hR hCa hBg hgg hbut); have KX := Lib.hid (KN.out.rX.but hbut KN.out.nbF); have KZ1 := Lib.hid (KZ.out.but hbut (fun hm => by have := KN.out.loF _ hm; omega)); have KW1 := Lib.hid (fr_but KW.out hbut (fun k hk => by have := KN.out.loF _ hk; omega)); rw [(mm_2 p hlt (by omega)).1] at KC ⊢; clear hR hCa hBg hgg hbut y0 y1 y2 y3 yf0 yf1 yf2 yf3 KN KZ KW HPC; refine hK _ _ ?_; obtain ⟨_, y0, y1, y2, y3, yf0, yf1, yf2, yf3⟩ := KX.out)
          have hb9 : But [b] v2 (v2.setCell ⟨b, 1, none⟩ (.slice (some ⟨gF, 0, none⟩) (mmF (p + 1)).length cF9)) := (But.refl _ _).set _ _ _ (.inl (by simp))
          have KZ2 := Lib.hid (KZ1.out.but hb9 (by have := KC.out.bb; simp; omega))
          have KW2 := Lib.hid (fr_new KW1.out hb9 (by have := KC.out.bb; omega))
          clear hb9 y0 y1 y2 y3 yf0 yf1 yf2 yf3 KZ1 KW1 KX
          generalize (v2.setCell ⟨b, 1, none⟩ (.slice (some ⟨gF, 0, none⟩) (mmF (p + 1)).length cF9)) = v3 at *
          go_wp2_with fail
          go_roundw
          case rel => exact ⟨p + 1, aM, some ⟨gF, 0, none⟩, cM, cF9, by omega, by go_num, (by rw [← (mm_2 p hlt (by omega)).2]; exact KC.out), KZ2.out, KW2.out⟩
          case measure => simp [intOf]; omega
      · have hge : ¬ (p : Int) < 20 := by omega
        have e : p = 20 := by omega
        subst e
        rw [mm_end.1, mm_end.2.1, mm_end.2.2] at IN
        have HVc := Lib.hid (show VcNm (w.heap.size + 1) wr newN aM aF (some ⟨g3, 0, none⟩) (some ⟨g4, 0, none⟩) from IN.out.vc)
        obtain ⟨NN, hNN⟩ : ∃ NN, newN = NN := ⟨_, rfl⟩
        have HNN := Lib.hid hNN
        rw [hNN] at IN HVc
        clear hNN
        obtain ⟨_, y0, y1, y2, y3, yf0, yf1, yf2, yf3⟩ := IN.out.rX
        obtain ⟨_, z0, z1, z2, z3, zf0, zf1, zf2, zf3⟩ := IZ.out
        have HBk := Lib.hid HVc.out.blk
        have hst : ∀ a b c d, But [w.heap.size] wr ((((wr.setCell ⟨w.heap.size, 0, none⟩ a).setCell ⟨w.heap.size, 1, none⟩ b).setCell ⟨w.heap.size, 2, none⟩ c).setCell ⟨w.heap.size, 3, none⟩ d) := fun a b c d => (But.refl _ _).set4 w.heap.size a b c d (.inl (by simp))
        have HST := Lib.hid hst
        have hzl := IZ.out.lt
        clear hst
        go_wp2_with fail
        refine bodyPost_ret (v := .agg #[.slice aM NN.M.length cM, .slice aF NN.F.length cF, .slice (some ⟨g3, 0, none⟩) 20 20, .slice (some ⟨g4, 0, none⟩) 20 20]) (by simp [results, Try.results18, go_sem, World.cell?_setCell_other, World.cell?_setCell_same, z0, z1, z2, z3]) rfl ?_
        show NmP newN w _ _
        rw [HNN.out]
        exact ⟨aM, aF, some ⟨g3, 0, none⟩, some ⟨g4, 0, none⟩, cM, cF, 20, 20, by rw [← HNN.out]; rfl, (Rws.mono HVc.out (by omega)).but (HST.out _ _ _ _) (fun k hk hm => by have := HBk.out k hk; have := List.mem_singleton.1 hm; omega), fr_new IW.out (HST.out _ _ _ _) (by omega)⟩

end Go.Proofs.Ytddllgjieccikaa
