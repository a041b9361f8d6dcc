/- A cache that came in. Answers that are caches: not too long; where they lie. -/
import Derived.Test.YtoacgjjpipdkjaaK23
import Derived.Test.YtoacgjjpipdkjaaOpenGue
namespace Go.Proofs.Ytoacgjjpipdkjaa
open Go.ChangeShapes Go.WideShapes Go.ChangeAt Go.RowKit
set_option linter.unusedVariables false
set_option linter.unusedSimpArgs false
set_option maxRecDepth 100000 in
theorem row_open_cap {H : Type} {enc : TypeId × Value → H} {w : World} {base : Nat} {spare : Nat → Bool} {held : Bool} {fuel : Nat} {c : Value} {x : DataW H × List MemPlace} (h : DataW.trod enc Try.prog w base spare held fuel 22 [c] = some x) :
    ∃ (ao : Option Addr) (cap : Nat) (xs : List Int), c = .slice ao xs.length cap ∧ Src w xs.length (ivl xs) ao ∧ xs.length ≤ 9223372036854775807 ∧ xs.length ≤ cap := by
  rcases open_ints Try.underlying22 Try.underlying3 (by kernel_rfl) h with ⟨hcs, _⟩ | ⟨a, l, cp, zs, hcs, _, hl, hm, hz, _, hcell, hwz⟩
  · injection hcs with hcs
    subst hcs
    exact ⟨none, 0, [], rfl, fun h => by simp at h, by simp, by simp⟩
  · injection hcs with hcs
    subst hcs
    have hzl : l ≤ zs.length := by rw [hz]; split <;> omega
    have hlen : (zs.take l).length = l := by simp; omega
    have hmx : maxLen = 9223372036854775807 := rfl
    refine ⟨some a, cp, zs.take l, by rw [hlen], ?_, by omega, by omega⟩
    refine src_of_row fun i hi => ?_
    rw [hlen] at hi
    rw [hcell i (by omega)]
    simp only [ivl, List.getD_eq_getElem?_getD, List.getElem?_take_of_lt hi]
set_option maxRecDepth 100000 in
theorem lines_open {H : Type} {enc : TypeId × Value → H} {w : World} {base : Nat} {spare : Nat → Bool} {held : Bool} {fuel : Nat} {c : Value} {x : DataW H × List MemPlace} (h : DataW.trod enc Try.prog w base spare held fuel 23 [c] = some x) :
    ∃ (ao : Option Addr) (cap : Nat) (X : List La), c = .slice ao X.length cap ∧ SrcL w X ao ∧ X.length ≤ 9223372036854775807 ∧ ∀ i, i < X.length → (X.getD i la0).n.W.length ≤ 9223372036854775807 := by
  have ce : Try.prog.cellsOf 93 = 4 := by kernel_rfl
  have cI : Try.prog.cellsOf 3 = 1 := by kernel_rfl
  have cB : Try.prog.cellsOf 4 = 1 := by kernel_rfl
  have cS : Try.prog.cellsOf 22 = 1 := by kernel_rfl
  rcases Go.Deep.open_slice Try.underlying23 h with ⟨hcs, _⟩ | ⟨a, len, cap, m, n, D, Pl, hcs, hb, hl, hm, hmm, _, hx⟩
  · injection hcs with hcs
    subst hcs
    exact ⟨none, 0, [], rfl, ⟨fun h => by simp at h, fun i hi => by simp at hi⟩, by simp, fun i hi => by simp at hi⟩
  · injection hcs with hcs
    subst hcs
    have hlm : len ≤ m := by rw [hmm]; split <;> omega
    have each : ∀ i, i < len → ∃ y : La, (w.cell? (a.add (i * 4)) = some (.bool y.n.u) ∧ w.cell? (a.add (i * 4 + 1)) = some (.int .i64 y.n.p) ∧ w.cell? (a.add (i * 4 + 2)) = some (.bool y.n.d) ∧ w.cell? (a.add (i * 4 + 3)) = some (.slice y.a y.n.W.length y.c)) ∧ WSrc w y ∧ y.n.W.length ≤ 9223372036854775807 := by
      intro i hi
      obtain ⟨cs', h1, h2⟩ := hx i (by omega)
      rw [ce] at h1
      obtain ⟨_, hlen, hcell⟩ := World.cells?_some h1
      obtain ⟨xs, k, hk, hxy, _, hxl, hf⟩ := DataW.trod_struct Try.underlying93 h2
      match xs, hxl, cs', hlen with
      | [y0, y1, y2, y3], _, [v0, v1, v2, v3], _ =>
        have g0 := hf 0 _ rfl
        have g1 := hf 1 _ rfl
        have g2 := hf 2 _ rfl
        have g3 := hf 3 _ rfl
        simp only [cI, cB, cS, List.drop_zero, List.take_succ_cons, List.take_zero, List.drop_succ_cons, List.getElem?_cons_zero, List.getElem?_cons_succ] at g0 g1 g2 g3
        obtain ⟨z0, e0, _⟩ := DataW.trod_bool Try.underlying4 g0
        obtain ⟨z1, e1, _, _⟩ := DataW.trod_int Try.underlying3 g1
        obtain ⟨z2, e2, _⟩ := DataW.trod_bool Try.underlying4 g2
        obtain ⟨aW, kW, W, e3, sW, lW⟩ := row_open g3
        injection e0 with e0
        injection e1 with e1
        injection e2 with e2
        subst e0 e1 e2 e3
        have q0 := hcell 0 (by omega)
        have q1 := hcell 1 (by omega)
        have q2 := hcell 2 (by omega)
        have q3 := hcell 3 (by omega)
        rw [Go.Deep.add_add] at q0 q1 q2 q3
        exact ⟨⟨⟨z0, z1, z2, W⟩, aW, kW⟩, ⟨by simpa using q0, by simpa using q1, by simpa using q2, by simpa using q3⟩, sW, lW⟩
    have : Inhabited La := ⟨la0⟩
    obtain ⟨q, hq⟩ := Go.Deep.choose_lt each
    have hmx : maxLen = 9223372036854775807 := rfl
    have hgq : ∀ i, i < len → ((List.range len).map q).getD i la0 = q i := fun i hi => by simp [List.getD_eq_getElem?_getD, hi]
    refine ⟨some a, cap, (List.range len).map q, by simp, ⟨fun h0 => ?_, fun i hi => ?_⟩, by simp; omega, fun i hi => ?_⟩
    · have hl0 : 0 < len := by simpa using h0
      obtain ⟨b, off, spot⟩ := a
      have hc0 := (hq 0 hl0).1.1
      have hspot : spot = none := by simpa [Addr.add] using World.cell?_spot hc0
      subst hspot
      refine ⟨b, off, rfl, lt_of_cell (a := ⟨b, off, none⟩) (by simpa [Addr.add] using hc0), fun j v hv => ?_⟩
      have hj : j < 4 * len := by
        have := (List.getElem?_eq_some_iff.1 hv).1
        rw [clL_len] at this
        simpa using this
      obtain ⟨i, r, rfl, hr⟩ : ∃ i r, j = 4 * i + r ∧ r < 4 := ⟨j / 4, j % 4, by omega, by omega⟩
      have hi : i < len := by omega
      have hc := clL_at ((List.range len).map q) i (by simpa using hi)
      rw [hgq i hi] at hc
      have ha : ∀ j, (⟨b, off, none⟩ : Addr).add j = ⟨b, off + j, none⟩ := fun j => Addr.add_mid b off j
      have hqi := (hq i hi).1
      rw [ha, ha, ha, ha] at hqi
      rw [show off + (4 * i + r) = off + (i * 4 + r) by omega]
      rcases r with _ | _ | _ | _ | r
      · rw [Nat.add_zero, hc.1] at hv; cases hv; exact hqi.1
      · rw [hc.2.1] at hv; cases hv; exact hqi.2.1
      · rw [hc.2.2.1] at hv; cases hv; exact hqi.2.2.1
      · rw [hc.2.2.2] at hv; cases hv; exact hqi.2.2.2
      · omega
    · have hi' : i < len := by simpa using hi
      rw [hgq i hi']
      exact (hq i hi').2.1
    · have hi' : i < len := by simpa using hi
      rw [hgq i hi']
      exact (hq i hi').2.2
set_option maxRecDepth 100000 in
theorem open_chc {H : Type} {enc : TypeId × Value → H} {w : World} {r : Reach} {b0 base : Nat} {spare : Nat → Bool} {held : Bool} {v : Value} {d : DataW H} {p : List MemPlace}
    (hv : Value.okWide Try.prog w r b0 25 v) (h : DataW.Trod enc Try.prog w base spare held 25 v d p) :
    ∃ (M : List Int) (X : List La) (aM aL : Option Addr) (cM cL : Nat), v = caV aM aL M X cM cL ∧ SrcC w M X aM aL ∧ BigC M X ∧ M.length ≤ cM := by
  have cT : Try.prog.cellsOf 23 = 1 := by kernel_rfl
  have cS : Try.prog.cellsOf 22 = 1 := by kernel_rfl
  have hc : Try.prog.cellsOf 25 = 2 := by kernel_rfl
  obtain ⟨cs, rfl, hsz⟩ := okWide_struct Try.underlying25 hv
  obtain ⟨c0, c1, rfl⟩ := array2 (hsz.trans hc)
  obtain ⟨fuel, hf⟩ := h
  obtain ⟨xs, n, _, _, hl, hlen, hfl⟩ := DataW.trod_struct Try.underlying25 hf
  match xs, hlen with
  | [y0, y1], _ =>
    have g0 := hfl 0 _ rfl
    have g1 := hfl 1 _ rfl
    simp only [cT, cS, Value.cells, List.drop_zero, List.take_succ_cons, List.take_zero, List.drop_succ_cons, List.getElem?_cons_zero, List.getElem?_cons_succ] at g0 g1
    obtain ⟨aM, kM, M, rfl, sM, lM, lcM⟩ := row_open_cap g0
    obtain ⟨aL, kL, X, rfl, sL, lL, lW⟩ := lines_open g1
    exact ⟨M, X, aM, aL, kM, kL, rfl, ⟨sM, sL⟩, ⟨lM, lL, lW⟩, lcM⟩

/-- An answer: a cache that is ok, or none. -/
def OkA (c : Ch) : Prop := OkC c ∨ c = ch0
theorem okA_few {c : Ch} (h : OkA c) {M : List Int} {X : List La} (e : c = ⟨M, lns X⟩) : FewT M X := by
  rcases h with h | h
  · subst e
    have hl : X.length = 4 := by have := h.Ll; simpa using this
    have hW : ∀ i, i < 4 → (X.getD i la0).n.W.length ≤ 4 := fun i hi => by
      have := okLns_at h.L i (by rw [h.Ll]; exact hi)
      rw [show (Ch.mk M (lns X)).L = lns X from rfl, lns_get] at this
      exact okLn_W this
    have h0 := hW 0 (by omega)
    have h1 := hW 1 (by omega)
    have h2 := hW 2 (by omega)
    have h3 := hW 3 (by omega)
    have hM : M.length = 256 := h.Ml
    refine ⟨?_⟩
    rw [hl, hM]
    simp only [sumW]
    omega
  · rw [h] at e
    injection e with e1 e2
    have hX : X = [] := by simpa [lns] using e2.symm
    subst e1 hX
    exact ⟨by simp [sumW]⟩
theorem okA_read (c : Ch) (a : Int) : OkA (readA c a) := by
  unfold readA
  split
  · rename_i h
    simp only [Bool.and_eq_true] at h
    exact .inl (bringC_ok ((okC_iff c).1 h.1) h.2)
  · exact .inr rfl
theorem okA_write (c : Ch) (a n : Int) : OkA (writeA c a n) := by
  unfold writeA
  split
  · rename_i h
    simp only [Bool.and_eq_true] at h
    exact .inl (writeC_ok ((okC_iff c).1 h.1.1) h.1.2 h.2)
  · exact .inr rfl
theorem okA_lay (c : Ch) (a n : Int) : OkA (layA c a n) := by
  unfold layA
  split
  · rename_i h
    simp only [Bool.and_eq_true] at h
    exact .inl (layC_ok ((okC_iff c).1 h.1.1) h.1.2 h.2)
  · exact .inr rfl
theorem newOk {M : List Int} (h : wordsB M 256 = true) : OkC ⟨M, lns newL⟩ := by
  obtain ⟨h1, h2⟩ := wordsB_true h
  refine ⟨h1, h2, rfl, okLns_of (p := 4) (fun i hi => ?_) (Nat.le_refl 4)⟩
  rcases i with _ | _ | _ | _ | i
  · exact ln0_ok _ _
  · exact ln0_ok _ _
  · exact ln0_ok _ _
  · exact ln0_ok _ _
  · omega
theorem okA_new (M : List Int) : OkA (newC7 M) := by
  unfold newC7
  split
  · rename_i h
    exact .inl (newOk h)
  · exact .inr rfl
theorem VcH7.apart {B : Nat} {L : List Nat} {u u' : World} {M : List Int} {X : List La} {aM aL : Option Addr} (h : VcH7 B u M X aM aL) (f : But L u u') (hn : ∀ m, m ∈ kbl M X aM aL → m ∉ L) : VcH7 B u' M X aM aL := by
  refine ⟨h.rM.but' f (fun k hk => hn k (List.mem_append_left _ hk)), fun h0 => ?_, h.w.but f (fun i hi k hk => hn k (List.mem_append_right _ (List.mem_append_right _ (wbks_mem hi hk)))), h.pL, h.pM⟩
  obtain ⟨g, e, hb, r⟩ := h.rL h0
  exact ⟨g, e, hb, r.but f (hn g (List.mem_append_right _ (List.mem_append_left _ (by rw [e]; exact bkS_mem (b := ⟨g, 0, none⟩) h0))))⟩
theorem ch_inj {M M' : List Int} {X X' : List La} {c : Ch} (h : c = ⟨M, lns X⟩) (h' : c = ⟨M', lns X'⟩) : M = M' ∧ lns X = lns X' := by
  rw [h] at h'
  injection h' with h1 h2
  exact ⟨h1, h2⟩
theorem few_lns {M : List Int} {X X' : List La} (h : FewT M X) (e : lns X = lns X') : FewT M X' := by
  have hl : X'.length = X.length := by have e1 := congrArg List.length e; simpa [lns] using e1.symm
  have hs : ∀ n, sumW X' n = sumW X n := fun n => by
    induction n with
    | zero => rfl
    | succ n ih => simp only [sumW]; rw [ih, ← lns_get X', ← lns_get X, e]
  exact ⟨by rw [hl, hs]; exact h.T⟩

end Go.Proofs.Ytoacgjjpipdkjaa
