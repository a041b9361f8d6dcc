/- Caches marked by the laws, and held. Whole caches marked by the laws, and held. A cache that came in. Answers that are caches: not too long; where they lie. -/
import Derived.Test.YtoacgjjpipdkjaaK20
import Derived.Test.YtoacgjjpipdkjaaOpenGue
namespace Go.Proofs.Ytoacgjjpipdkjaa
open Go.RowKit
set_option linter.unusedVariables false
set_option linter.unusedSimpArgs false
def ints (q : Int) (n : Nat) : List Int := (List.range n).map fun i : Nat => q + (i : Int)
theorem ints_len (q : Int) (n : Nat) : (ints q n).length = n := by simp [ints]
/-- A line, marked from q on. -/
def mkLn7 (q : Int) (n : Nat) : Ln := ⟨q % 3 == 0, q + 1, (q + 1 + 1) % 3 == 0, ints (q + 1 + 1 + 1) n⟩
def mkX7 (k : Int) (X : List La) (i : Nat) : La := ⟨mkLn7 (k + 3 * i + sumW X i) (X.getD i la0).n.W.length, (X.getD i la0).a, (X.getD i la0).c⟩
def mkY7 (k : Int) (X : List La) (p : Nat) : List La := (List.range X.length).map fun i => if i < p then mkX7 k X i else X.getD i la0
theorem mkY_len (k : Int) (X : List La) (p : Nat) : (mkY7 k X p).length = X.length := by simp [mkY7]
theorem mkY_get (k : Int) (X : List La) (p i : Nat) (hi : i < X.length) : (mkY7 k X p).getD i la0 = if i < p then mkX7 k X i else X.getD i la0 := by simp [mkY7, List.getD_eq_getElem?_getD, hi]
theorem mkX_wbk (k : Int) (X : List La) (i : Nat) : wbk (mkX7 k X i) = wbk (X.getD i la0) := by
  show bkS _ _ = bkS _ _
  simp [mkX7, mkLn7, ints_len]
theorem mkY_wbk (k : Int) (X : List La) (p i : Nat) (hi : i < X.length) : wbk ((mkY7 k X p).getD i la0) = wbk (X.getD i la0) := by
  rw [mkY_get _ _ _ _ hi]
  split
  · exact mkX_wbk k X i
  · rfl
/-- All blocks of lines' words. -/
def wbks (X : List La) : List Nat := X.flatMap wbk
theorem wbks_mem {X : List La} {i m : Nat} (hi : i < X.length) (h : m ∈ wbk (X.getD i la0)) : m ∈ wbks X := by
  refine List.mem_flatMap.2 ⟨X.getD i la0, ?_, h⟩
  rw [List.getD_eq_getElem?_getD, List.getElem?_eq_getElem hi]
  exact List.getElem_mem hi
theorem mem_wbks {X : List La} {m : Nat} (h : m ∈ wbks X) : ∃ i, i < X.length ∧ m ∈ wbk (X.getD i la0) := by
  obtain ⟨l, hl, hm⟩ := List.mem_flatMap.1 h
  obtain ⟨i, hi, rfl⟩ := List.mem_iff_getElem.1 hl
  exact ⟨i, hi, by rw [List.getD_eq_getElem?_getD, List.getElem?_eq_getElem hi]; exact hm⟩
/-- All blocks of a cache. -/
def kbl (M : List Int) (X : List La) (aM aL : Option Addr) : List Nat := bkS M.length aM ++ (bkS X.length aL ++ wbks X)
theorem VcH7.bl {B : Nat} {u : World} {M : List Int} {X : List La} {aM aL : Option Addr} (h : VcH7 B u M X aM aL) : ∀ m, m ∈ kbl M X aM aL → B ≤ m ∧ m < u.heap.size := fun m hm => by
  rcases List.mem_append.1 hm with hm | hm
  · exact h.rM.bk m hm
  · rcases List.mem_append.1 hm with hm | hm
    · obtain ⟨h0, b, e, rfl⟩ := mem_bkS hm
      obtain ⟨g, e', hB, r⟩ := h.rL h0
      rw [e] at e'
      cases e'
      exact ⟨hB, r.lt⟩
    · obtain ⟨i, hi, hm⟩ := mem_wbks hm
      exact h.w.bk i hi m hm
structure VcM7 (B : Nat) (u : World) (k : Int) (M : List Int) (X : List La) (aM aL : Option Addr) : Prop where
  rM : Vc B u M.length (fun i => .int .i64 (k + (i : Int))) aM
  rL : SrcL u (mkY7 (k + M.length) X X.length) aL
  bl : ∀ m, m ∈ kbl M X aM aL → B ≤ m ∧ m < u.heap.size
theorem SrcL.but {L : List Nat} {u u' : World} {X : List La} {ao : Option Addr} (h : SrcL u X ao) (f : But L u u') (h1 : ∀ m, m ∈ bkS X.length ao → m ∉ L) (h2 : ∀ i, i < X.length → ∀ m, m ∈ wbk (X.getD i la0) → m ∉ L) : SrcL u' X ao := by
  refine ⟨fun h0 => ?_, fun i hi h0 => ?_⟩
  · obtain ⟨g, o, e, hl, hc⟩ := h.at0 h0
    have hg : g ∉ L := h1 g (by rw [e]; exact bkS_mem (b := ⟨g, o, none⟩) h0)
    exact ⟨g, o, e, Nat.lt_of_lt_of_le hl f.size, range_but hc f hl hg⟩
  · obtain ⟨g, o, e, hl, hc⟩ := h.wd i hi h0
    have hg : g ∉ L := h2 i hi g (by show g ∈ bkS _ _; rw [e]; exact bkS_mem (b := ⟨g, o, none⟩) h0)
    exact ⟨g, o, e, Nat.lt_of_lt_of_le hl f.size, fun j hj => by rw [f.cell hl hg]; exact hc j hj⟩
theorem VcM7.but {B : Nat} {L : List Nat} {u u' : World} {k : Int} {M : List Int} {X : List La} {aM aL : Option Addr} (h : VcM7 B u k M X aM aL) (f : But L u u') (hn : ∀ m, m ∈ kbl M X aM aL → m ∉ L) : VcM7 B u' k M X aM aL := by
  refine ⟨h.rM.but' f (fun m hm => hn m (List.mem_append_left _ hm)), h.rL.but f (fun m hm => hn m ?_) (fun i hi m hm => hn m ?_), fun m hm => ⟨(h.bl m hm).1, Nat.lt_of_lt_of_le (h.bl m hm).2 f.size⟩⟩
  · rw [mkY_len] at hm
    exact List.mem_append_right _ (List.mem_append_left _ hm)
  · rw [mkY_len] at hi
    rw [mkY_wbk _ _ _ _ hi] at hm
    exact List.mem_append_right _ (List.mem_append_right _ (wbks_mem hi hm))
theorem VcM7.fr {B : Nat} {u u' : World} {k : Int} {M : List Int} {X : List La} {aM aL : Option Addr} (h : VcM7 B u k M X aM aL) (f : Fr u u') : VcM7 B u' k M X aM aL := h.but (L := []) (But.of f) (fun _ _ => by simp)
open Go.ChangeShapes Go.WideShapes Go.ChangeAt Go.RowKit
/-- An answer: a cache that is ok, or none. -/
def OkA (c : Ch) : Prop := OkC c ∨ c = ch0
theorem okA_few {c : Ch} (h : OkA c) {M : List Int} {X : List La} (e : c = ⟨M, lns X⟩) : FewT M X := by
  rcases h with h | h
  · subst e
    have hl : X.length = 4 := by have := h.Ll; simpa using this
    have hW : ∀ i, i < 4 → (X.getD i la0).n.W.length ≤ 4 := fun i hi => by
      have := okLns_at h.L i (by rw [h.Ll]; exact hi)
      rw [show (Ch.mk M (lns X)).L = lns X from rfl, lns_get] at this
      exact okLn_W this
    have h0 := hW 0 (by omega)
    have h1 := hW 1 (by omega)
    have h2 := hW 2 (by omega)
    have h3 := hW 3 (by omega)
    have hM : M.length = 256 := h.Ml
    refine ⟨?_⟩
    rw [hl, hM]
    simp only [sumW]
    omega
  · rw [h] at e
    injection e with e1 e2
    have hX : X = [] := by simpa [lns] using e2.symm
    subst e1 hX
    exact ⟨by simp [sumW]⟩
theorem VcH7.apart {B : Nat} {L : List Nat} {u u' : World} {M : List Int} {X : List La} {aM aL : Option Addr} (h : VcH7 B u M X aM aL) (f : But L u u') (hn : ∀ m, m ∈ kbl M X aM aL → m ∉ L) : VcH7 B u' M X aM aL := by
  refine ⟨h.rM.but' f (fun k hk => hn k (List.mem_append_left _ hk)), fun h0 => ?_, h.w.but f (fun i hi k hk => hn k (List.mem_append_right _ (List.mem_append_right _ (wbks_mem hi hk)))), h.pL, h.pM⟩
  obtain ⟨g, e, hb, r⟩ := h.rL h0
  exact ⟨g, e, hb, r.but f (hn g (List.mem_append_right _ (List.mem_append_left _ (by rw [e]; exact bkS_mem (b := ⟨g, 0, none⟩) h0))))⟩
end Go.Proofs.Ytoacgjjpipdkjaa
