/- Caches copied, of the model. A line written back and let go, of the model. -/
import Derived.Test.YtoacgjjpipdkjaaK6
import Derived.Test.YtoacgjjpipdkjaaNb0
namespace Go.Proofs.Ytoacgjjpipdkjaa
open Go.RowKit
set_option linter.unusedVariables false
set_option linter.unusedSimpArgs false
/-- A line's words have just as much room as their slice says. -/
def Rm (u : World) (l : La) : Prop := (l.n.W.length = 0 ∧ l.c = 0) ∨ ∃ g, l.a = some ⟨g, 0, none⟩ ∧ Ca u g l.n.W.length l.c ∧ 0 < l.n.W.length
theorem Rm.but {L : List Nat} {u u' : World} {l : La} (h : Rm u l) (f : But L u u') (hn : ∀ m, m ∈ wbk l → m ∉ L) : Rm u' l := by
  rcases h with h | ⟨g, e, c, h0⟩
  · exact .inl h
  · exact .inr ⟨g, e, c.but f (hn g (by show g ∈ bkS l.n.W.length l.a; rw [e]; exact bkS_mem (b := ⟨g, 0, none⟩) h0)), h0⟩
theorem Rm.fr {u u' : World} {l : La} (h : Rm u l) (f : Fr u u') : Rm u' l := h.but (L := []) (But.of f) (fun _ _ => by simp)
theorem Rc.rm {B : Nat} {u : World} {l : Ln} {ao : Option Addr} {c : Nat} (h : Rc B u l.W ao c) : Rm u ⟨l, ao, c⟩ := by
  rcases h with h | ⟨g, e, _, _, k, h0⟩
  · exact .inl h
  · exact .inr ⟨g, e, k, h0⟩
/-- A cache's rows have just as much room as their slices say. -/
structure RmC (u : World) (M : List Int) (X : List La) (aM : Option Addr) (cM cL : Nat) : Prop where
  le : M.length ≤ cM
  rM : (M.length = 0 ∧ cM = 0) ∨ ∃ g, aM = some ⟨g, 0, none⟩ ∧ Ca u g M.length cM ∧ 0 < M.length
  rW : ∀ i, i < X.length → Rm u (X.getD i la0)
  lL : X.length ≤ cL
theorem RmC.but {L : List Nat} {u u' : World} {M : List Int} {X : List La} {aM : Option Addr} {cM cL : Nat} (h : RmC u M X aM cM cL) (f : But L u u') (hM : ∀ m, m ∈ bkS M.length aM → m ∉ L) (hW : ∀ i, i < X.length → ∀ m, m ∈ wbk (X.getD i la0) → m ∉ L) : RmC u' M X aM cM cL := by
  refine ⟨h.le, ?_, fun i hi => (h.rW i hi).but f (hW i hi), h.lL⟩
  rcases h.rM with h | ⟨g, e, c, h0⟩
  · exact .inl h
  · exact .inr ⟨g, e, c.but f (hM g (by rw [e]; exact bkS_mem (b := ⟨g, 0, none⟩) h0)), h0⟩
theorem RmC.fr {u u' : World} {M : List Int} {X : List La} {aM : Option Addr} {cM cL : Nat} (h : RmC u M X aM cM cL) (f : Fr u u') : RmC u' M X aM cM cL := h.but (L := []) (But.of f) (fun _ _ => by simp) (fun _ _ _ _ => by simp)
theorem RmC.nil (u : World) : RmC u [] [] none 0 0 := ⟨Nat.le_refl _, .inl ⟨rfl, rfl⟩, fun i hi => absurd hi (Nat.not_lt_zero _), Nat.le_refl _⟩
theorem RcL.bk {B : Nat} {u : World} {X : List La} {ao : Option Addr} {c : Nat} (h : RcL B u X ao c) (g : Nat) (e : ao = some ⟨g, 0, none⟩) : B ≤ g ∧ g < u.heap.size := by
  rcases h with ⟨_, _, h⟩ | ⟨g', e', hB, r, _⟩
  · rw [h] at e; cases e
  · rw [e'] at e
    cases e
    exact ⟨hB, r.lt⟩
/-- m is a block of the cache. -/
def KB (X : List La) (gM gL m : Nat) : Prop := m = gM ∨ m = gL ∨ ∃ i, i < X.length ∧ m ∈ wbk (X.getD i la0)
theorem OwK.lt {B : Nat} {u : World} {M : List Int} {X : List La} {gM gL : Nat} (h : OwK B u M X gM gL) : ∀ m, KB X gM gL m → B ≤ m ∧ m < u.heap.size := fun m hm => by
  rcases hm with rfl | rfl | ⟨i, hi, hm⟩
  · exact ⟨h.b, h.M.lt⟩
  · exact ⟨h.L.b, h.L.r.lt⟩
  · exact h.L.w.bk i hi m hm
theorem OwK.but' {B : Nat} {L : List Nat} {u u' : World} {M : List Int} {X : List La} {gM gL : Nat} (h : OwK B u M X gM gL) (f : But L u u') (hL : ∀ m, KB X gM gL m → m ∉ L) : OwK B u' M X gM gL :=
  ⟨h.b, h.M.but f (hL gM (.inl rfl)), h.L.but f (hL gL (.inr (.inl rfl))) (fun i hi m hm => hL m (.inr (.inr ⟨i, hi, hm⟩))), h.ap, h.aw⟩
theorem la0_wbk : wbk la0 = [] := by simp [bkS]
theorem OwK.zero {B : Nat} {u : World} {M : List Int} {X : List La} {gM gL : Nat} (h : OwK B u M X gM gL) (k : Nat) (hk : k < X.length) : OwK B (u.setCells gL (k * 4) (lac la0)) M (X.set k la0) gM gL :=
  h.setL k la0 hk (Vc.nil _ _ _ _) (by rw [la0_wbk]; simp) (by rw [la0_wbk]; simp) (fun i _ _ m hm => by rw [la0_wbk] at hm; cases hm)
end Go.Proofs.Ytoacgjjpipdkjaa
