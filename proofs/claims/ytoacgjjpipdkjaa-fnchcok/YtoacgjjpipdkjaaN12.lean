/- Places copied, of the model. The model's NamPut, NamFree. -/
import Derived.Test.YtoacgjjpipdkjaaN7
namespace Go.Proofs.Ytoacgjjpipdkjaa
open Go.RowKit
set_option linter.unusedVariables false
set_option linter.unusedSimpArgs false
/-- A copy of places that was handed over: four rows apart, of which the second may be none. -/
structure OwC (B : Nat) (u : World) (x : Nm) (g1 : Nat) (aF : Option Addr) (cF g3 g4 : Nat) : Prop where
  b1 : B ≤ g1
  b3 : B ≤ g3
  b4 : B ≤ g4
  M : Ro u g1 x.M
  F : Rc B u x.F aF cF
  V : Ro u g3 x.V
  H : RoB u g4 x.H
  a13 : g1 ≠ g3
  a14 : g1 ≠ g4
  a34 : g3 ≠ g4
  aF : ∀ g, aF = some ⟨g, 0, none⟩ → 0 < x.F.length → g1 ≠ g ∧ g3 ≠ g ∧ g4 ≠ g
theorem rc_bk {B : Nat} {u : World} {xs : List Int} {ao : Option Addr} {c k : Nat} (h : Rc B u xs ao c) (hk : k ∈ bkS xs.length ao) : ∃ g, ao = some ⟨g, 0, none⟩ ∧ 0 < xs.length ∧ k = g := by
  obtain ⟨h0, b, e, rfl⟩ := mem_bkS hk
  rcases h with ⟨h1, _⟩ | ⟨g, e2, _⟩
  · omega
  · rw [e] at e2
    cases e2
    exact ⟨g, e, h0, rfl⟩
theorem OwC.vc {B : Nat} {u : World} {x : Nm} {g1 : Nat} {aF : Option Addr} {cF g3 g4 : Nat} (h : OwC B u x g1 aF cF g3 g4) : VcNm B u x (some ⟨g1, 0, none⟩) aF (some ⟨g3, 0, none⟩) (some ⟨g4, 0, none⟩) := by
  refine VcNm.mk' (vo_ro h.M h.b1) h.F.vc.vo (vo_ro h.V h.b3) (vo_rob h.H h.b4) (fun k h1 h2 => ?_) (bkS_ap h.a13) (bkS_ap h.a14) (fun k h1 h2 => ?_) (fun k h1 h2 => ?_) (bkS_ap h.a34)
  · obtain ⟨g, e, h0, rfl⟩ := rc_bk h.F h2
    exact (h.aF _ e h0).1 (bkS_new h1).symm
  · obtain ⟨g, e, h0, rfl⟩ := rc_bk h.F h1
    exact (h.aF _ e h0).2.1 (bkS_new h2).symm
  · obtain ⟨g, e, h0, rfl⟩ := rc_bk h.F h1
    exact (h.aF _ e h0).2.2 (bkS_new h2).symm
theorem OwC.src {B : Nat} {u : World} {x : Nm} {g1 : Nat} {aF : Option Addr} {cF g3 g4 : Nat} (h : OwC B u x g1 aF cF g3 g4) : SrcN u x (some ⟨g1, 0, none⟩) aF (some ⟨g3, 0, none⟩) (some ⟨g4, 0, none⟩) := h.vc.src
theorem OwC.mono {B B' : Nat} {u : World} {x : Nm} {g1 : Nat} {aF : Option Addr} {cF g3 g4 : Nat} (h : OwC B u x g1 aF cF g3 g4) (hB : B' ≤ B) : OwC B' u x g1 aF cF g3 g4 :=
  ⟨by have := h.b1; omega, by have := h.b3; omega, by have := h.b4; omega, h.M, h.F.mono hB, h.V, h.H, h.a13, h.a14, h.a34, h.aF⟩
/-- What lies below turns nothing of it. -/
theorem OwC.but {B : Nat} {L : List Nat} {u u' : World} {x : Nm} {g1 : Nat} {aF : Option Addr} {cF g3 g4 : Nat} (h : OwC B u x g1 aF cF g3 g4) (f : But L u u') (hL : ∀ k, k ∈ L → k < B) : OwC B u' x g1 aF cF g3 g4 :=
  ⟨h.b1, h.b3, h.b4, h.M.but f (fun hm => by have := hL _ hm; have := h.b1; omega), h.F.but f hL, h.V.but f (fun hm => by have := hL _ hm; have := h.b3; omega), h.H.but f (fun hm => by have := hL _ hm; have := h.b4; omega), h.a13, h.a14, h.a34, h.aF⟩
theorem own_rc {B : Nat} {u : World} {v : Value} {n : Nat} {xs : List Int} (h : u.ownsRow B 3 1 v n (xs.map (Value.int .i64))) (h0 : 0 < xs.length) : ∃ g c, v = .slice (some ⟨g, 0, none⟩) xs.length c ∧ B ≤ g ∧ Ro u g xs ∧ Ca u g xs.length c := by
  have hl : xs.length = n := by simpa using h.1
  rcases h.2 with ⟨_, hn⟩ | ⟨g, c, cur, rfl, hB, hg, hc, hm, hs, _⟩
  · omega
  · subst hl
    exact ⟨g, c, rfl, hB, (ro_own h).1, cur, hg, by simpa using hs, hc, hm⟩
/-- append of one number onto a row that is owned, or empty. -/
theorem wp_append_rc {o : Oper} {a : Act} {w : World} {K : Act → World → Prop} {Q : Exit → Act → World → Prop} (s x : Operand) (ho : o.op = .call { callee := .builtin .append, args := #[s, x], argTypes := #[22, 22] })
    (B : Nat) (xs : List Int) (ao : Option Addr) (c : Nat) (hs : a.eval s = .slice ao xs.length c) (hr : Rc B w xs ao c) (v0 : Int) (gx : Nat) (hx : a.eval x = .slice (some ⟨gx, 0, none⟩) 1 1) (hcell : w.cell? ⟨gx, 0, none⟩ = some (.int .i64 v0)) (hlen : xs.length ≤ 1000) (hB : B ≤ w.heap.size)
    (h : ∀ g c' w', Ro w' g (xs ++ [v0]) → Ca w' g (xs ++ [v0]).length c' → B ≤ g → ((0 < xs.length ∧ ao = some ⟨g, 0, none⟩) ∨ w.heap.size ≤ g) → But (bkS xs.length ao) w w' → K (a.put o.dst (.slice (some ⟨g, 0, none⟩) (xs ++ [v0]).length c')) w') : o.wp Try.prog a w K Q := by
  obtain ⟨i0, hi, hz0, hz1, hz2⟩ := info_parts info_intV
  have hcs : ∀ (j : Nat) u, ([Value.int .i64 v0] : List Value)[j]? = some u → w.cell? ((⟨gx, 0, none⟩ : Addr).add j) = some u := fun j u hu => by
    rcases j with _ | j
    · simp at hu; rw [← hu]; simpa [Addr.add] using hcell
    · simp at hu
  have hl1 : (xs ++ [v0]).length = xs.length + 1 := by simp
  have fromOwn : ∀ (v : Value), v = .slice ao xs.length c → w.ownsRow B 3 1 v xs.length (xs.map (Value.int .i64)) → (∀ k, v.ownBlock = some k → (0 < xs.length ∧ ao = some ⟨k, 0, none⟩)) → o.wp Try.prog a w K Q := fun v hv how hbk => by
    refine wp_append_own_at (P := Try.prog) w s x 22 ho B 3 i0 (.int .i64 0) 1 8 Try.underlying22 hi hz0 hz1 hz2 rfl (by decide) v xs.length (xs.map (Value.int .i64)) (hs.trans hv.symm) how ⟨gx, 0, none⟩ 1 1 [.int .i64 v0] hx rfl hcs (by simp [Value.oneCell']) (by have : maxLen = 9223372036854775807 := rfl; omega) (by omega) hB ?_
    intro v' w' ho' hg hb
    rw [show xs.map (Value.int .i64) ++ [Value.int .i64 v0] = (xs ++ [v0]).map (Value.int .i64) by simp] at ho'
    obtain ⟨g, c', rfl, hBg, r, ca⟩ := own_rc ho' (by simp)
    have hbb : v.ownBlock = some g ∨ w.heap.size ≤ g := by
      rcases hb with hb | hb
      · exact .inl hb.symm
      · right; simp only [Value.ownBlock, Option.some.injEq] at hb; omega
    refine h g c' w' r ca hBg (hbb.imp (fun hb => hbk g hb) (fun hb => hb)) ?_
    cases hvb : v.ownBlock with
    | none => rw [hvb] at hg; exact (but_grown0 hg).mono (fun k hk _ => by cases hk)
    | some k =>
      rw [hvb] at hg
      obtain ⟨h0, e⟩ := hbk k hvb
      refine (but_grown hg).mono (fun j hj _ => ?_)
      rw [List.mem_singleton.1 hj, e]
      exact bkS_mem (b := ⟨k, 0, none⟩) h0
  rcases hr with ⟨h0, hc⟩ | ⟨g, e, hBg, r, ca, h0⟩
  · cases ao with
    | none => exact fromOwn (.slice none 0 0) (by rw [h0, hc]) ⟨by simp [h0], .inl ⟨rfl, h0⟩⟩ (fun k hk => by simp [Value.ownBlock] at hk)
    | some ad =>
      have hx0 : xs = [] := List.length_eq_zero_iff.1 h0
      refine wp_append_new (P := Try.prog) s x 22 ho 3 i0 (.int .i64 0) Try.underlying22 hi hz0 hz1 hz2 ad (by rw [hs, h0, hc]) ⟨gx, 0, none⟩ 1 1 [.int .i64 v0] hx rfl hcs (by simp [Value.oneCell']) (by omega) (by omega) ?_
      intro cap zs hzs
      have h2 := h w.heap.size cap (w.drew.alloc (.cells (([v0].map (Value.int .i64)).toArray ++ zs) 3)) (by rw [hx0]; exact ro_new w.drew [v0] zs _) (by rw [hx0]; exact ca_new w.drew [v0] zs cap (hzs rfl)) hB (.inr (Nat.le_refl _)) (by
        have := (But.of ((Below.drew (Below.refl w.heap.size w)).alloc (Nat.le_refl _) (.cells (([v0].map (Value.int .i64)).toArray ++ zs) 3)) : But [] w _)
        exact But.of ((Below.drew (Below.refl w.heap.size w)).alloc (Nat.le_refl _) _))
      rw [hx0] at h2
      exact h2
  · exact fromOwn (.slice (some ⟨g, 0, none⟩) xs.length c) (by rw [e]) (ca_own ca r hBg) (fun k hk => by simp only [Value.ownBlock, Option.some.injEq] at hk; subst hk; exact ⟨h0, e⟩)
/-- A place more is free. -/
theorem OwC.app {B : Nat} {u u' : World} {x : Nm} {g1 : Nat} {aF : Option Addr} {cF g3 g4 : Nat} (h : OwC B u x g1 aF cF g3 g4) {p : Int} {g cf : Nat} (r : Ro u' g (x.F ++ [p])) (k : Ca u' g (x.F ++ [p]).length cf) (hB : B ≤ g) (hg : (0 < x.F.length ∧ aF = some ⟨g, 0, none⟩) ∨ u.heap.size ≤ g) (f : But (bkS x.F.length aF) u u') : OwC B u' ⟨x.M, x.F ++ [p], x.V, x.H⟩ g1 (some ⟨g, 0, none⟩) cf g3 g4 := by
  have n1 : g1 ∉ bkS x.F.length aF := fun hm => by obtain ⟨g', e, h0, hh⟩ := rc_bk h.F hm; exact (h.aF g' e h0).1 hh
  have n3 : g3 ∉ bkS x.F.length aF := fun hm => by obtain ⟨g', e, h0, hh⟩ := rc_bk h.F hm; exact (h.aF g' e h0).2.1 hh
  have n4 : g4 ∉ bkS x.F.length aF := fun hm => by obtain ⟨g', e, h0, hh⟩ := rc_bk h.F hm; exact (h.aF g' e h0).2.2 hh
  have l1 := h.M.lt
  have l3 := h.V.lt
  have l4 := h.H.lt
  refine ⟨h.b1, h.b3, h.b4, h.M.but f n1, .inr ⟨g, rfl, hB, r, k, by simp⟩, h.V.but f n3, h.H.but f n4, h.a13, h.a14, h.a34, fun q hq _ => ?_⟩
  cases hq
  rcases hg with ⟨h0, e⟩ | hg
  · exact h.aF g e h0
  · omega
end Go.Proofs.Ytoacgjjpipdkjaa
