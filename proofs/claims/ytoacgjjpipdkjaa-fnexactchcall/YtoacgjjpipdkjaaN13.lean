/- The model's NamPut, NamFree. -/
import Derived.Test.YtoacgjjpipdkjaaN12
import Derived.Test.YtoacgjjpipdkjaaN7
import Derived.Test.YtoacgjjpipdkjaaPl4
import Derived.Test.YtoacgjjpipdkjaaN9
namespace Go.Proofs.Ytoacgjjpipdkjaa
open Go.RowKit
set_option linter.unusedVariables false
set_option linter.unusedSimpArgs false
theorem own_rc {B : Nat} {u : World} {v : Value} {n : Nat} {xs : List Int} (h : u.ownsRow B 3 1 v n (xs.map (Value.int .i64))) (h0 : 0 < xs.length) : ∃ g c, v = .slice (some ⟨g, 0, none⟩) xs.length c ∧ B ≤ g ∧ Ro u g xs ∧ Ca u g xs.length c := by
  have hl : xs.length = n := by simpa using h.1
  rcases h.2 with ⟨_, hn⟩ | ⟨g, c, cur, rfl, hB, hg, hc, hm, hs, _⟩
  · omega
  · subst hl
    exact ⟨g, c, rfl, hB, (ro_own h).1, cur, hg, by simpa using hs, hc, hm⟩
/-- append of one number onto a row that is owned, or empty. -/
theorem wp_append_rc {o : Oper} {a : Act} {w : World} {K : Act → World → Prop} {Q : Exit → Act → World → Prop} (s x : Operand) (ho : o.op = .call { callee := .builtin .append, args := #[s, x], argTypes := #[22, 22] })
    (B : Nat) (xs : List Int) (ao : Option Addr) (c : Nat) (hs : a.eval s = .slice ao xs.length c) (hr : Rc B w xs ao c) (v0 : Int) (gx : Nat) (hx : a.eval x = .slice (some ⟨gx, 0, none⟩) 1 1) (hcell : w.cell? ⟨gx, 0, none⟩ = some (.int .i64 v0)) (hlen : xs.length ≤ 1000) (hB : B ≤ w.heap.size)
    (h : ∀ g c' w', Ro w' g (xs ++ [v0]) → Ca w' g (xs ++ [v0]).length c' → B ≤ g → ((0 < xs.length ∧ ao = some ⟨g, 0, none⟩) ∨ w.heap.size ≤ g) → But (bkS xs.length ao) w w' → K (a.put o.dst (.slice (some ⟨g, 0, none⟩) (xs ++ [v0]).length c')) w') : o.wp Try.prog a w K Q := by
  obtain ⟨i0, hi, hz0, hz1, hz2⟩ := info_parts info_intV
  have hcs : ∀ (j : Nat) u, ([Value.int .i64 v0] : List Value)[j]? = some u → w.cell? ((⟨gx, 0, none⟩ : Addr).add j) = some u := fun j u hu => by
    rcases j with _ | j
    · simp at hu; rw [← hu]; simpa [Addr.add] using hcell
    · simp at hu
  have hl1 : (xs ++ [v0]).length = xs.length + 1 := by simp
  have fromOwn : ∀ (v : Value), v = .slice ao xs.length c → w.ownsRow B 3 1 v xs.length (xs.map (Value.int .i64)) → (∀ k, v.ownBlock = some k → (0 < xs.length ∧ ao = some ⟨k, 0, none⟩)) → o.wp Try.prog a w K Q := fun v hv how hbk => by
    refine wp_append_own_at (P := Try.prog) w s x 22 ho B 3 i0 (.int .i64 0) 1 8 Try.underlying22 hi hz0 hz1 hz2 rfl (by decide) v xs.length (xs.map (Value.int .i64)) (hs.trans hv.symm) how ⟨gx, 0, none⟩ 1 1 [.int .i64 v0] hx rfl hcs (by simp [Value.oneCell']) (by have : maxLen = 9223372036854775807 := rfl; omega) (by omega) hB ?_
    intro v' w' ho' hg hb
    rw [show xs.map (Value.int .i64) ++ [Value.int .i64 v0] = (xs ++ [v0]).map (Value.int .i64) by simp] at ho'
    obtain ⟨g, c', rfl, hBg, r, ca⟩ := own_rc ho' (by simp)
    have hbb : v.ownBlock = some g ∨ w.heap.size ≤ g := by
      rcases hb with hb | hb
      · exact .inl hb.symm
      · right; simp only [Value.ownBlock, Option.some.injEq] at hb; omega
    refine h g c' w' r ca hBg (hbb.imp (fun hb => hbk g hb) (fun hb => hb)) ?_
    cases hvb : v.ownBlock with
    | none => rw [hvb] at hg; exact (but_grown0 hg).mono (fun k hk _ => by cases hk)
    | some k =>
      rw [hvb] at hg
      obtain ⟨h0, e⟩ := hbk k hvb
      refine (but_grown hg).mono (fun j hj _ => ?_)
      rw [List.mem_singleton.1 hj, e]
      exact bkS_mem (b := ⟨k, 0, none⟩) h0
  rcases hr with ⟨h0, hc⟩ | ⟨g, e, hBg, r, ca, h0⟩
  · cases ao with
    | none => exact fromOwn (.slice none 0 0) (by rw [h0, hc]) ⟨by simp [h0], .inl ⟨rfl, h0⟩⟩ (fun k hk => by simp [Value.ownBlock] at hk)
    | some ad =>
      have hx0 : xs = [] := List.length_eq_zero_iff.1 h0
      refine wp_append_new (P := Try.prog) s x 22 ho 3 i0 (.int .i64 0) Try.underlying22 hi hz0 hz1 hz2 ad (by rw [hs, h0, hc]) ⟨gx, 0, none⟩ 1 1 [.int .i64 v0] hx rfl hcs (by simp [Value.oneCell']) (by omega) (by omega) ?_
      intro cap zs hzs
      have h2 := h w.heap.size cap (w.drew.alloc (.cells (([v0].map (Value.int .i64)).toArray ++ zs) 3)) (by rw [hx0]; exact ro_new w.drew [v0] zs _) (by rw [hx0]; exact ca_new w.drew [v0] zs cap (hzs rfl)) hB (.inr (Nat.le_refl _)) (by
        have := (But.of ((Below.drew (Below.refl w.heap.size w)).alloc (Nat.le_refl _) (.cells (([v0].map (Value.int .i64)).toArray ++ zs) 3)) : But [] w _)
        exact But.of ((Below.drew (Below.refl w.heap.size w)).alloc (Nat.le_refl _) _))
      rw [hx0] at h2
      exact h2
  · exact fromOwn (.slice (some ⟨g, 0, none⟩) xs.length c) (by rw [e]) (ca_own ca r hBg) (fun k hk => by simp only [Value.ownBlock, Option.some.injEq] at hk; subst hk; exact ⟨h0, e⟩)
end Go.Proofs.Ytoacgjjpipdkjaa
