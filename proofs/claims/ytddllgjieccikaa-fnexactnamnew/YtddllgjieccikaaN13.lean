/- The model's NamPut, NamFree. -/
import Derived.Test.YtddllgjieccikaaN12
import Derived.Test.YtddllgjieccikaaN11
namespace Go.Proofs.Ytddllgjieccikaa
open Go.RowKit
set_option linter.unusedVariables false
set_option linter.unusedSimpArgs false
theorem own_rc {B : Nat} {u : World} {v : Value} {n : Nat} {xs : List Int} (h : u.ownsRow B 3 1 v n (xs.map (Value.int .i64))) (h0 : 0 < xs.length) : ∃ g c, v = .slice (some ⟨g, 0, none⟩) xs.length c ∧ B ≤ g ∧ Ro u g xs ∧ Ca u g xs.length c := by
  have hl : xs.length = n := by simpa using h.1
  rcases h.2 with ⟨_, hn⟩ | ⟨g, c, cur, rfl, hB, hg, hc, hm, hs, _⟩
  · omega
  · subst hl
    exact ⟨g, c, rfl, hB, (ro_own h).1, cur, hg, by simpa using hs, hc, hm⟩
/-- append of one number onto a row that is owned, or empty. -/
theorem wp_append_rc {o : Oper} {a : Act} {w : World} {K : Act → World → Prop} {Q : Exit → Act → World → Prop} (s x : Operand) (ho : o.op = .call { callee := .builtin .append, args := #[s, x], argTypes := #[22, 22] })
    (B : Nat) (xs : List Int) (ao : Option Addr) (c : Nat) (hs : a.eval s = .slice ao xs.length c) (hr : Rc B w xs ao c) (v0 : Int) (gx : Nat) (hx : a.eval x = .slice (some ⟨gx, 0, none⟩) 1 1) (hcell : w.cell? ⟨gx, 0, none⟩ = some (.int .i64 v0)) (hlen : xs.length ≤ 1000) (hB : B ≤ w.heap.size)
    (h : ∀ g c' w', Ro w' g (xs ++ [v0]) → Ca w' g (xs ++ [v0]).length c' → B ≤ g → ((0 < xs.length ∧ ao = some ⟨g, 0, none⟩) ∨ w.heap.size ≤ g) → But (bkS xs.length ao) w w' → K (a.put o.dst (.slice (some ⟨g, 0, none⟩) (xs ++ [v0]).length c')) w') : o.wp Try.prog a w K Q := by
  obtain ⟨i0, hi, hz0, hz1, hz2⟩ := info_parts info_intV
  have hcs : ∀ (j : Nat) u, ([Value.int .i64 v0] : List Value)[j]? = some u → w.cell? ((⟨gx, 0, none⟩ : Addr).add j) = some u := fun j u hu => by
    rcases j with _ | j
    · simp at hu; rw [← hu]; simpa [Addr.add] using hcell
    · simp at hu
  have hl1 : (xs ++ [v0]).length = xs.length + 1 := by simp
  have fromOwn : ∀ (v : Value), v = .slice ao xs.length c → w.ownsRow B 3 1 v xs.length (xs.map (Value.int .i64)) → (∀ k, v.ownBlock = some k → (0 < xs.length ∧ ao = some ⟨k, 0, none⟩)) → o.wp Try.prog a w K Q := fun v hv how hbk => by
    refine wp_append_own_at (P := Try.prog) w s x 22 ho B 3 i0 (.int .i64 0) 1 8 Try.underlying22 hi hz0 hz1 hz2 rfl (by decide) v xs.length (xs.map (Value.int .i64)) (hs.trans hv.symm) how ⟨gx, 0, none⟩ 1 1 [.int .i64 v0] hx rfl hcs (by simp [Value.oneCell']) (by have : maxLen = 9223372036854775807 := rfl; omega) (by omega) hB ?_
    intro v' w' ho' hg hb
    rw [show xs.map (Value.int .i64) ++ [Value.int .i64 v0] = (xs ++ [v0]).map (Value.int .i64) by simp] at ho'
    obtain ⟨g, c', rfl, hBg, r, ca⟩ := own_rc ho' (by simp)
    have hbb : v.ownBlock = some g ∨ w.heap.size ≤ g := by
      rcases hb with hb | hb
      · exact .inl hb.symm
      · right; simp only [Value.ownBlock, Option.some.injEq] at hb; omega
    refine h g c' w' r ca hBg (hbb.imp (fun hb => hbk g hb) (fun hb => hb)) ?_
    cases hvb : v.ownBlock with
    | none => rw [hvb] at hg; exact (but_grown0 hg).mono (fun k hk _ => by cases hk)
    | some k =>
      rw [hvb] at hg
      obtain ⟨h0, e⟩ := hbk k hvb
      refine (but_grown hg).mono (fun j hj _ => ?_)
      rw [List.mem_singleton.1 hj, e]
      exact bkS_mem (b := ⟨k, 0, none⟩) h0
  rcases hr with ⟨h0, hc⟩ | ⟨g, e, hBg, r, ca, h0⟩
  · cases ao with
    | none => exact fromOwn (.slice none 0 0) (by rw [h0, hc]) ⟨by simp [h0], .inl ⟨rfl, h0⟩⟩ (fun k hk => by simp [Value.ownBlock] at hk)
    | some ad =>
      have hx0 : xs = [] := List.length_eq_zero_iff.1 h0
      refine wp_append_new (P := Try.prog) s x 22 ho 3 i0 (.int .i64 0) Try.underlying22 hi hz0 hz1 hz2 ad (by rw [hs, h0, hc]) ⟨gx, 0, none⟩ 1 1 [.int .i64 v0] hx rfl hcs (by simp [Value.oneCell']) (by omega) (by omega) ?_
      intro cap zs hzs
      have h2 := h w.heap.size cap (w.drew.alloc (.cells (([v0].map (Value.int .i64)).toArray ++ zs) 3)) (by rw [hx0]; exact ro_new w.drew [v0] zs _) (by rw [hx0]; exact ca_new w.drew [v0] zs cap (hzs rfl)) hB (.inr (Nat.le_refl _)) (by
        have := (But.of ((Below.drew (Below.refl w.heap.size w)).alloc (Nat.le_refl _) (.cells (([v0].map (Value.int .i64)).toArray ++ zs) 3)) : But [] w _)
        exact But.of ((Below.drew (Below.refl w.heap.size w)).alloc (Nat.le_refl _) _))
      rw [hx0] at h2
      exact h2
  · exact fromOwn (.slice (some ⟨g, 0, none⟩) xs.length c) (by rw [e]) (ca_own ca r hBg) (fun k hk => by simp only [Value.ownBlock, Option.some.injEq] at hk; subst hk; exact ⟨h0, e⟩)
theorem rc_other {B : Nat} {u : World} {xs : List Int} {ao : Option Addr} {c : Nat} (h : Rc B u xs ao c) (Z j : Nat) (v : Value) (hn : ∀ g, ao = some ⟨g, 0, none⟩ → 0 < xs.length → ¬ Z = g) : Rc B (u.setCell ⟨Z, j, none⟩ v) xs ao c := by
  rcases h with h | ⟨g, e, hB, r, k, h0⟩
  · exact .inl h
  · exact .inr ⟨g, e, hB, r.other Z j v (hn g e h0), k.set Z j v, h0⟩
theorem OwC.putV {B : Nat} {u : World} {x : Nm} {g1 : Nat} {aF : Option Addr} {cF g3 g4 : Nat} (h : OwC B u x g1 aF cF g3 g4) (p : Nat) (n : Int) (hp : p < x.V.length) : OwC B (u.setCell ⟨g3, p, none⟩ (.int .i64 n)) ⟨x.M, x.F, x.V.set p n, x.H⟩ g1 aF cF g3 g4 :=
  ⟨h.b1, h.b3, h.b4, h.M.other _ _ _ h.a13.symm, rc_other h.F _ _ _ (fun g e h0 => (h.aF g e h0).2.1), h.V.set p n hp, h.H.other _ _ _ h.a34, h.a13, h.a14, h.a34, h.aF⟩
theorem OwC.putH {B : Nat} {u : World} {x : Nm} {g1 : Nat} {aF : Option Addr} {cF g3 g4 : Nat} (h : OwC B u x g1 aF cF g3 g4) (p : Nat) (n : Bool) (hp : p < x.H.length) : OwC B (u.setCell ⟨g4, p, none⟩ (.bool n)) ⟨x.M, x.F, x.V, x.H.set p n⟩ g1 aF cF g3 g4 :=
  ⟨h.b1, h.b3, h.b4, h.M.other _ _ _ h.a14.symm, rc_other h.F _ _ _ (fun g e h0 => (h.aF g e h0).2.2), h.V.other _ _ _ h.a34.symm, h.H.set p n hp, h.a13, h.a14, h.a34, h.aF⟩
theorem OwC.putM {B : Nat} {u : World} {x : Nm} {g1 : Nat} {aF : Option Addr} {cF g3 g4 : Nat} (h : OwC B u x g1 aF cF g3 g4) (p : Nat) (n : Int) (hp : p < x.M.length) : OwC B (u.setCell ⟨g1, p, none⟩ (.int .i64 n)) ⟨x.M.set p n, x.F, x.V, x.H⟩ g1 aF cF g3 g4 :=
  ⟨h.b1, h.b3, h.b4, h.M.set p n hp, rc_other h.F _ _ _ (fun g e h0 => (h.aF g e h0).1), h.V.other _ _ _ h.a13, h.H.other _ _ _ h.a14, h.a13, h.a14, h.a34, h.aF⟩
/-- A place more is free. -/
theorem OwC.app {B : Nat} {u u' : World} {x : Nm} {g1 : Nat} {aF : Option Addr} {cF g3 g4 : Nat} (h : OwC B u x g1 aF cF g3 g4) {p : Int} {g cf : Nat} (r : Ro u' g (x.F ++ [p])) (k : Ca u' g (x.F ++ [p]).length cf) (hB : B ≤ g) (hg : (0 < x.F.length ∧ aF = some ⟨g, 0, none⟩) ∨ u.heap.size ≤ g) (f : But (bkS x.F.length aF) u u') : OwC B u' ⟨x.M, x.F ++ [p], x.V, x.H⟩ g1 (some ⟨g, 0, none⟩) cf g3 g4 := by
  have n1 : g1 ∉ bkS x.F.length aF := fun hm => by obtain ⟨g', e, h0, hh⟩ := rc_bk h.F hm; exact (h.aF g' e h0).1 hh
  have n3 : g3 ∉ bkS x.F.length aF := fun hm => by obtain ⟨g', e, h0, hh⟩ := rc_bk h.F hm; exact (h.aF g' e h0).2.1 hh
  have n4 : g4 ∉ bkS x.F.length aF := fun hm => by obtain ⟨g', e, h0, hh⟩ := rc_bk h.F hm; exact (h.aF g' e h0).2.2 hh
  have l1 := h.M.lt
  have l3 := h.V.lt
  have l4 := h.H.lt
  refine ⟨h.b1, h.b3, h.b4, h.M.but f n1, .inr ⟨g, rfl, hB, r, k, by simp⟩, h.V.but f n3, h.H.but f n4, h.a13, h.a14, h.a34, fun q hq _ => ?_⟩
  cases hq
  rcases hg with ⟨h0, e⟩ | hg
  · exact h.aF g e h0
  · omega
set_option maxRecDepth 8000 in
set_option maxHeartbeats 4000000 in
theorem spec_NamPut_1 (x : Nm) (aM aF aV aH : Option Addr) (cM cF cV cH : Nat) (p n : Int) (w : World) (h : SrcN w x aM aF aV aH) (hf : Few6 x) (h1 : okN x = false) :
    Calls Try.prog 29 #[.agg #[.slice aM x.M.length cM, .slice aF x.F.length cF, .slice aV x.V.length cV, .slice aH x.H.length cH], .int .i64 p, .int .i64 n] w (NmP nm0 w) := by
  have F2 : Fr w ((w.alloc (.cells #[.slice aM x.M.length cM, .slice aF x.F.length cF, .slice aV x.V.length cV, .slice aH x.H.length cH] 25)).alloc (.cells #[.slice none 0 0, .slice none 0 0, .slice none 0 0, .slice none 0 0] 25)) := by (repeat' first | (with_reducible exact Below.refl _ _) | (with_reducible assumption) | ((with_reducible refine Below.setCell ?_ ?hb _); (case hb => first | exact Nat.le_refl _ | (simp; done) | (simp; omega) | omega)) | ((with_reducible refine Below.alloc ?_ ?hb _); (case hb => first | exact Nat.le_refl _ | (simp; done) | (simp; omega) | omega)) | (with_reducible refine Below.drew ?_))
  have HF := Lib.hid F2
  have HB := Lib.hid (show Box4 ((w.alloc (.cells #[.slice aM x.M.length cM, .slice aF x.F.length cF, .slice aV x.V.length cV, .slice aH x.H.length cH] 25)).alloc (.cells #[.slice none 0 0, .slice none 0 0, .slice none 0 0, .slice none 0 0] 25)) w.heap.size (.slice aM x.M.length cM) (.slice aF x.F.length cF) (.slice aV x.V.length cV) (.slice aH x.H.length cH) from (Box4.new _ _ _ _ _ _ _ rfl).fr (Fr.alloc _ _))
  have HZ := Lib.hid (show Box4 ((w.alloc (.cells #[.slice aM x.M.length cM, .slice aF x.F.length cF, .slice aV x.V.length cV, .slice aH x.H.length cH] 25)).alloc (.cells #[.slice none 0 0, .slice none 0 0, .slice none 0 0, .slice none 0 0] 25)) (w.heap.size + 1) (.slice none 0 0) (.slice none 0 0) (.slice none 0 0) (.slice none 0 0) from Box4.new _ _ _ _ _ _ _ (by simp))
  have HS := Lib.hid h
  have HW := Lib.hid hf
  have HO := Lib.hid h1
  clear h1
  clear F2 h hf
  go_enter Try.func29, Try.ntmps29
  go_upto_region 1 with fail
  generalize ((w.alloc (.cells #[.slice aM x.M.length cM, .slice aF x.F.length cF, .slice aV x.V.length cV, .slice aH x.H.length cH] 25)).alloc (.cells #[.slice none 0 0, .slice none 0 0, .slice none 0 0, .slice none 0 0] 25)) = u at *
  obtain ⟨_, c0, c1, c2, c3, _, _, _, _⟩ := HB.out
  go_wp2_with fail
  refine (spec_NamOk x _ _ _ _ _ _ _ _ _ (HS.out.fr HF.out) HW.out).mono ?_
  rintro e u1 ⟨rfl, f⟩
  clear c0 c1 c2 c3
  replace HF := Lib.hid (HF.out.trans f)
  replace HB := Lib.hid (HB.out.fr f)
  replace HZ := Lib.hid (HZ.out.fr f)
  clear f
  rw [HO.out]
  obtain ⟨_, z0, z1, z2, z3, zf0, zf1, zf2, zf3⟩ := HZ.out
  go_wp2_with fail
  refine bodyPost_ret (v := .agg #[.slice none 0 0, .slice none 0 0, .slice none 0 0, .slice none 0 0]) (by simp [results, Try.results29, go_sem, World.cell?_setCell_other, World.cell?_setCell_same, z0, z1, z2, z3]) rfl ⟨none, none, none, none, 0, 0, 0, 0, rfl, VcNm.nil _ _ _ _ _ _, ?_⟩
  exact fr_but HF.out ((But.refl _ _).set4 (w.heap.size + 1) _ _ _ _ (.inl (by simp)) : But [w.heap.size + 1] _ _) (fun k hk => by have := List.mem_singleton.1 hk; omega)
set_option maxRecDepth 8000 in
set_option maxHeartbeats 4000000 in
theorem spec_NamPut_2 (x : Nm) (aM aF aV aH : Option Addr) (cM cF cV cH : Nat) (p n : Int) (w : World) (h : SrcN w x aM aF aV aH) (hf : Few6 x) (h1 : okN x = true) (h2 : decide (1 ≤ p ∧ p ≤ 19) = false) :
    Calls Try.prog 29 #[.agg #[.slice aM x.M.length cM, .slice aF x.F.length cF, .slice aV x.V.length cV, .slice aH x.H.length cH], .int .i64 p, .int .i64 n] w (NmP nm0 w) := by
  have F2 : Fr w ((w.alloc (.cells #[.slice aM x.M.length cM, .slice aF x.F.length cF, .slice aV x.V.length cV, .slice aH x.H.length cH] 25)).alloc (.cells #[.slice none 0 0, .slice none 0 0, .slice none 0 0, .slice none 0 0] 25)) := by (repeat' first | (with_reducible exact Below.refl _ _) | (with_reducible assumption) | ((with_reducible refine Below.setCell ?_ ?hb _); (case hb => first | exact Nat.le_refl _ | (simp; done) | (simp; omega) | omega)) | ((with_reducible refine Below.alloc ?_ ?hb _); (case hb => first | exact Nat.le_refl _ | (simp; done) | (simp; omega) | omega)) | (with_reducible refine Below.drew ?_))
  have HF := Lib.hid F2
  have HB := Lib.hid (show Box4 ((w.alloc (.cells #[.slice aM x.M.length cM, .slice aF x.F.length cF, .slice aV x.V.length cV, .slice aH x.H.length cH] 25)).alloc (.cells #[.slice none 0 0, .slice none 0 0, .slice none 0 0, .slice none 0 0] 25)) w.heap.size (.slice aM x.M.length cM) (.slice aF x.F.length cF) (.slice aV x.V.length cV) (.slice aH x.H.length cH) from (Box4.new _ _ _ _ _ _ _ rfl).fr (Fr.alloc _ _))
  have HZ := Lib.hid (show Box4 ((w.alloc (.cells #[.slice aM x.M.length cM, .slice aF x.F.length cF, .slice aV x.V.length cV, .slice aH x.H.length cH] 25)).alloc (.cells #[.slice none 0 0, .slice none 0 0, .slice none 0 0, .slice none 0 0] 25)) (w.heap.size + 1) (.slice none 0 0) (.slice none 0 0) (.slice none 0 0) (.slice none 0 0) from Box4.new _ _ _ _ _ _ _ (by simp))
  have HS := Lib.hid h
  have HW := Lib.hid hf
  have HO := Lib.hid h1
  have H2 := Lib.hid h2
  clear h1 h2
  clear F2 h hf
  go_enter Try.func29, Try.ntmps29
  go_upto_region 1 with fail
  generalize ((w.alloc (.cells #[.slice aM x.M.length cM, .slice aF x.F.length cF, .slice aV x.V.length cV, .slice aH x.H.length cH] 25)).alloc (.cells #[.slice none 0 0, .slice none 0 0, .slice none 0 0, .slice none 0 0] 25)) = u at *
  obtain ⟨_, c0, c1, c2, c3, _, _, _, _⟩ := HB.out
  go_wp2_with fail
  refine (spec_NamOk x _ _ _ _ _ _ _ _ _ (HS.out.fr HF.out) HW.out).mono ?_
  rintro e u1 ⟨rfl, f⟩
  clear c0 c1 c2 c3
  replace HF := Lib.hid (HF.out.trans f)
  replace HB := Lib.hid (HB.out.fr f)
  replace HZ := Lib.hid (HZ.out.fr f)
  clear f
  rw [HO.out]
  go_wp2_with fail
  refine (spec_l1In p 1 19 _).mono ?_
  rintro e w' ⟨rfl, rfl⟩
  rw [H2.out]
  obtain ⟨_, z0, z1, z2, z3, zf0, zf1, zf2, zf3⟩ := HZ.out
  go_wp2_with fail
  refine bodyPost_ret (v := .agg #[.slice none 0 0, .slice none 0 0, .slice none 0 0, .slice none 0 0]) (by simp [results, Try.results29, go_sem, World.cell?_setCell_other, World.cell?_setCell_same, z0, z1, z2, z3]) rfl ⟨none, none, none, none, 0, 0, 0, 0, rfl, VcNm.nil _ _ _ _ _ _, ?_⟩
  exact fr_but HF.out ((But.refl _ _).set4 (w.heap.size + 1) _ _ _ _ (.inl (by simp)) : But [w.heap.size + 1] _ _) (fun k hk => by have := List.mem_singleton.1 hk; omega)
set_option maxRecDepth 8000 in
set_option maxHeartbeats 4000000 in
theorem spec_NamPut_3 (x : Nm) (aM aF aV aH : Option Addr) (cM cF cV cH : Nat) (p n : Int) (w : World) (h : SrcN w x aM aF aV aH) (hf : Few6 x) (h1 : okN x = true) (h2 : decide (1 ≤ p ∧ p ≤ 19) = true) (h4 : okB n = false) :
    Calls Try.prog 29 #[.agg #[.slice aM x.M.length cM, .slice aF x.F.length cF, .slice aV x.V.length cV, .slice aH x.H.length cH], .int .i64 p, .int .i64 n] w (NmP nm0 w) := by
  have F2 : Fr w ((w.alloc (.cells #[.slice aM x.M.length cM, .slice aF x.F.length cF, .slice aV x.V.length cV, .slice aH x.H.length cH] 25)).alloc (.cells #[.slice none 0 0, .slice none 0 0, .slice none 0 0, .slice none 0 0] 25)) := by (repeat' first | (with_reducible exact Below.refl _ _) | (with_reducible assumption) | ((with_reducible refine Below.setCell ?_ ?hb _); (case hb => first | exact Nat.le_refl _ | (simp; done) | (simp; omega) | omega)) | ((with_reducible refine Below.alloc ?_ ?hb _); (case hb => first | exact Nat.le_refl _ | (simp; done) | (simp; omega) | omega)) | (with_reducible refine Below.drew ?_))
  have HF := Lib.hid F2
  have HB := Lib.hid (show Box4 ((w.alloc (.cells #[.slice aM x.M.length cM, .slice aF x.F.length cF, .slice aV x.V.length cV, .slice aH x.H.length cH] 25)).alloc (.cells #[.slice none 0 0, .slice none 0 0, .slice none 0 0, .slice none 0 0] 25)) w.heap.size (.slice aM x.M.length cM) (.slice aF x.F.length cF) (.slice aV x.V.length cV) (.slice aH x.H.length cH) from (Box4.new _ _ _ _ _ _ _ rfl).fr (Fr.alloc _ _))
  have HZ := Lib.hid (show Box4 ((w.alloc (.cells #[.slice aM x.M.length cM, .slice aF x.F.length cF, .slice aV x.V.length cV, .slice aH x.H.length cH] 25)).alloc (.cells #[.slice none 0 0, .slice none 0 0, .slice none 0 0, .slice none 0 0] 25)) (w.heap.size + 1) (.slice none 0 0) (.slice none 0 0) (.slice none 0 0) (.slice none 0 0) from Box4.new _ _ _ _ _ _ _ (by simp))
  have HS := Lib.hid h
  have HW := Lib.hid hf
  have HO := Lib.hid h1
  have H2 := Lib.hid h2
  have H4 := Lib.hid h4
  clear h1 h2 h4
  clear F2 h hf
  go_enter Try.func29, Try.ntmps29
  go_upto_region 1 with fail
  generalize ((w.alloc (.cells #[.slice aM x.M.length cM, .slice aF x.F.length cF, .slice aV x.V.length cV, .slice aH x.H.length cH] 25)).alloc (.cells #[.slice none 0 0, .slice none 0 0, .slice none 0 0, .slice none 0 0] 25)) = u at *
  obtain ⟨_, c0, c1, c2, c3, _, _, _, _⟩ := HB.out
  go_wp2_with fail
  refine (spec_NamOk x _ _ _ _ _ _ _ _ _ (HS.out.fr HF.out) HW.out).mono ?_
  rintro e u1 ⟨rfl, f⟩
  clear c0 c1 c2 c3
  replace HF := Lib.hid (HF.out.trans f)
  replace HB := Lib.hid (HB.out.fr f)
  replace HZ := Lib.hid (HZ.out.fr f)
  clear f
  rw [HO.out]
  go_wp2_with fail
  refine (spec_l1In p 1 19 _).mono ?_
  rintro e w' ⟨rfl, rfl⟩
  rw [H2.out]
  go_wp2_with fail
  refine (spec_WrdOk n _).mono ?_
  rintro e w' ⟨rfl, rfl⟩
  rw [H4.out]
  obtain ⟨_, z0, z1, z2, z3, zf0, zf1, zf2, zf3⟩ := HZ.out
  go_wp2_with fail
  refine bodyPost_ret (v := .agg #[.slice none 0 0, .slice none 0 0, .slice none 0 0, .slice none 0 0]) (by simp [results, Try.results29, go_sem, World.cell?_setCell_other, World.cell?_setCell_same, z0, z1, z2, z3]) rfl ⟨none, none, none, none, 0, 0, 0, 0, rfl, VcNm.nil _ _ _ _ _ _, ?_⟩
  exact fr_but HF.out ((But.refl _ _).set4 (w.heap.size + 1) _ _ _ _ (.inl (by simp)) : But [w.heap.size + 1] _ _) (fun k hk => by have := List.mem_singleton.1 hk; omega)
set_option maxRecDepth 8000 in
set_option maxHeartbeats 4000000 in
theorem spec_NamPut_4 (x : Nm) (aM aF aV aH : Option Addr) (cM cF cV cH : Nat) (p n : Int) (w : World) (h : SrcN w x aM aF aV aH) (hf : Few6 x) (h1 : okN x = true) (h2 : decide (1 ≤ p ∧ p ≤ 19) = true) (h4 : okB n = true) :
    Calls Try.prog 29 #[.agg #[.slice aM x.M.length cM, .slice aF x.F.length cF, .slice aV x.V.length cV, .slice aH x.H.length cH], .int .i64 p, .int .i64 n] w (NmP (putG x p n) w) := by
  have F2 : Fr w ((w.alloc (.cells #[.slice aM x.M.length cM, .slice aF x.F.length cF, .slice aV x.V.length cV, .slice aH x.H.length cH] 25)).alloc (.cells #[.slice none 0 0, .slice none 0 0, .slice none 0 0, .slice none 0 0] 25)) := by (repeat' first | (with_reducible exact Below.refl _ _) | (with_reducible assumption) | ((with_reducible refine Below.setCell ?_ ?hb _); (case hb => first | exact Nat.le_refl _ | (simp; done) | (simp; omega) | omega)) | ((with_reducible refine Below.alloc ?_ ?hb _); (case hb => first | exact Nat.le_refl _ | (simp; done) | (simp; omega) | omega)) | (with_reducible refine Below.drew ?_))
  have HF := Lib.hid F2
  have HB := Lib.hid (show Box4 ((w.alloc (.cells #[.slice aM x.M.length cM, .slice aF x.F.length cF, .slice aV x.V.length cV, .slice aH x.H.length cH] 25)).alloc (.cells #[.slice none 0 0, .slice none 0 0, .slice none 0 0, .slice none 0 0] 25)) w.heap.size (.slice aM x.M.length cM) (.slice aF x.F.length cF) (.slice aV x.V.length cV) (.slice aH x.H.length cH) from (Box4.new _ _ _ _ _ _ _ rfl).fr (Fr.alloc _ _))
  have HZ := Lib.hid (show Box4 ((w.alloc (.cells #[.slice aM x.M.length cM, .slice aF x.F.length cF, .slice aV x.V.length cV, .slice aH x.H.length cH] 25)).alloc (.cells #[.slice none 0 0, .slice none 0 0, .slice none 0 0, .slice none 0 0] 25)) (w.heap.size + 1) (.slice none 0 0) (.slice none 0 0) (.slice none 0 0) (.slice none 0 0) from Box4.new _ _ _ _ _ _ _ (by simp))
  have HS := Lib.hid h
  have HW := Lib.hid hf
  have HO := Lib.hid h1
  have H2 := Lib.hid h2
  have H4 := Lib.hid h4
  have HK := Lib.hid (okN_ok h1)
  have HPb := Lib.hid (of_decide_eq_true h2)
  clear h1 h2 h4
  clear F2 h hf
  go_enter Try.func29, Try.ntmps29
  go_upto_region 1 with fail
  generalize ((w.alloc (.cells #[.slice aM x.M.length cM, .slice aF x.F.length cF, .slice aV x.V.length cV, .slice aH x.H.length cH] 25)).alloc (.cells #[.slice none 0 0, .slice none 0 0, .slice none 0 0, .slice none 0 0] 25)) = u at *
  obtain ⟨_, c0, c1, c2, c3, _, _, _, _⟩ := HB.out
  go_wp2_with fail
  refine (spec_NamOk x _ _ _ _ _ _ _ _ _ (HS.out.fr HF.out) HW.out).mono ?_
  rintro e u1 ⟨rfl, f⟩
  clear c0 c1 c2 c3
  replace HF := Lib.hid (HF.out.trans f)
  replace HB := Lib.hid (HB.out.fr f)
  replace HZ := Lib.hid (HZ.out.fr f)
  clear f
  rw [HO.out]
  go_wp2_with fail
  refine (spec_l1In p 1 19 _).mono ?_
  rintro e w' ⟨rfl, rfl⟩
  rw [H2.out]
  go_wp2_with fail
  refine (spec_WrdOk n _).mono ?_
  rintro e w' ⟨rfl, rfl⟩
  rw [H4.out]
  obtain ⟨q, rfl⟩ : ∃ q : Nat, p = q := ⟨p.toNat, by have := HPb.out; omega⟩
  have hq : q < 20 := by have := HPb.out; omega
  obtain ⟨_, c0, c1, c2, c3, _, _, _, _⟩ := HB.out
  go_wp2_with fail
  refine (spec_l6Copy x _ _ _ _ _ _ _ _ _ (HS.out.fr HF.out) HK.out.Ml (by have := HK.out.Fl; omega) HK.out.Vl HK.out.Hl).mono ?_
  rintro e v ⟨g1, aF5, g3, g4, c1, cF5, c3, c4, rfl, ow, f⟩
  
  have hzl := HZ.out.lt
  have HC := Lib.hid (ow.mono (show w.heap.size + 2 ≤ _ by omega))
  replace HF := Lib.hid (HF.out.trans f)
  replace HZ := Lib.hid (HZ.out.fr f)
  clear HB ow f
  go_upto_region 4 with fail
  have HX := Lib.hid (Box4.new v (.slice (some ⟨g1, 0, none⟩) x.M.length c1) (.slice aF5 x.F.length cF5) (.slice (some ⟨g3, 0, none⟩) x.V.length c3) (.slice (some ⟨g4, 0, none⟩) x.H.length c4) 25 _ rfl)
  have hvl : w.heap.size + 1 < v.heap.size := HZ.out.lt
  have f := Fr.alloc v (.cells #[.slice (some ⟨g1, 0, none⟩) x.M.length c1, .slice aF5 x.F.length cF5, .slice (some ⟨g3, 0, none⟩) x.V.length c3, .slice (some ⟨g4, 0, none⟩) x.H.length c4] 25)
  have hvl2 : g1 < v.heap.size ∧ g3 < v.heap.size ∧ g4 < v.heap.size := ⟨HC.out.M.lt, HC.out.V.lt, HC.out.H.lt⟩
  have HBF := Lib.hid (fun (g : Nat) (e : aF5 = some ⟨g, 0, none⟩) (h0 : 0 < x.F.length) => show g < v.heap.size by
    rcases HC.out.F with ⟨hq, _⟩ | ⟨g9, e9, _, r9, _⟩
    · omega
    · rw [e9] at e
      cases e
      exact r9.lt)
  have HFL := Lib.hid HK.out.Fl
  replace HC := Lib.hid (HC.out.but (L := []) (But.of f) (by simp))
  replace HF := Lib.hid (HF.out.trans f)
  replace HZ := Lib.hid (HZ.out.fr f)
  clear f
  generalize hvv : v.heap.size = b at HX hvl hvl2 HBF ⊢
  have hbw : w.heap.size + 1 < b := hvl
  clear hvv hvl
  generalize (v.alloc (.cells #[.slice (some ⟨g1, 0, none⟩) x.M.length c1, .slice aF5 x.F.length cF5, .slice (some ⟨g3, 0, none⟩) x.V.length c3, .slice (some ⟨g4, 0, none⟩) x.H.length c4] 25)) = v1 at *
  obtain ⟨_, y0, y1, y2, y3, yf0, yf1, yf2, yf3⟩ := HX.out
  have d1 := HC.out.V.cel q (by rw [HK.out.Vl]; exact hq)
  have d2 := HC.out.V.fro q (by rw [HK.out.Vl]; exact hq)
  have hq0 : (0 : Int) ≤ (q : Int) := by omega
  have hql : q < x.V.length := by rw [HK.out.Vl]; exact hq
  go_upto_region 5 with fail
  have hb9 : But [g3] v1 (v1.setCell ⟨g3, q, none⟩ (.int .i64 n)) := (But.refl _ _).set _ _ _ (.inl (by simp))
  have HC9 := Lib.hid (HC.out.putV q n (by rw [HK.out.Vl]; exact hq))
  have HX9 := Lib.hid (HX.out.but hb9 (by simp; omega))
  have HZ9 := Lib.hid (HZ.out.but hb9 (by have := HC.out.b3; simp; omega))
  have HF9 := Lib.hid (show Fr w (v1.setCell ⟨g3, q, none⟩ (.int .i64 n)) from fr_new HF.out hb9 (by have := HC.out.b3; omega))
  clear y0 y1 y2 y3 yf0 yf1 yf2 yf3 d1 d2 hb9 HC HX HZ HF
  generalize (v1.setCell ⟨g3, q, none⟩ (.int .i64 n)) = v2 at *
  have HC := HC9
  have HX := HX9
  have HZ := HZ9
  have HF := HF9
  clear HC9 HX9 HZ9 HF9
  obtain ⟨v1, hv12⟩ : ∃ v1, v2 = v1 := ⟨_, rfl⟩
  rw [hv12] at HC HX HZ HF ⊢
  clear hv12 v2
  obtain ⟨_, y0, y1, y2, y3, yf0, yf1, yf2, yf3⟩ := HX.out
  have d1 := HC.out.H.cel q (by show q < x.H.length; rw [HK.out.Hl]; exact hq)
  have d2 := HC.out.H.fro q (by show q < x.H.length; rw [HK.out.Hl]; exact hq)
  have hqh : q < x.H.length := by rw [HK.out.Hl]; exact hq
  go_upto_region 6 with fail
  have hb9 : But [g4] v1 (v1.setCell ⟨g4, q, none⟩ (.bool true)) := (But.refl _ _).set _ _ _ (.inl (by simp))
  have HC9 := Lib.hid (HC.out.putH q true (by show q < x.H.length; rw [HK.out.Hl]; exact hq))
  have HX9 := Lib.hid (HX.out.but hb9 (by simp; omega))
  have HZ9 := Lib.hid (HZ.out.but hb9 (by have := HC.out.b4; simp; omega))
  have HF9 := Lib.hid (show Fr w (v1.setCell ⟨g4, q, none⟩ (.bool true)) from fr_new HF.out hb9 (by have := HC.out.b4; omega))
  clear y0 y1 y2 y3 yf0 yf1 yf2 yf3 d1 d2 hb9 HC HX HZ HF
  generalize (v1.setCell ⟨g4, q, none⟩ (.bool true)) = v2 at *
  have HC := HC9
  have HX := HX9
  have HZ := HZ9
  have HF := HF9
  clear HC9 HX9 HZ9 HF9
  obtain ⟨v1, hv12⟩ : ∃ v1, v2 = v1 := ⟨_, rfl⟩
  rw [hv12] at HC HX HZ HF ⊢
  clear hv12 v2
  obtain ⟨_, y0, y1, y2, y3, yf0, yf1, yf2, yf3⟩ := HX.out
  generalize v1 = vl at *
  obtain ⟨_, z0, z1, z2, z3, zf0, zf1, zf2, zf3⟩ := HZ.out
  have hst : ∀ a b c d, But [w.heap.size + 1] vl ((((vl.setCell ⟨w.heap.size + 1, 0, none⟩ a).setCell ⟨w.heap.size + 1, 1, none⟩ b).setCell ⟨w.heap.size + 1, 2, none⟩ c).setCell ⟨w.heap.size + 1, 3, none⟩ d) := fun a b c d => (But.refl _ _).set4 (w.heap.size + 1) a b c d (.inl (by simp))
  have HST := Lib.hid hst
  clear hst
  go_wp2_with fail
  refine bodyPost_ret (v := .agg #[.slice (some ⟨g1, 0, none⟩) (putG x q n).M.length c1, .slice aF5 (putG x q n).F.length cF5, .slice (some ⟨g3, 0, none⟩) (putG x q n).V.length c3, .slice (some ⟨g4, 0, none⟩) (putG x q n).H.length c4]) (by simp [results, Try.results29, go_sem, World.cell?_setCell_other, World.cell?_setCell_same, z0, z1, z2, z3, freeG, putG, backG, takeG]) rfl ?_
  exact ⟨_, _, _, _, _, _, _, _, rfl, ((HC.out.but (HST.out _ _ _ _) (fun k hk => by have := List.mem_singleton.1 hk; omega)).mono (by omega)).vc, fr_but HF.out (HST.out _ _ _ _) (fun k hk => by have := List.mem_singleton.1 hk; omega)⟩
theorem spec_NamPut (x : Nm) (aM aF aV aH : Option Addr) (cM cF cV cH : Nat) (p n : Int) (w : World) (h : SrcN w x aM aF aV aH) (hf : Few6 x) :
    Calls Try.prog 29 #[.agg #[.slice aM x.M.length cM, .slice aF x.F.length cF, .slice aV x.V.length cV, .slice aH x.H.length cH], .int .i64 p, .int .i64 n] w (NmP (putA x p n) w) := by
  cases h1 : okN x
  · rw [show putA x p n = nm0 by simp [putA, h1]]
    exact spec_NamPut_1 x _ _ _ _ _ _ _ _ p n w h hf h1
  · cases h2 : decide (1 ≤ p ∧ p ≤ 19)
    · rw [show putA x p n = nm0 by
        unfold putA
        rw [if_neg]
        simp [phyB] at h2 ⊢
        intros
        omega]
      exact spec_NamPut_2 x _ _ _ _ _ _ _ _ p n w h hf h1 h2
    · cases h4 : okB n
      · rw [show putA x p n = nm0 by simp [putA, h4]]
        exact spec_NamPut_3 x _ _ _ _ _ _ _ _ p n w h hf h1 h2 h4
      · rw [show putA x p n = putG x p n by
          have := of_decide_eq_true h2
          unfold putA
          rw [if_pos]
          simp [h1, h4, phyB]
          omega]
        exact spec_NamPut_4 x _ _ _ _ _ _ _ _ p n w h hf h1 h2 h4

end Go.Proofs.Ytddllgjieccikaa
