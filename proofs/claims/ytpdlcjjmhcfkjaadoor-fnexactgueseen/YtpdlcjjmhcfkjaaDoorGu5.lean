/- Guessers copied, of the model. -/
import Derived.Test.YtpdlcjjmhcfkjaaDoorGu4
namespace Go.Proofs.YtpdlcjjmhcfkjaaDoor
open Go.RowKit
set_option linter.unusedVariables false
set_option linter.unusedSimpArgs false
/-- append of elements of four cells onto an empty slice without room: a new row. -/
theorem wp_append_new4 {P : Program} {Q : Exit → Act → World → Prop} {o : Oper} {a : Act} {w : World} {K : Act → World → Prop} (s x : Operand) (t : TypeId) (ho : o.op = .call { callee := .builtin .append, args := #[s, x], argTypes := #[t, t] })
    (e : TypeId) (ti : TypeInfo) (z : Value) (ht : P.underlying t = some (.slice e)) (hi : P.info? e = some ti) (hz : ti.zero = some z) (hsize : ti.size = 4) (hby : ti.bytes = 32)
    (g : Addr) (hs : a.eval s = .slice (some g) 0 0) (ad : Addr) (m c : Nat) (news : List Value) (hx : a.eval x = .slice (some ad) m c) (hl : news.length = m * 4)
    (hnews : ∀ j u, news[j]? = some u → w.cell? (ad.add j) = some u) (h1 : ∀ u ∈ news, u.oneCell' = true) (h0 : 0 < m) (hm : m ≤ 100000000)
    (h : ∀ (cap : Nat) (zs : Array Value), K (a.put o.dst (.slice (some ⟨w.heap.size, 0, none⟩) m cap)) (w.drew.alloc (.cells (news.toArray ++ zs) e))) : o.wp P a w K Q := by
  have hrun := run_append_grow_src (P := P) w t t o.type e ti z ht hi hz (some g) 0 0 [] (run_firstCells_some w.drew ti.size 0 g 0 0 [] (by simp) (fun j u h => by simp at h)) (.slice (some ad) m c) m news
    (_root_.Go.Src.ofSlice w ht ad m c news (by rw [hsize, hl]) hnews h1) (by omega) (by omega) (growslice_fits (by omega) (by rw [hby]; omega))
  simp only [Nat.zero_add, List.nil_append] at hrun
  unfold Oper.wp execOp
  simp only [ho, resolve, invoke, builtin, Sem.run_bind, Sem.run_pure, Result.andThen_ok, List.map_toArray, List.map_cons, List.map_nil, hs, hx, hrun]
  exact h _ _
theorem range_add {u : World} {g o : Nat} {cs : List Value} (h : u.rangeAt g o cs) : ∀ j v, cs[j]? = some v → u.cell? ((⟨g, o, none⟩ : Addr).add j) = some v := fun j v hv => by rw [Addr.add_mid]; exact h j v hv
/-- Behind a copy of a guesser. -/
def GuC (x : Gu) (w : World) (e : Ending) (w' : World) : Prop := ∃ gS aC cS cC, e = .returned (.agg #[.slice (some ⟨gS, 0, none⟩) x.S.length cS, .slice aC x.C.length cC]) ∧ w.heap.size ≤ gS ∧ Ro4 w' gS x.S ∧ Rc w.heap.size w' x.C aC cC ∧ (∀ g, aC = some ⟨g, 0, none⟩ → 0 < x.C.length → gS ≠ g) ∧ Fr w w'
def Nrow4 (B : Nat) (S : List Sl) (v : Value) (u : World) : Prop := ∃ g c, v = .slice (some ⟨g, 0, none⟩) S.length c ∧ B ≤ g ∧ Ro4 u g S
theorem Nrow4.but {B : Nat} {S : List Sl} {v : Value} {u u' : World} {L : List Nat} (h : Nrow4 B S v u) (f : But L u u') (hL : ∀ k, k ∈ L → k < B) : Nrow4 B S v u' := by
  obtain ⟨g, c, e, hB, r⟩ := h
  exact ⟨g, c, e, hB, r.but f (fun hm => by have := hL g hm; omega)⟩
def c5SFa (B b : Nat) (x : Gu) (aS aC : Option Addr) (cS cC : Nat) : Nat → Value → World → Prop
  | 0, v, _ => ∃ g : Nat, v = .slice (some ⟨g, 0, none⟩) 0 0
  | 1, v, _ => v = .pointer (some ⟨b, 0, none⟩)
  | 2, v, _ => v = .slice aS x.S.length cS
  | 3, v, u => Nrow4 B x.S v u
  | 4, v, _ => ∃ g : Nat, v = .slice (some ⟨g, 0, none⟩) 0 0
  | 5, v, _ => v = .pointer (some ⟨b, 1, none⟩)
  | 6, v, _ => v = .slice aC x.C.length cC
  | 7, v, u => ∃ g c, v = .slice (some ⟨g, 0, none⟩) x.C.length c ∧ B ≤ g ∧ Ro u g x.C ∧ Ca u g x.C.length c
  | 8, v, u => ∃ gS gC c1 c2, v = .agg #[.slice (some ⟨gS, 0, none⟩) x.S.length c1, .slice (some ⟨gC, 0, none⟩) x.C.length c2] ∧ B ≤ gS ∧ B ≤ gC ∧ Ro4 u gS x.S ∧ Ro u gC x.C ∧ Ca u gC x.C.length c2 ∧ gS ≠ gC
  | _, _, _ => True
set_option maxRecDepth 8000 in
set_option maxHeartbeats 4000000 in
theorem spec_l5Copy_a (x : Gu) (aS aC : Option Addr) (cS cC : Nat) (w : World) (h : Src4 w x.S aS) (hc : Src w x.C.length (ivl x.C) aC) (hl : x.S.length = 8) (hcl : x.C.length ≤ 100) (hp : 0 < x.C.length) :
    Calls Tryd.prog 46 #[.agg #[.slice aS x.S.length cS, .slice aC x.C.length cC]] w (GuC x w) := by
  obtain ⟨sS, oS, rfl, lS, kS⟩ := h (by omega)
  have KS := Lib.hid (fun (u : World) (f : Fr w u) => range_fr kS f lS)
  obtain ⟨sC, oC, rfl, lC, kC⟩ := hc hp
  have KC := Lib.hid (fun (u : World) (f : Fr w u) => show ∀ i, i < x.C.length → u.cell? ⟨sC, oC + i, none⟩ = some (ivl x.C i) from fun i hi => by rw [f.cell lC]; exact kC i hi)
  clear kC
  clear kS
  obtain ⟨i0, hi, hz0, hz1, hz2⟩ := info_parts info_intV
  obtain ⟨j0, hj, hy0, hy1, hy2⟩ := info_partsN info_slotV
  have F2 : Fr w ((w.alloc (.cells #[.slice (some ⟨sS, oS, none⟩) x.S.length cS, .slice (some ⟨sC, oC, none⟩) x.C.length cC] 30)).alloc (.cells #[.slice none 0 0, .slice none 0 0] 30)) := by
    (repeat' first | (with_reducible exact Below.refl _ _) | (with_reducible assumption) | ((with_reducible refine Below.setCell ?_ ?hb _); (case hb => first | exact Nat.le_refl _ | (simp; done) | (simp; omega) | omega)) | ((with_reducible refine Below.alloc ?_ ?hb _); (case hb => first | exact Nat.le_refl _ | (simp; done) | (simp; omega) | omega)) | (with_reducible refine Below.drew ?_))
  have HF := Lib.hid F2
  have HB := Lib.hid ((Box2.new w (.slice (some ⟨sS, oS, none⟩) x.S.length cS) (.slice (some ⟨sC, oC, none⟩) x.C.length cC) 30 _ rfl).fr (Fr.alloc _ (.cells #[.slice none 0 0, .slice none 0 0] 30)))
  have HZ := Lib.hid (Box2.new (w.alloc (.cells #[.slice (some ⟨sS, oS, none⟩) x.S.length cS, .slice (some ⟨sC, oC, none⟩) x.C.length cC] 30)) (.slice none 0 0) (.slice none 0 0) 30 (w.heap.size + 1) (by simp))
  have HL := Lib.hid hl
  have HC := Lib.hid hcl
  have HP := Lib.hid hp
  clear F2 h hc hl hcl hp
  go_enter Tryd.func46, Tryd.ntmps46
  go_wp2_with fail
  generalize hu : ((w.alloc (.cells #[.slice (some ⟨sS, oS, none⟩) x.S.length cS, .slice (some ⟨sC, oC, none⟩) x.C.length cC] 30)).alloc (.cells #[.slice none 0 0, .slice none 0 0] 30)) = u0 at *
  have hu0 : u0.heap.size = w.heap.size + 2 := by rw [← hu]; simp
  clear hu
  refine wp_region_rows 12 9 [] (fun _ => []) lb0_in (fun i => i == 3 || i == 7) (c5SFa u0.heap.size w.heap.size x (some ⟨sS, oS, none⟩) (some ⟨sC, oC, none⟩) cS cC) ?mono (by kernel_rfl) (by kernel_rfl) rfl (by kernel_rfl) (by kernel_rfl) (by decide) ?step ?fin
  case mono =>
    intro i j v u u' hi hij hdj hsz h hB
    rcases j with _ | _ | _ | _ | _ | _ | _ | _ | _ | j
    · exact h
    · exact h
    · exact h
    · exact h.but hB (fun k hk => by cases hk)
    · exact h
    · exact h
    · exact h
    · obtain ⟨g, c, e, hb, r, k⟩ := h
      exact ⟨g, c, e, hb, r.but hB (by simp), k.but hB (by simp)⟩
    · obtain ⟨gS, gC, c1, c2, e, h1, h2, h3, h4, h5, h6⟩ := h
      exact ⟨gS, gC, c1, c2, e, h1, h2, h3.but hB (by simp), h4.but hB (by simp), h5.but hB (by simp), h6⟩
    · trivial
  case step =>
    intro i o ho hiz
    rcases i with _ | _ | _ | _ | _ | _ | _ | _ | _ | _ | i
    · clear hiz
      cases ho
      intro act u hB hL hdep hap hnw
      replace hB := hB [] (fun j _ k hk => lb0_in j k hk)
      obtain ⟨ysl, ha, hy⟩ := hL.puts [3, 4, 5, 6, 7, 8, 9, 10, 11] (by kernel_rfl)
      clear hdep hL hy hap hnw
      simp only [List.foldl, List.setIfInBounds_toArray, List.set_cons_succ, List.set_cons_zero] at ha
      subst ha
      refine wpOp_step rfl (fun K hK => ?_)
      go_simp
      exact hK _ _ ⟨_, rfl, (fun h => by cases h), ⟨_, rfl⟩, But.of (Fr.alloc _ _), (fun h => by cases h)⟩
    · clear hiz
      cases ho
      intro act u hB hL hdep hap hnw
      replace hB := hB [] (fun j _ k hk => lb0_in j k hk)
      obtain ⟨ysl, ha, hy⟩ := hL.puts [3, 4, 5, 6, 7, 8, 9, 10, 11] (by kernel_rfl)
      clear hdep hL hy hap hnw
      simp only [List.foldl, List.setIfInBounds_toArray, List.set_cons_succ, List.set_cons_zero] at ha
      subst ha
      refine wpOp_step rfl (fun K hK => ?_)
      go_simp
      exact hK _ _ ⟨_, rfl, (fun h => by cases h), rfl, But.refl _ _, (fun h => by cases h)⟩
    · clear hiz
      cases ho
      intro act u hB hL hdep hap hnw
      replace hB := hB [] (fun j _ k hk => lb0_in j k hk)
      have d1 := hdep { on := 1, ground := .data } (by simp) rfl _ rfl
      obtain ⟨ysl, ha, hy⟩ := hL.puts [3, 4, 5, 6, 7, 8, 9, 10, 11] (by kernel_rfl)
      have e1 : ysl 4 = _ := (hy 4).symm.trans d1
      clear hdep hL hy hap hnw d1
      simp only [List.foldl, List.setIfInBounds_toArray, List.set_cons_succ, List.set_cons_zero, e1] at ha
      subst ha
      clear e1
      have Bx := HB.out.but hB (by simp)
      obtain ⟨lt, c0, c1, _, _⟩ := Bx
      refine wpOp_step rfl (fun K hK => ?_)
      go_simp
      exact hK _ _ ⟨_, rfl, (fun h => by cases h), rfl, But.refl _ _, (fun h => by cases h)⟩
    · clear hiz
      cases ho
      intro act u hB hL hdep hap hnw
      replace hB := hB [] (fun j _ k hk => lb0_in j k hk)
      have d0 := hdep { on := 0, ground := .data } (by simp) rfl _ rfl
      have d2 := hdep { on := 2, ground := .data } (by simp) rfl _ rfl
      obtain ⟨ysl, ha, hy⟩ := hL.puts [3, 4, 5, 6, 7, 8, 9, 10, 11] (by kernel_rfl)
      obtain ⟨b0, h0⟩ := d0
      have e0 : ysl 3 = .slice (some ⟨b0, 0, none⟩) 0 0 := (hy 3).symm.trans h0
      have e2 : ysl 5 = _ := (hy 5).symm.trans d2
      clear hdep hL hy hap hnw d2 h0
      simp only [List.foldl, List.setIfInBounds_toArray, List.set_cons_succ, List.set_cons_zero, e0, e2] at ha
      subst ha
      clear e0 e2
      refine wpOp_step rfl (fun K hK => ?_)
      rw [if_pos (by simp [Region.wanted])]
      refine wp_append_new4 _ _ 28 rfl 51 j0 (slw sl0) Tryd.underlying28 hj hy0 hy1 hy2 _ rfl ⟨sS, oS, none⟩ _ _ (cls x.S) rfl (by rw [cls_len, Nat.mul_comm]) (range_add (KS.out u (fr_but HF.out hB (fun k hk => by cases hk)))) (cls_one _) (by have := HL.out; omega) (by have := HL.out; omega) ?_
      intro cp zs
      refine hK _ _ ⟨_, rfl, (fun h => by cases h), ⟨_, cp, rfl, hB.size, ro4_new u.drew x.S zs _⟩, But.of ((Below.drew (Below.refl _ _)).alloc (Nat.le_refl _) _), (fun _ p hp => by cases hp; exact ⟨Nat.le_refl _, by simp⟩)⟩
    · clear hiz
      cases ho
      intro act u hB hL hdep hap hnw
      replace hB := hB [] (fun j _ k hk => lb0_in j k hk)
      obtain ⟨ysl, ha, hy⟩ := hL.puts [3, 4, 5, 6, 7, 8, 9, 10, 11] (by kernel_rfl)
      clear hdep hL hy hap hnw
      simp only [List.foldl, List.setIfInBounds_toArray, List.set_cons_succ, List.set_cons_zero] at ha
      subst ha
      refine wpOp_step rfl (fun K hK => ?_)
      go_simp
      exact hK _ _ ⟨_, rfl, (fun h => by cases h), ⟨_, rfl⟩, But.of (Fr.alloc _ _), (fun h => by cases h)⟩
    · clear hiz
      cases ho
      intro act u hB hL hdep hap hnw
      replace hB := hB [] (fun j _ k hk => lb0_in j k hk)
      obtain ⟨ysl, ha, hy⟩ := hL.puts [3, 4, 5, 6, 7, 8, 9, 10, 11] (by kernel_rfl)
      clear hdep hL hy hap hnw
      simp only [List.foldl, List.setIfInBounds_toArray, List.set_cons_succ, List.set_cons_zero] at ha
      subst ha
      refine wpOp_step rfl (fun K hK => ?_)
      go_simp
      exact hK _ _ ⟨_, rfl, (fun h => by cases h), rfl, But.refl _ _, (fun h => by cases h)⟩
    · clear hiz
      cases ho
      intro act u hB hL hdep hap hnw
      replace hB := hB [] (fun j _ k hk => lb0_in j k hk)
      have d5 := hdep { on := 5, ground := .data } (by simp) rfl _ rfl
      obtain ⟨ysl, ha, hy⟩ := hL.puts [3, 4, 5, 6, 7, 8, 9, 10, 11] (by kernel_rfl)
      have e5 : ysl 8 = _ := (hy 8).symm.trans d5
      clear hdep hL hy hap hnw d5
      simp only [List.foldl, List.setIfInBounds_toArray, List.set_cons_succ, List.set_cons_zero, e5] at ha
      subst ha
      clear e5
      have Bx := HB.out.but hB (by simp)
      obtain ⟨lt, c0, c1, _, _⟩ := Bx
      refine wpOp_step rfl (fun K hK => ?_)
      go_simp
      exact hK _ _ ⟨_, rfl, (fun h => by cases h), rfl, But.refl _ _, (fun h => by cases h)⟩
    · clear hiz
      cases ho
      intro act u hB hL hdep hap hnw
      replace hB := hB [] (fun j _ k hk => lb0_in j k hk)
      have d4 := hdep { on := 4, ground := .data } (by simp) rfl _ rfl
      have d6 := hdep { on := 6, ground := .data } (by simp) rfl _ rfl
      obtain ⟨ysl, ha, hy⟩ := hL.puts [3, 4, 5, 6, 7, 8, 9, 10, 11] (by kernel_rfl)
      obtain ⟨b4, h4⟩ := d4
      have e4 : ysl 7 = .slice (some ⟨b4, 0, none⟩) 0 0 := (hy 7).symm.trans h4
      have e6 : ysl 9 = _ := (hy 9).symm.trans d6
      clear hdep hL hy hap hnw d6 h4
      simp only [List.foldl, List.setIfInBounds_toArray, List.set_cons_succ, List.set_cons_zero, e4, e6] at ha
      subst ha
      clear e4 e6
      refine wpOp_step rfl (fun K hK => ?_)
      rw [if_pos (by simp [Region.wanted])]
      refine wp_append_new _ _ 23 rfl 3 i0 (.int .i64 0) Tryd.underlying23 hi hz0 hz1 hz2 _ rfl ⟨sC, oC, none⟩ _ _ (x.C.map (Value.int .i64)) rfl (by simp) (cells_of x.C (KC.out u (fr_but HF.out hB (fun k hk => by cases hk)))) (ints_one _) HP.out (by have := HC.out; omega) ?_
      intro cp zs hzs
      refine hK _ _ ⟨_, rfl, (fun h => by cases h), ⟨_, cp, rfl, hB.size, ro_new u.drew x.C zs _, ca_new u.drew x.C zs cp (hzs rfl)⟩, But.of ((Below.drew (Below.refl _ _)).alloc (Nat.le_refl _) _), (fun _ p hp => by cases hp; exact ⟨Nat.le_refl _, by simp⟩)⟩
    · clear hiz
      cases ho
      intro act u hB hL hdep hap hnw
      replace hB := hB [] (fun j _ k hk => lb0_in j k hk)
      have d3 := hdep { on := 3, ground := .data } (by simp) rfl _ rfl
      have d7 := hdep { on := 7, ground := .data } (by simp) rfl _ rfl
      obtain ⟨ysl, ha, hy⟩ := hL.puts [3, 4, 5, 6, 7, 8, 9, 10, 11] (by kernel_rfl)
      obtain ⟨g3, c3, h3, hB3, r3⟩ := d3
      have e3 : ysl 6 = .slice (some ⟨g3, 0, none⟩) x.S.length c3 := (hy 6).symm.trans h3
      obtain ⟨g7, c7, h7, hB7, r7, k7⟩ := d7
      have e7 : ysl 10 = .slice (some ⟨g7, 0, none⟩) x.C.length c7 := (hy 10).symm.trans h7
      have ne1 := hap { on := 3, ground := .data } (by simp) { on := 7, ground := .data } (by simp) rfl rfl (by decide) rfl rfl _ _ rfl rfl g3 g7 (by rw [h3]; rfl) (by rw [h7]; rfl)
      clear hdep hL hy hap hnw h3 h7
      simp only [List.foldl, List.setIfInBounds_toArray, List.set_cons_succ, List.set_cons_zero, e3, e7] at ha
      subst ha
      clear e3 e7
      refine wpOp_step rfl (fun K hK => ?_)
      go_simp
      exact hK _ _ ⟨_, rfl, (fun h => by cases h), ⟨g3, g7, c3, c7, rfl, hB3, hB7, r3, r7, k7, ne1⟩, But.refl _ _, (fun h => by cases h)⟩
    · exact absurd rfl hiz
    · exact absurd ho (by simp)
  case fin =>
    intro act u hB hL hsf hap hnw
    have d8 := hsf 8 _ rfl (by decide)
    obtain ⟨ysl, ha, hy⟩ := hL.puts [3, 4, 5, 6, 7, 8, 9, 10, 11] (by kernel_rfl)
    obtain ⟨gS, gC, c1, c2, h8, q1, q2, q3, q4, q5, q6⟩ := d8
    have e8 : ysl 11 = .agg #[.slice (some ⟨gS, 0, none⟩) x.S.length c1, .slice (some ⟨gC, 0, none⟩) x.C.length c2] := (hy 11).symm.trans h8
    clear hL hsf hy hap hnw h8
    simp only [List.foldl, List.setIfInBounds_toArray, List.set_cons_succ, List.set_cons_zero, e8] at ha
    subst ha
    clear e8
    have Bz := HZ.out.but hB (by simp)
    have Bz0 := Bz
    obtain ⟨lt, c0, z0c, f0, f1⟩ := Bz0
    refine wpOp_step rfl (fun K hK => ?_)
    go_simp
    refine hK _ _ ?_
    have Bn := Bz.set (.slice (some ⟨gS, 0, none⟩) x.S.length c1) (.slice (some ⟨gC, 0, none⟩) x.C.length c2)
    have z0 := Bn.c0
    have z1 := Bn.c1
    have hst : But [w.heap.size + 1] u ((u.setCell ⟨w.heap.size + 1, 0, none⟩ (.slice (some ⟨gS, 0, none⟩) x.S.length c1)).setCell ⟨w.heap.size + 1, 1, none⟩ (.slice (some ⟨gC, 0, none⟩) x.C.length c2)) := (But.refl _ _).set2 (w.heap.size + 1) _ _ (.inl (by simp))
    have HFin := Lib.hid (show Fr w _ from fr_but (fr_but HF.out hB (fun k hk => by cases hk)) hst (fun k hk => by have := List.mem_singleton.1 hk; omega))
    have HO := Lib.hid (q3.but hst (by simp; omega))
    have HO2 := Lib.hid (q4.but hst (by simp; omega))
    have HO3 := Lib.hid (q5.but hst (by simp; omega))
    clear Bn Bz c0 z0c f0 f1 hst q3 q4 q5
    generalize ((u.setCell ⟨w.heap.size + 1, 0, none⟩ (.slice (some ⟨gS, 0, none⟩) x.S.length c1)).setCell ⟨w.heap.size + 1, 1, none⟩ (.slice (some ⟨gC, 0, none⟩) x.C.length c2)) = u9 at *
    go_wp2
    refine bodyPost_ret (v := .agg #[.slice (some ⟨gS, 0, none⟩) x.S.length c1, .slice (some ⟨gC, 0, none⟩) x.C.length c2]) (by simp [results, Tryd.results46, go_sem, z0, z1]) rfl ?_
    exact ⟨gS, _, c1, c2, rfl, by omega, HO.out, .inr ⟨gC, rfl, by omega, HO2.out, HO3.out, HP.out⟩, fun g hg _ => by cases hg; exact q6, HFin.out⟩
def c5SFb (B b : Nat) (x : Gu) (aS aC : Option Addr) (cS cC : Nat) : Nat → Value → World → Prop
  | 0, v, _ => ∃ g : Nat, v = .slice (some ⟨g, 0, none⟩) 0 0
  | 1, v, _ => v = .pointer (some ⟨b, 0, none⟩)
  | 2, v, _ => v = .slice aS x.S.length cS
  | 3, v, u => Nrow4 B x.S v u
  | 4, v, _ => ∃ g : Nat, v = .slice (some ⟨g, 0, none⟩) 0 0
  | 5, v, _ => v = .pointer (some ⟨b, 1, none⟩)
  | 6, v, _ => v = .slice aC x.C.length cC
  | 7, v, _ => ∃ g : Nat, v = .slice (some ⟨g, 0, none⟩) 0 0
  | 8, v, u => ∃ gS gC c1, v = .agg #[.slice (some ⟨gS, 0, none⟩) x.S.length c1, .slice (some ⟨gC, 0, none⟩) 0 0] ∧ B ≤ gS ∧ Ro4 u gS x.S
  | _, _, _ => True
set_option maxRecDepth 8000 in
set_option maxHeartbeats 4000000 in
theorem spec_l5Copy_b (x : Gu) (aS aC : Option Addr) (cS cC : Nat) (w : World) (h : Src4 w x.S aS) (hc : Src w x.C.length (ivl x.C) aC) (hl : x.S.length = 8) (hcl : x.C.length ≤ 100) (hp : x.C.length = 0) :
    Calls Tryd.prog 46 #[.agg #[.slice aS x.S.length cS, .slice aC x.C.length cC]] w (GuC x w) := by
  obtain ⟨sS, oS, rfl, lS, kS⟩ := h (by omega)
  have KS := Lib.hid (fun (u : World) (f : Fr w u) => range_fr kS f lS)
  clear kS
  obtain ⟨i0, hi, hz0, hz1, hz2⟩ := info_parts info_intV
  obtain ⟨j0, hj, hy0, hy1, hy2⟩ := info_partsN info_slotV
  have F2 : Fr w ((w.alloc (.cells #[.slice (some ⟨sS, oS, none⟩) x.S.length cS, .slice aC x.C.length cC] 30)).alloc (.cells #[.slice none 0 0, .slice none 0 0] 30)) := by
    (repeat' first | (with_reducible exact Below.refl _ _) | (with_reducible assumption) | ((with_reducible refine Below.setCell ?_ ?hb _); (case hb => first | exact Nat.le_refl _ | (simp; done) | (simp; omega) | omega)) | ((with_reducible refine Below.alloc ?_ ?hb _); (case hb => first | exact Nat.le_refl _ | (simp; done) | (simp; omega) | omega)) | (with_reducible refine Below.drew ?_))
  have HF := Lib.hid F2
  have HB := Lib.hid ((Box2.new w (.slice (some ⟨sS, oS, none⟩) x.S.length cS) (.slice aC x.C.length cC) 30 _ rfl).fr (Fr.alloc _ (.cells #[.slice none 0 0, .slice none 0 0] 30)))
  have HZ := Lib.hid (Box2.new (w.alloc (.cells #[.slice (some ⟨sS, oS, none⟩) x.S.length cS, .slice aC x.C.length cC] 30)) (.slice none 0 0) (.slice none 0 0) 30 (w.heap.size + 1) (by simp))
  have HL := Lib.hid hl
  have HC := Lib.hid hcl
  have HP := Lib.hid hp
  clear F2 h hc hl hcl hp
  go_enter Tryd.func46, Tryd.ntmps46
  go_wp2_with fail
  generalize hu : ((w.alloc (.cells #[.slice (some ⟨sS, oS, none⟩) x.S.length cS, .slice aC x.C.length cC] 30)).alloc (.cells #[.slice none 0 0, .slice none 0 0] 30)) = u0 at *
  have hu0 : u0.heap.size = w.heap.size + 2 := by rw [← hu]; simp
  clear hu
  refine wp_region_rows 12 9 [] (fun _ => []) lb0_in (fun i => i == 3) (c5SFb u0.heap.size w.heap.size x (some ⟨sS, oS, none⟩) aC cS cC) ?mono (by kernel_rfl) (by kernel_rfl) rfl (by kernel_rfl) (by kernel_rfl) (by decide) ?step ?fin
  case mono =>
    intro i j v u u' hi hij hdj hsz h hB
    rcases j with _ | _ | _ | _ | _ | _ | _ | _ | _ | j
    · exact h
    · exact h
    · exact h
    · exact h.but hB (fun k hk => by cases hk)
    · exact h
    · exact h
    · exact h
    · exact h
    · obtain ⟨gS, gC, c1, e, h1, h3⟩ := h
      exact ⟨gS, gC, c1, e, h1, h3.but hB (by simp)⟩
    · trivial
  case step =>
    intro i o ho hiz
    rcases i with _ | _ | _ | _ | _ | _ | _ | _ | _ | _ | i
    · clear hiz
      cases ho
      intro act u hB hL hdep hap hnw
      replace hB := hB [] (fun j _ k hk => lb0_in j k hk)
      obtain ⟨ysl, ha, hy⟩ := hL.puts [3, 4, 5, 6, 7, 8, 9, 10, 11] (by kernel_rfl)
      clear hdep hL hy hap hnw
      simp only [List.foldl, List.setIfInBounds_toArray, List.set_cons_succ, List.set_cons_zero] at ha
      subst ha
      refine wpOp_step rfl (fun K hK => ?_)
      go_simp
      exact hK _ _ ⟨_, rfl, (fun h => by cases h), ⟨_, rfl⟩, But.of (Fr.alloc _ _), (fun h => by cases h)⟩
    · clear hiz
      cases ho
      intro act u hB hL hdep hap hnw
      replace hB := hB [] (fun j _ k hk => lb0_in j k hk)
      obtain ⟨ysl, ha, hy⟩ := hL.puts [3, 4, 5, 6, 7, 8, 9, 10, 11] (by kernel_rfl)
      clear hdep hL hy hap hnw
      simp only [List.foldl, List.setIfInBounds_toArray, List.set_cons_succ, List.set_cons_zero] at ha
      subst ha
      refine wpOp_step rfl (fun K hK => ?_)
      go_simp
      exact hK _ _ ⟨_, rfl, (fun h => by cases h), rfl, But.refl _ _, (fun h => by cases h)⟩
    · clear hiz
      cases ho
      intro act u hB hL hdep hap hnw
      replace hB := hB [] (fun j _ k hk => lb0_in j k hk)
      have d1 := hdep { on := 1, ground := .data } (by simp) rfl _ rfl
      obtain ⟨ysl, ha, hy⟩ := hL.puts [3, 4, 5, 6, 7, 8, 9, 10, 11] (by kernel_rfl)
      have e1 : ysl 4 = _ := (hy 4).symm.trans d1
      clear hdep hL hy hap hnw d1
      simp only [List.foldl, List.setIfInBounds_toArray, List.set_cons_succ, List.set_cons_zero, e1] at ha
      subst ha
      clear e1
      have Bx := HB.out.but hB (by simp)
      obtain ⟨lt, c0, c1, _, _⟩ := Bx
      refine wpOp_step rfl (fun K hK => ?_)
      go_simp
      exact hK _ _ ⟨_, rfl, (fun h => by cases h), rfl, But.refl _ _, (fun h => by cases h)⟩
    · clear hiz
      cases ho
      intro act u hB hL hdep hap hnw
      replace hB := hB [] (fun j _ k hk => lb0_in j k hk)
      have d0 := hdep { on := 0, ground := .data } (by simp) rfl _ rfl
      have d2 := hdep { on := 2, ground := .data } (by simp) rfl _ rfl
      obtain ⟨ysl, ha, hy⟩ := hL.puts [3, 4, 5, 6, 7, 8, 9, 10, 11] (by kernel_rfl)
      obtain ⟨b0, h0⟩ := d0
      have e0 : ysl 3 = .slice (some ⟨b0, 0, none⟩) 0 0 := (hy 3).symm.trans h0
      have e2 : ysl 5 = _ := (hy 5).symm.trans d2
      clear hdep hL hy hap hnw d2 h0
      simp only [List.foldl, List.setIfInBounds_toArray, List.set_cons_succ, List.set_cons_zero, e0, e2] at ha
      subst ha
      clear e0 e2
      refine wpOp_step rfl (fun K hK => ?_)
      rw [if_pos (by simp [Region.wanted])]
      refine wp_append_new4 _ _ 28 rfl 51 j0 (slw sl0) Tryd.underlying28 hj hy0 hy1 hy2 _ rfl ⟨sS, oS, none⟩ _ _ (cls x.S) rfl (by rw [cls_len, Nat.mul_comm]) (range_add (KS.out u (fr_but HF.out hB (fun k hk => by cases hk)))) (cls_one _) (by have := HL.out; omega) (by have := HL.out; omega) ?_
      intro cp zs
      refine hK _ _ ⟨_, rfl, (fun h => by cases h), ⟨_, cp, rfl, hB.size, ro4_new u.drew x.S zs _⟩, But.of ((Below.drew (Below.refl _ _)).alloc (Nat.le_refl _) _), (fun _ p hp => by cases hp; exact ⟨Nat.le_refl _, by simp⟩)⟩
    · clear hiz
      cases ho
      intro act u hB hL hdep hap hnw
      replace hB := hB [] (fun j _ k hk => lb0_in j k hk)
      obtain ⟨ysl, ha, hy⟩ := hL.puts [3, 4, 5, 6, 7, 8, 9, 10, 11] (by kernel_rfl)
      clear hdep hL hy hap hnw
      simp only [List.foldl, List.setIfInBounds_toArray, List.set_cons_succ, List.set_cons_zero] at ha
      subst ha
      refine wpOp_step rfl (fun K hK => ?_)
      go_simp
      exact hK _ _ ⟨_, rfl, (fun h => by cases h), ⟨_, rfl⟩, But.of (Fr.alloc _ _), (fun h => by cases h)⟩
    · clear hiz
      cases ho
      intro act u hB hL hdep hap hnw
      replace hB := hB [] (fun j _ k hk => lb0_in j k hk)
      obtain ⟨ysl, ha, hy⟩ := hL.puts [3, 4, 5, 6, 7, 8, 9, 10, 11] (by kernel_rfl)
      clear hdep hL hy hap hnw
      simp only [List.foldl, List.setIfInBounds_toArray, List.set_cons_succ, List.set_cons_zero] at ha
      subst ha
      refine wpOp_step rfl (fun K hK => ?_)
      go_simp
      exact hK _ _ ⟨_, rfl, (fun h => by cases h), rfl, But.refl _ _, (fun h => by cases h)⟩
    · clear hiz
      cases ho
      intro act u hB hL hdep hap hnw
      replace hB := hB [] (fun j _ k hk => lb0_in j k hk)
      have d5 := hdep { on := 5, ground := .data } (by simp) rfl _ rfl
      obtain ⟨ysl, ha, hy⟩ := hL.puts [3, 4, 5, 6, 7, 8, 9, 10, 11] (by kernel_rfl)
      have e5 : ysl 8 = _ := (hy 8).symm.trans d5
      clear hdep hL hy hap hnw d5
      simp only [List.foldl, List.setIfInBounds_toArray, List.set_cons_succ, List.set_cons_zero, e5] at ha
      subst ha
      clear e5
      have Bx := HB.out.but hB (by simp)
      obtain ⟨lt, c0, c1, _, _⟩ := Bx
      refine wpOp_step rfl (fun K hK => ?_)
      go_simp
      exact hK _ _ ⟨_, rfl, (fun h => by cases h), rfl, But.refl _ _, (fun h => by cases h)⟩
    · clear hiz
      cases ho
      intro act u hB hL hdep hap hnw
      replace hB := hB [] (fun j _ k hk => lb0_in j k hk)
      have d4 := hdep { on := 4, ground := .data } (by simp) rfl _ rfl
      have d6 := hdep { on := 6, ground := .data } (by simp) rfl _ rfl
      obtain ⟨ysl, ha, hy⟩ := hL.puts [3, 4, 5, 6, 7, 8, 9, 10, 11] (by kernel_rfl)
      obtain ⟨b4, h4⟩ := d4
      have e4 : ysl 7 = .slice (some ⟨b4, 0, none⟩) 0 0 := (hy 7).symm.trans h4
      have e6 : ysl 9 = _ := (hy 9).symm.trans d6
      clear hdep hL hy hap hnw d6 h4
      simp only [List.foldl, List.setIfInBounds_toArray, List.set_cons_succ, List.set_cons_zero, e4, e6] at ha
      subst ha
      clear e4 e6
      refine wpOp_step rfl (fun K hK => ?_)
      rw [if_pos (by simp [Region.wanted])]
      refine wp_append_zero _ _ 23 rfl 3 i0 Tryd.underlying23 hi _ 0 0 (Nat.le_refl _) rfl aC cC (by rw [← HP.out]; rfl) ?_
      exact hK _ _ ⟨_, rfl, (fun h => by cases h), ⟨b4, rfl⟩, But.refl _ _, (fun h => by cases h)⟩
    · clear hiz
      cases ho
      intro act u hB hL hdep hap hnw
      replace hB := hB [] (fun j _ k hk => lb0_in j k hk)
      have d3 := hdep { on := 3, ground := .data } (by simp) rfl _ rfl
      have d7 := hdep { on := 7, ground := .data } (by simp) rfl _ rfl
      obtain ⟨ysl, ha, hy⟩ := hL.puts [3, 4, 5, 6, 7, 8, 9, 10, 11] (by kernel_rfl)
      obtain ⟨g3, c3, h3, hB3, r3⟩ := d3
      have e3 : ysl 6 = .slice (some ⟨g3, 0, none⟩) x.S.length c3 := (hy 6).symm.trans h3
      obtain ⟨b7, h7⟩ := d7
      have e7 : ysl 10 = .slice (some ⟨b7, 0, none⟩) 0 0 := (hy 10).symm.trans h7
      clear hdep hL hy hap hnw h3 h7
      simp only [List.foldl, List.setIfInBounds_toArray, List.set_cons_succ, List.set_cons_zero, e3, e7] at ha
      subst ha
      clear e3 e7
      refine wpOp_step rfl (fun K hK => ?_)
      go_simp
      exact hK _ _ ⟨_, rfl, (fun h => by cases h), ⟨g3, b7, c3, rfl, hB3, r3⟩, But.refl _ _, (fun h => by cases h)⟩
    · exact absurd rfl hiz
    · exact absurd ho (by simp)
  case fin =>
    intro act u hB hL hsf hap hnw
    have d8 := hsf 8 _ rfl (by decide)
    obtain ⟨ysl, ha, hy⟩ := hL.puts [3, 4, 5, 6, 7, 8, 9, 10, 11] (by kernel_rfl)
    obtain ⟨gS, gC, c1, h8, q1, q3⟩ := d8
    have e8 : ysl 11 = .agg #[.slice (some ⟨gS, 0, none⟩) x.S.length c1, .slice (some ⟨gC, 0, none⟩) 0 0] := (hy 11).symm.trans h8
    clear hL hsf hy hap hnw h8
    simp only [List.foldl, List.setIfInBounds_toArray, List.set_cons_succ, List.set_cons_zero, e8] at ha
    subst ha
    clear e8
    have Bz := HZ.out.but hB (by simp)
    have Bz0 := Bz
    obtain ⟨lt, c0, z0c, f0, f1⟩ := Bz0
    refine wpOp_step rfl (fun K hK => ?_)
    go_simp
    refine hK _ _ ?_
    have Bn := Bz.set (.slice (some ⟨gS, 0, none⟩) x.S.length c1) (.slice (some ⟨gC, 0, none⟩) 0 0)
    have z0 := Bn.c0
    have z1 := Bn.c1
    have hst : But [w.heap.size + 1] u ((u.setCell ⟨w.heap.size + 1, 0, none⟩ (.slice (some ⟨gS, 0, none⟩) x.S.length c1)).setCell ⟨w.heap.size + 1, 1, none⟩ (.slice (some ⟨gC, 0, none⟩) 0 0)) := (But.refl _ _).set2 (w.heap.size + 1) _ _ (.inl (by simp))
    have HFin := Lib.hid (show Fr w _ from fr_but (fr_but HF.out hB (fun k hk => by cases hk)) hst (fun k hk => by have := List.mem_singleton.1 hk; omega))
    have HO := Lib.hid (q3.but hst (by simp; omega))
    clear Bn Bz c0 z0c f0 f1 hst q3 
    generalize ((u.setCell ⟨w.heap.size + 1, 0, none⟩ (.slice (some ⟨gS, 0, none⟩) x.S.length c1)).setCell ⟨w.heap.size + 1, 1, none⟩ (.slice (some ⟨gC, 0, none⟩) 0 0)) = u9 at *
    go_wp2
    refine bodyPost_ret (v := .agg #[.slice (some ⟨gS, 0, none⟩) x.S.length c1, .slice (some ⟨gC, 0, none⟩) 0 0]) (by simp [results, Tryd.results46, go_sem, z0, z1]) rfl ?_
    exact ⟨gS, _, c1, 0, by rw [HP.out], by omega, HO.out, .inl ⟨HP.out, rfl⟩, fun g hg h0 => absurd h0 (by rw [HP.out]; decide), HFin.out⟩
theorem spec_l5Copy (x : Gu) (aS aC : Option Addr) (cS cC : Nat) (w : World) (h : Src4 w x.S aS) (hc : Src w x.C.length (ivl x.C) aC) (hl : x.S.length = 8) (hcl : x.C.length ≤ 100) :
    Calls Tryd.prog 46 #[.agg #[.slice aS x.S.length cS, .slice aC x.C.length cC]] w (GuC x w) := by
  by_cases hp : 0 < x.C.length
  · exact spec_l5Copy_a x aS aC cS cC w h hc hl hcl hp
  · exact spec_l5Copy_b x aS aC cS cC w h hc hl hcl (by omega)

end Go.Proofs.YtpdlcjjmhcfkjaaDoor
