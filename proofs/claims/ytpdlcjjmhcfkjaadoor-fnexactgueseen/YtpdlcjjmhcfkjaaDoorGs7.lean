/- A call that is seen, of the model. -/
import Derived.Maps.AppendAt
import Derived.Test.YtpdlcjjmhcfkjaaDoorGs
namespace Go.Proofs.YtpdlcjjmhcfkjaaDoor
open Go.RowKit
set_option linter.unusedVariables false
set_option linter.unusedSimpArgs false
theorem but_grown {w w' : World} {g : Nat} (h : w.grownBy w' (some g)) : But [g] w w' :=
  ⟨h.os, h.tape, h.output, h.size, fun k hk hn => h.block k hk (fun e => hn (by cases e; simp))⟩
theorem but_grown0 {w w' : World} (h : w.grownBy w' none) : But [] w w' := But.of (grown_fr h)
section
variable {P : Program} (w : World)
theorem wp_append_own_at {o : Oper} {a : Act} {K : Act → World → Prop} {Q : Exit → Act → World → Prop} (s x : Operand) (t : TypeId)
    (ho : o.op = .call { callee := .builtin .append, args := #[s, x], argTypes := #[t, t] })
    (base : Nat) (e : TypeId) (i : TypeInfo) (z : Value) (size bytes : Nat) (ht : P.underlying t = some (.slice e)) (hi : P.info? e = some i) (hz : i.zero = some z)
    (hsize : i.size = size) (hby : i.bytes = bytes) (hzs : z.cells.size = size) (hsz : 0 < size)
    (v : Value) (n : Nat) (xs : List Value) (hs : a.eval s = v) (hown : w.ownsRow base e size v n xs)
    (ad : Addr) (m c : Nat) (news : List Value) (hx : a.eval x = .slice (some ad) m c) (hl : news.length = m * size) (hnews : ∀ j u, news[j]? = some u → w.cell? (ad.add j) = some u) (h1 : ∀ u ∈ news, u.oneCell' = true)
    (h63 : n + m ≤ maxLen) (hbytes : (n + m) * bytes ≤ 140737488355328) (hbase : base ≤ w.heap.size)
    (h : ∀ v' w', w'.ownsRow base e size v' (n + m) (xs ++ news) → w.grownBy w' v.ownBlock → (v'.ownBlock = v.ownBlock ∨ v'.ownBlock = some w.heap.size) → K (a.put o.dst v') w') : o.wp P a w K Q := by
  obtain ⟨v', w', hr, h2, h3, _, h5⟩ := run_append_own_at (P := P) w base t o.type e i z size bytes ht hi hz hsize hby hzs hsz v n xs hown ad m c news hl hnews h1 h63 hbytes hbase
  unfold Oper.wp execOp
  simp only [ho, resolve, invoke, builtin, Sem.run_bind, Sem.run_pure, Result.andThen_ok, List.map_toArray, List.map_cons, List.map_nil, hs, hx, hr]
  exact h v' w' h2 h3 h5
end
def s7SF (B B0 b : Nat) (C Cz : List Int) (aC : Option Addr) (cC : Nat) (pc z : Int) : Nat → Value → World → Prop
  | 0, v, _ => v = .pointer (some ⟨b, 1, none⟩)
  | 1, v, _ => v = .slice aC C.length cC
  | 2, v, _ => v = .int .i64 pc
  | 3, v, _ => v = .int .i64 (pc + 1)
  | 4, v, _ => v = .int .i64 z
  | 5, v, u => ∃ g, v = .slice (some ⟨g, 0, none⟩) 1 1 ∧ B0 ≤ g ∧ u.cell? ⟨g, 0, none⟩ = some (.int .i64 z) ∧ g < u.heap.size
  | 6, v, u => ∃ ao c, v = .slice ao Cz.length c ∧ Rc B u Cz ao c ∧ ∀ g, ao = some ⟨g, 0, none⟩ → g < b ∨ B0 ≤ g
  | 7, v, _ => v = .pointer (some ⟨b, 1, none⟩)
  | _, _, _ => True
theorem box_t1 {u : World} {g : Nat} {a b : Value} (h : Box2 u g a b) (b' : Value) : Box2 (u.setCell ⟨g, 1, none⟩ b') g a b' :=
  ⟨by simpa [World.setCell] using h.lt, by rw [World.cell?_setCell_other _ _ _ _ (by simp)]; exact h.c0, World.cell?_setCell_same _ _ _ h.c1, by rw [World.frozen?_setCell]; exact h.f0, by rw [World.frozen?_setCell]; exact h.f1⟩
theorem Rc.but' {B : Nat} {u u' : World} {xs : List Int} {ao : Option Addr} {c : Nat} {L : List Nat} (h : Rc B u xs ao c) (f : But L u u') (hL : ∀ k, k ∈ L → ∀ g, ao = some ⟨g, 0, none⟩ → g ≠ k) : Rc B u' xs ao c := by
  rcases h with h | ⟨g, e, hB, r, k, h0⟩
  · exact .inl h
  · exact .inr ⟨g, e, hB, r.but f (fun hm => hL g hm g e rfl), k.but f (fun hm => hL g hm g e rfl), h0⟩
set_option maxRecDepth 8000 in
set_option maxHeartbeats 4000000 in
theorem l5Seen_7a (B gS cS : Nat) (S : List Sl) (C Cz : List Int) (aC : Option Addr) (cC : Nat) (pc m k d a b f n z : Int) (g : Bool) (w : World) (hr : Ro4 w gS S) (hc : Rc B w C aC cC) (hB : B ≤ gS) (hBw : B ≤ w.heap.size) (hap : ∀ x, aC = some ⟨x, 0, none⟩ → 0 < C.length → gS ≠ x) (hl : C.length ≤ 4) (p0 : 0 ≤ pc) (p1 : pc < 65536)
    (hrd : ∀ w, Calls Tryd.prog 72 #[.int .i64 m] w fun e w' => e = .returned (.tuple #[.agg #[.int .i64 k, .int .i64 d, .int .i64 a, .int .i64 b, .int .i64 f, .int .i64 n], .bool g]) ∧ Fr w w') (hg : g = true) (hk : k = 7) (hd : 0 < d) (hz : (pc + 1) % 65536 = z) (hCz : C ++ [z] = Cz) (h0 : 0 < C.length) (h3 : C.length ≤ 3) :
    Calls Tryd.prog 47 #[.agg #[.slice (some ⟨gS, 0, none⟩) 8 cS, .slice aC C.length cC], .int .i64 pc, .int .i64 m] w (SnP B gS cS S (Cz) w) := by
  have hgl := hr.lt
  have F2 : Fr w ((w.alloc (.cells #[.slice (some ⟨gS, 0, none⟩) 8 cS, .slice aC C.length cC] 30)).alloc (.cells #[.slice none 0 0, .slice none 0 0] 30)) := by
    (repeat' first | (with_reducible exact Below.refl _ _) | (with_reducible assumption) | ((with_reducible refine Below.setCell ?_ ?hb _); (case hb => first | exact Nat.le_refl _ | (simp; done) | (simp; omega) | omega)) | ((with_reducible refine Below.alloc ?_ ?hb _); (case hb => first | exact Nat.le_refl _ | (simp; done) | (simp; omega) | omega)) | (with_reducible refine Below.drew ?_))
  have HF := Lib.hid F2
  have HB := Lib.hid ((Box2.new w (.slice (some ⟨gS, 0, none⟩) 8 cS) (.slice aC C.length cC) 30 _ rfl).fr (Fr.alloc _ (.cells #[.slice none 0 0, .slice none 0 0] 30)))
  have HZ := Lib.hid (Box2.new (w.alloc (.cells #[.slice (some ⟨gS, 0, none⟩) 8 cS, .slice aC C.length cC] 30)) (.slice none 0 0) (.slice none 0 0) 30 (w.heap.size + 1) (by simp))
  have HS2 := Lib.hid (show ((w.alloc (.cells #[.slice (some ⟨gS, 0, none⟩) 8 cS, .slice aC C.length cC] 30)).alloc (.cells #[.slice none 0 0, .slice none 0 0] 30)).heap.size = w.heap.size + 2 by simp)
  have HR := Lib.hid hr
  have HC := Lib.hid hc
  have HD := Lib.hid hrd
  clear F2 hr hc hrd
  subst hg hk
  have HZz := Lib.hid hz
  have HCz := Lib.hid hCz
  have hzl : Cz.length = C.length + 1 := by rw [← hCz]; simp
  have HZl := Lib.hid hzl
  obtain ⟨i00, hii, hz0, hz1, hz2⟩ := info_parts info_intV
  clear hz hCz hzl
  go_enter Tryd.func47, Tryd.ntmps47
  go_wp2_with fail
  generalize ((w.alloc (.cells #[.slice (some ⟨gS, 0, none⟩) 8 cS, .slice aC C.length cC] 30)).alloc (.cells #[.slice none 0 0, .slice none 0 0] 30)) = u0 at *
  refine (HD.out _).mono ?_
  rintro e u1 ⟨rfl, f1⟩
  have HF1 := Lib.hid (HF.out.trans f1)
  have HB1 := Lib.hid (HB.out.fr f1)
  have HZ1 := Lib.hid (HZ.out.fr f1)
  have hs1 : w.heap.size + 2 ≤ u1.heap.size := by have := HS2.out; have := f1.size; omega
  clear HF HB HZ HS2 f1 HD
  go_upto_region 2 with fail
  have F3 := Fr.alloc u1 (.cells #[.int .i64 7, .int .i64 d, .int .i64 a, .int .i64 b, .int .i64 f, .int .i64 n] 43)
  have HI : Hid (Box (u1.alloc (.cells #[.int .i64 7, .int .i64 d, .int .i64 a, .int .i64 b, .int .i64 f, .int .i64 n] 43)) u1.heap.size 7 d a b f n) := Lib.hid ⟨(alloc_at u1 _ _ _ rfl 0).1, (alloc_at u1 _ _ _ rfl 1).1, (alloc_at u1 _ _ _ rfl 2).1, (alloc_at u1 _ _ _ rfl 3).1, (alloc_at u1 _ _ _ rfl 4).1, (alloc_at u1 _ _ _ rfl 5).1⟩
  have HF3 := Lib.hid (HF1.out.trans F3)
  have HB3 := Lib.hid (HB1.out.fr F3)
  have HZ3 := Lib.hid (HZ1.out.fr F3)
  have hs3 : w.heap.size + 2 ≤ (u1.alloc (.cells #[.int .i64 7, .int .i64 d, .int .i64 a, .int .i64 b, .int .i64 f, .int .i64 n] 43)).heap.size := by have := F3.size; omega
  clear HF1 HB1 HZ1 F3
  generalize hI : u1.heap.size = bI at *
  generalize (u1.alloc (.cells #[.int .i64 7, .int .i64 d, .int .i64 a, .int .i64 b, .int .i64 f, .int .i64 n] 43)) = u3 at *
  obtain ⟨_, c0, c1, cf0, cf1⟩ := HB3.out
  obtain ⟨_, z0, z1, zf0, zf1⟩ := HZ3.out
  obtain ⟨i0, i1, i2, i3, i4, i5⟩ := HI.out
  obtain ⟨gC, hgC, hBg, hRo, hKa⟩ : ∃ gC, aC = some ⟨gC, 0, none⟩ ∧ B ≤ gC ∧ Ro u3 gC C ∧ Ca u3 gC C.length cC := by
    rcases HC.out with hh | ⟨gC, e, hb, ro, ka, _⟩
    · omega
    · exact ⟨gC, e, hb, ro.fr HF3.out, ka.but (L := []) (But.of HF3.out) (by simp)⟩
  have hgCw : gC < w.heap.size := by
    rcases HC.out with hh | ⟨gC', e, hb, ro, ka, _⟩
    · omega
    · rw [hgC] at e; cases e; exact ro.lt
  have hne := hap gC hgC h0
  subst hgC
  have HRo := Lib.hid hRo
  have HKa := Lib.hid hKa
  clear hRo hKa
  clear c0 c1 cf0 cf1 z0 z1 zf0 zf1
  go_upto_region 5 with fail
  clear i0 i1 i2 i3 i4 i5
  refine wp_region_rows 68 8 [gC] (fun i => if i = 6 then [gC] else []) lb1_in (fun i => false) (s7SF B u3.heap.size w.heap.size C Cz (some ⟨gC, 0, none⟩) cC pc z) ?mono (by kernel_rfl) (by kernel_rfl) rfl (by kernel_rfl) (by kernel_rfl) (by decide) ?step ?fin
  case mono =>
    intro i j v u u' hi hij hdj hsz h hB
    rcases j with _ | _ | _ | _ | _ | _ | _ | _ | j
    · exact h
    · exact h
    · exact h
    · exact h
    · exact h
    · obtain ⟨g, e, hb, hc, hl⟩ := h
      have hB' := hB.mono (L' := [gC]) (fun k hk _ => lb1_in i k hk)
      have hn : g ∉ [gC] := by simp; omega
      exact ⟨g, e, hb, by rw [hB'.cell hl hn]; exact hc, Nat.lt_of_lt_of_le hl hB'.size⟩
    · obtain ⟨ao, c, e, r, rb⟩ := h
      rw [if_neg hij] at hB
      exact ⟨ao, c, e, r.but hB (fun k hk => by cases hk), rb⟩
    · exact h
    · trivial
  case step =>
    intro i o ho hiz
    rcases i with _ | _ | _ | _ | _ | _ | _ | _ | _ | i
    · clear hiz
      cases ho
      intro act u hB hL hdep hap hnw
      replace hB := hB [gC] (fun j _ k hk => lb1_in j k hk)
      obtain ⟨ysl, ha, hy⟩ := hL.puts [25, 26, 27, 28, 29, 30, 31, 32] (by kernel_rfl)
      clear hdep hL hy hap hnw
      simp only [List.foldl, List.setIfInBounds_toArray, List.set_cons_succ, List.set_cons_zero] at ha
      subst ha
      refine wpOp_step rfl (fun K hK => ?_)
      go_simp
      exact hK _ _ ⟨_, rfl, (fun h => by cases h), rfl, But.refl _ _, (fun h => by cases h)⟩
    · clear hiz
      cases ho
      intro act u hB hL hdep hap hnw
      replace hB := hB [gC] (fun j _ k hk => lb1_in j k hk)
      have d0 := hdep { on := 0, ground := .data } (by simp) rfl _ rfl
      obtain ⟨ysl, ha, hy⟩ := hL.puts [25, 26, 27, 28, 29, 30, 31, 32] (by kernel_rfl)
      have e0 : ysl 25 = _ := (hy 25).symm.trans d0
      clear hdep hL hy hap hnw d0
      simp only [List.foldl, List.setIfInBounds_toArray, List.set_cons_succ, List.set_cons_zero, e0] at ha
      subst ha
      clear e0
      have Bx := HB3.out.but hB (by simp <;> omega)
      obtain ⟨lt, c0, c1, _, _⟩ := Bx
      refine wpOp_step rfl (fun K hK => ?_)
      go_simp
      exact hK _ _ ⟨_, rfl, (fun h => by cases h), rfl, But.refl _ _, (fun h => by cases h)⟩
    · clear hiz
      cases ho
      intro act u hB hL hdep hap hnw
      replace hB := hB [gC] (fun j _ k hk => lb1_in j k hk)
      obtain ⟨ysl, ha, hy⟩ := hL.puts [25, 26, 27, 28, 29, 30, 31, 32] (by kernel_rfl)
      clear hdep hL hy hap hnw
      simp only [List.foldl, List.setIfInBounds_toArray, List.set_cons_succ, List.set_cons_zero] at ha
      subst ha
      refine wpOp_step rfl (fun K hK => ?_)
      go_simp
      exact hK _ _ ⟨_, rfl, (fun h => by cases h), rfl, But.refl _ _, (fun h => by cases h)⟩
    · clear hiz
      cases ho
      intro act u hB hL hdep hap hnw
      replace hB := hB [gC] (fun j _ k hk => lb1_in j k hk)
      have d2 := hdep { on := 2, ground := .data } (by simp) rfl _ rfl
      obtain ⟨ysl, ha, hy⟩ := hL.puts [25, 26, 27, 28, 29, 30, 31, 32] (by kernel_rfl)
      have e2 : ysl 27 = _ := (hy 27).symm.trans d2
      clear hdep hL hy hap hnw d2
      simp only [List.foldl, List.setIfInBounds_toArray, List.set_cons_succ, List.set_cons_zero, e2] at ha
      subst ha
      clear e2
      refine wpOp_step rfl (fun K hK => ?_)
      go_simp
      exact hK _ _ ⟨_, rfl, (fun h => by cases h), (by first | rfl | (rw [IntWalk.i64_in (pc + 1) (by omega)]; rfl)), But.refl _ _, (fun h => by cases h)⟩
    · clear hiz
      cases ho
      intro act u hB hL hdep hap hnw
      replace hB := hB [gC] (fun j _ k hk => lb1_in j k hk)
      have d3 := hdep { on := 3, ground := .data } (by simp) rfl _ rfl
      obtain ⟨ysl, ha, hy⟩ := hL.puts [25, 26, 27, 28, 29, 30, 31, 32] (by kernel_rfl)
      have e3 : ysl 28 = _ := (hy 28).symm.trans d3
      clear hdep hL hy hap hnw d3
      simp only [List.foldl, List.setIfInBounds_toArray, List.set_cons_succ, List.set_cons_zero, e3] at ha
      subst ha
      clear e3
      refine wpOp_step rfl (fun K hK => ?_)
      go_simp
      refine (spec_l1Wrap _ _).mono ?_
      rintro e u' ⟨rfl, rfl⟩
      go_simp
      exact hK _ _ ⟨_, rfl, (fun h => by cases h), (by rw [HZz.out]; rfl), But.refl _ _, (fun h => by cases h)⟩
    · clear hiz
      cases ho
      intro act u hB hL hdep hap hnw
      replace hB := hB [gC] (fun j _ k hk => lb1_in j k hk)
      have d4 := hdep { on := 4, ground := .data } (by simp) rfl _ rfl
      obtain ⟨ysl, ha, hy⟩ := hL.puts [25, 26, 27, 28, 29, 30, 31, 32] (by kernel_rfl)
      have e4 : ysl 29 = _ := (hy 29).symm.trans d4
      clear hdep hL hy hap hnw d4
      simp only [List.foldl, List.setIfInBounds_toArray, List.set_cons_succ, List.set_cons_zero, e4] at ha
      subst ha
      clear e4
      refine wpOp_step rfl (fun K hK => ?_)
      go_simp
      exact hK _ _ ⟨_, rfl, (fun h => by cases h), ⟨_, rfl, hB.size, by simp, by simp⟩, But.of (Fr.alloc _ _), (fun h => by cases h)⟩
    · clear hiz
      cases ho
      intro act u hB hL hdep hap hnw
      replace hB := hB [] lb1_out
      have d1 := hdep { on := 1, ground := .data } (by simp) rfl _ rfl
      have d5 := hdep { on := 5, ground := .data } (by simp) rfl _ rfl
      obtain ⟨ysl, ha, hy⟩ := hL.puts [25, 26, 27, 28, 29, 30, 31, 32] (by kernel_rfl)
      have e1 : ysl 26 = _ := (hy 26).symm.trans d1
      obtain ⟨g5, h5, hb5, c5, l5⟩ := d5
      have e5 : ysl 30 = .slice (some ⟨g5, 0, none⟩) 1 1 := (hy 30).symm.trans h5
      clear hdep hL hy hap hnw d1 h5
      simp only [List.foldl, List.setIfInBounds_toArray, List.set_cons_succ, List.set_cons_zero, e1, e5] at ha
      subst ha
      clear e1 e5
      refine wpOp_step rfl (fun K hK => ?_)
      rw [if_pos (by simp [Region.wanted])]
      refine wp_append_own_at _ _ _ 23 rfl B 3 i00 (.int .i64 0) 1 8 Tryd.underlying23 hii hz0 hz1 hz2 rfl (by decide) _ C.length (C.map (Value.int .i64)) rfl (ca_own (HKa.out.but hB (by simp)) (HRo.out.but hB (by simp)) hBg) ⟨g5, 0, none⟩ 1 1 [.int .i64 z] rfl rfl (fun j v hv => by rcases j with _ | j; (simp at hv; subst hv; simpa [Addr.add] using c5); (simp at hv)) (fun v hv => by simp at hv; subst hv; rfl) (by unfold maxLen; omega) (by omega) (by have := hB.size; omega) ?_
      intro v' w' hown hg hat
      have hown' : w'.ownsRow B 3 1 v' (C.length + 1) (Cz.map (Value.int .i64)) := by rw [← HCz.out]; simpa using hown
      obtain ⟨ao, c, hv, hrc⟩ := rc_own hown' (Nat.succ_pos _)
      have hat2 : ∀ g, ao = some ⟨g, 0, none⟩ → g < w.heap.size ∨ u3.heap.size ≤ g := fun g hg => by
        subst hg
        subst hv
        have hsz := hB.size
        rcases hat with h | h
        · have : g = gC := Option.some.inj h
          omega
        · have : g = u.heap.size := Option.some.inj h
          omega
      exact hK _ _ ⟨v', rfl, (fun h => by cases h), ⟨ao, c, hv, hrc, hat2⟩, but_grown hg, (fun h => by cases h)⟩
    · clear hiz
      cases ho
      intro act u hB hL hdep hap hnw
      replace hB := hB [gC] (fun j _ k hk => lb1_in j k hk)
      obtain ⟨ysl, ha, hy⟩ := hL.puts [25, 26, 27, 28, 29, 30, 31, 32] (by kernel_rfl)
      clear hdep hL hy hap hnw
      simp only [List.foldl, List.setIfInBounds_toArray, List.set_cons_succ, List.set_cons_zero] at ha
      subst ha
      refine wpOp_step rfl (fun K hK => ?_)
      go_simp
      exact hK _ _ ⟨_, rfl, (fun h => by cases h), rfl, But.refl _ _, (fun h => by cases h)⟩
    · exact absurd rfl hiz
    · exact absurd ho (by simp)
  case fin =>
    intro act u hB hL hsf hap hnw
    have d6 := hsf 6 _ rfl (by decide)
    have d7 := hsf 7 _ rfl (by decide)
    obtain ⟨ysl, ha, hy⟩ := hL.puts [25, 26, 27, 28, 29, 30, 31, 32] (by kernel_rfl)
    obtain ⟨ao6, c6, h6, r6, b6⟩ := d6
    have e6 : ysl 31 = .slice ao6 Cz.length c6 := (hy 31).symm.trans h6
    have e7 : ysl 32 = _ := (hy 32).symm.trans d7
    clear hL hsf hy hap hnw d7 h6
    simp only [List.foldl, List.setIfInBounds_toArray, List.set_cons_succ, List.set_cons_zero, e6, e7] at ha
    subst ha
    clear e6 e7
    have Bz := HB3.out.but hB (by simp <;> omega)
    have Bz0 := Bz
    obtain ⟨lt, c0, c1, f0, f1⟩ := Bz0
    refine wpOp_step rfl (fun K hK => ?_)
    go_simp
    refine hK _ _ ?_
    have hst : But [w.heap.size] u (u.setCell ⟨w.heap.size, 1, none⟩ (.slice ao6 Cz.length c6)) := (But.refl _ _).set _ _ _ (.inl (by simp))
    have HB9 := Lib.hid (box_t1 Bz (.slice ao6 Cz.length c6))
    have HZ9 := Lib.hid ((HZ3.out.but hB (by simp <;> omega)).but hst (by simp))
    have HI9 : Hid (Box (u.setCell ⟨w.heap.size, 1, none⟩ (.slice ao6 Cz.length c6)) bI 7 d a b f n) := by
      have hIl := HI.out.lt
      have q : ∀ i v, u3.cell? ⟨bI, i, none⟩ = some v → (u.setCell ⟨w.heap.size, 1, none⟩ (.slice ao6 Cz.length c6)).cell? ⟨bI, i, none⟩ = some v := fun i v hv => by rw [hst.cell (Nat.lt_of_lt_of_le hIl hB.size) (by simp <;> omega), hB.cell hIl (by simp <;> omega)]; exact hv
      exact Lib.hid ⟨q _ _ HI.out.c0, q _ _ HI.out.c1, q _ _ HI.out.c2, q _ _ HI.out.c3, q _ _ HI.out.c4, q _ _ HI.out.c5⟩
    have HR9 := Lib.hid (((HR.out.fr HF3.out).but hB (by simp <;> omega)).but hst (by simp <;> omega))
    have HC9 := Lib.hid (r6.but' hst (fun k hk g hg => by have := List.mem_singleton.1 hk; have := b6 g hg; omega))
    have hL1 : Below B w u3 := Below.mono HF3.out hBw
    have hL2 : Below B u3 u := but_below hB (fun k hk => by have := List.mem_singleton.1 hk; omega) (by omega)
    have HL9 := Lib.hid ((hL1.trans hL2).trans (but_below hst (fun k hk => by have := List.mem_singleton.1 hk; omega) (by have := hB.size; omega)))
    have hs9 : u.heap.size = (u.setCell ⟨w.heap.size, 1, none⟩ (.slice ao6 Cz.length c6)).heap.size := by simp [World.setCell]
    have hs9' := hB.size
    clear Bz c0 c1 f0 f1 hst r6 hB lt hL1 hL2
    generalize (u.setCell ⟨w.heap.size, 1, none⟩ (.slice ao6 Cz.length c6)) = u9 at *
    obtain ⟨_, c0, c1, cf0, cf1⟩ := HB9.out
    obtain ⟨_, z0, z1, zf0, zf1⟩ := HZ9.out
    obtain ⟨i0, i1, i2, i3, i4, i5⟩ := HI9.out
    have hn4 : ¬ (4 : Int) < (Cz.length : Int) := by have := HZl.out; omega
    go_wp2_with fail
    all_goals first | (exfalso; omega) | skip
    refine bodyPost_ret (v := .agg #[.slice (some ⟨gS, 0, none⟩) 8 cS, .slice ao6 Cz.length c6]) (by simp [results, Tryd.results47, go_sem, World.cell?_setCell_other, World.cell?_setCell_same, c0, c1, z0, z1]) rfl ?_
    have hst2 : ∀ p q, But [w.heap.size + 1] u9 ((u9.setCell ⟨w.heap.size + 1, 0, none⟩ p).setCell ⟨w.heap.size + 1, 1, none⟩ q) := fun p q => (But.refl _ _).set2 (w.heap.size + 1) p q (.inl (by simp))
    exact ⟨ao6, c6, rfl, HR9.out.but (hst2 _ _) (by simp <;> omega), (HC9.out.but' (hst2 _ _) (fun k hk g hg => by have := List.mem_singleton.1 hk; have := b6 g hg; omega)).src, Below.trans HL9.out (but_below (hst2 _ _) (fun k hk => by have := List.mem_singleton.1 hk; omega) (by omega))⟩

end Go.Proofs.YtpdlcjjmhcfkjaaDoor
