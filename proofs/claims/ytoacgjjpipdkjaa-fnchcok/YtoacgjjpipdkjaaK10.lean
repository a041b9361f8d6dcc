/- A line brought in, of the model. A word written into its line, of the model. A word laid, of the model; all that is seen; a new cache. -/
import Derived.Test.YtoacgjjpipdkjaaK8
namespace Go.Proofs.Ytoacgjjpipdkjaa
open Go.RowKit
set_option linter.unusedVariables false
set_option linter.unusedSimpArgs false
theorem set_far4 {w : World} {g b j o : Nat} {v0 v1 v2 v3 : Value} (h : b ≠ g) : ((((w.setCell ⟨g, o, none⟩ v0).setCell ⟨g, o + 1, none⟩ v1).setCell ⟨g, o + 2, none⟩ v2).setCell ⟨g, o + 3, none⟩ v3).cell? ⟨b, j, none⟩ = w.cell? ⟨b, j, none⟩ := by
  rw [World.cell?_setCell_other _ _ _ _ (by simp [h]), World.cell?_setCell_other _ _ _ _ (by simp [h]), World.cell?_setCell_other _ _ _ _ (by simp [h]), World.cell?_setCell_other _ _ _ _ (by simp [h])]
theorem set_far4d {w : World} {g b j o : Nat} {v0 v1 v2 v3 : Value} (h : b ≠ g) : ((((w.setCell ⟨g, o, none⟩ v0).setCell ⟨g, o + 1, none⟩ v1).setCell ⟨g, o + 2, none⟩ v2).setCell ⟨g, o + 3, none⟩ v3).drew.cell? ⟨b, j, none⟩ = w.cell? ⟨b, j, none⟩ := by rw [drew_cell]; exact set_far4 h
/-- Words of a row that is read, four of them from a place on. -/
theorem src_four {u : World} {M : List Int} {g N : Nat} (h : Ro u g M) (hN : N + 4 ≤ M.length) : Src u (four M N).length (ivl (four M N)) (some ⟨g, N, none⟩) := fun _ => ⟨g, N, rfl, h.lt, fun i hi => by
  rw [four_len] at hi
  rw [h.cel (N + i) (by omega)]
  show _ = some (Value.int .i64 ((four M N).getD i 0))
  rw [four_get _ _ _ hi]⟩
set_option maxRecDepth 100000 in
set_option maxHeartbeats 4000000 in
theorem spec_l7Bring (B : Nat) (M : List Int) (X : List La) (gM gL cM cL : Nat) (a : Int) (w : World) (h : OwK B w M X gM gL) (ho : OkC ⟨M, lns X⟩) (ha : plcB a = true) (hB : B ≤ w.heap.size) (hc : M.length ≤ cM) :
    Calls Try.prog 71 #[caV (some ⟨gM, 0, none⟩) (some ⟨gL, 0, none⟩) M X cM cL, .int .i64 a] w (TurnK B gM gL cM cL X (bringC ⟨M, lns X⟩ a) w) := by
  obtain ⟨a0, a1⟩ := (plcB_iff a).1 ha
  obtain ⟨k, hk, hk4⟩ : ∃ k : Nat, a / 4 % 4 = (k : Int) ∧ k < 4 := ⟨slotOf a, (slotOf_int a).symm, slotOf_lt a⟩
  have hks : slotOf a = k := by have := slotOf_int a; omega
  have hXL : X.length = 4 := by have := ho.Ll; simpa using this
  have hgM := h.M.lt
  have hgL := h.L.r.lt
  have F0 : Fr w ((w.alloc (.cells #[.slice (some ⟨gM, 0, none⟩) M.length cM, .slice (some ⟨gL, 0, none⟩) X.length cL] 30)).alloc (.cells #[.slice none 0 0, .slice none 0 0] 30)) := by (repeat' first | (with_reducible exact Below.refl _ _) | (with_reducible assumption) | ((with_reducible refine Below.setCell ?_ ?hb _); (case hb => first | exact Nat.le_refl _ | (simp; done) | (simp; omega) | omega)) | ((with_reducible refine Below.alloc ?_ ?hb _); (case hb => first | exact Nat.le_refl _ | (simp; done) | (simp; omega) | omega)) | (with_reducible refine Below.drew ?_))
  have HF := Lib.hid F0
  have HX1 := Lib.hid ((Box2.new w (.slice (some ⟨gM, 0, none⟩) M.length cM) (.slice (some ⟨gL, 0, none⟩) X.length cL) 30 _ rfl).fr (Fr.alloc _ (.cells #[.slice none 0 0, .slice none 0 0] 30)))
  have HX2 := Lib.hid (Box2.new (w.alloc (.cells #[.slice (some ⟨gM, 0, none⟩) M.length cM, .slice (some ⟨gL, 0, none⟩) X.length cL] 30)) (.slice none 0 0) (.slice none 0 0) 30 (w.heap.size + 1) (by simp))
  have hs0 : w.heap.size + 2 ≤ ((w.alloc (.cells #[.slice (some ⟨gM, 0, none⟩) M.length cM, .slice (some ⟨gL, 0, none⟩) X.length cL] 30)).alloc (.cells #[.slice none 0 0, .slice none 0 0] 30)).heap.size := by simp
  have HO0 := Lib.hid (h.fr F0)
  have HKB := Lib.hid (fun m hm => (h.lt m hm).2)
  have HXL := Lib.hid hXL
  have HOK := Lib.hid ho
  have P := fun w => spec_l7Slot a w a0 (by omega)
  rw [hk] at P
  have HP := Lib.hid P
  have hkX : (k : Int) < (X.length : Int) := by omega
  have hk0 : (0 : Int) ≤ (k : Int) := Int.natCast_nonneg _
  have HAp := Lib.hid h.ap
  have hBr : ∀ b, holdsL (X.getD k la0).n a = b → bringC ⟨M, lns X⟩ a = if b = true then ⟨M, lns X⟩ else ⟨(backC ⟨M, lns X⟩ k).M, (backC ⟨M, lns X⟩ k).L.set k ⟨true, blkA a, false, four (backC ⟨M, lns X⟩ k).M (blkA a).toNat⟩⟩ := fun b hb => by
    simp only [bringC, heldC, hks]
    rw [lns_get, hb]
  have HBr := Lib.hid hBr
  unfold caV
  clear F0 h ho hXL P hk hks hBr
  go_enter Try.func71, Try.ntmps71
  go_upto_region 1 with fail
  generalize ((w.alloc (.cells #[.slice (some ⟨gM, 0, none⟩) M.length cM, .slice (some ⟨gL, 0, none⟩) X.length cL] 30)).alloc (.cells #[.slice none 0 0, .slice none 0 0] 30)) = u0 at *
  obtain ⟨_, c0, c1, _, _⟩ := HX1.out
  obtain ⟨d0, d1, d2, d3⟩ := HO0.out.L.r.slot k (by have := HXL.out; omega)
  generalize X.getD k la0 = l at *
  obtain ⟨⟨u, p, d, W⟩, ao, c⟩ := l
  simp only at d0 d1 d2 d3
  by_cases hh : u = true ∧ p = blkA a
  · obtain ⟨rfl, hp⟩ := hh
    have HE := Lib.hid (HBr.out true (by simp [holdsL, hp]))
    have hp' : (p == a - a % 4) = true := by simpa [blkA] using hp
    obtain ⟨_, z0, z1, q0, q1⟩ := HX2.out
    clear hp HBr
    go_wp2_with (go_at_call 89; refine (HP.out _).mono ?_; rintro e w' ⟨rfl, rfl⟩)
    have hst : But [w.heap.size + 1] u0 ((u0.setCell ⟨w.heap.size + 1, 0, none⟩ (.slice (some ⟨gM, 0, none⟩) M.length cM)).setCell ⟨w.heap.size + 1, 1, none⟩ (.slice (some ⟨gL, 0, none⟩) X.length cL)) := (But.refl _ _).set2 _ _ _ (.inl (by simp))
    have HX2n := HX2.out.set (.slice (some ⟨gM, 0, none⟩) M.length cM) (.slice (some ⟨gL, 0, none⟩) X.length cL)
    refine bodyPost_ret (v := .agg #[.slice (some ⟨gM, 0, none⟩) M.length cM, .slice (some ⟨gL, 0, none⟩) X.length cL]) (by simp [results, Try.results71, go_sem, HX2n.c0, HX2n.c1]) rfl ?_
    rw [HE.out]
    refine ⟨X, rfl, rfl, HO0.out.but' hst (fun m hm hx => by have := HKB.out m hm; simp at hx; omega), ?_, fun m hm => .inl hm⟩
    exact (But.wide (L := []) (But.of HF.out) (fun _ h => by cases h)).far hst (fun m hm => by simp at hm; omega)
  · have HE := Lib.hid (HBr.out false (by
      cases u
      · simp [holdsL]
      · simp [holdsL]; exact fun e => hh ⟨rfl, e⟩))
    obtain ⟨N, hN⟩ : ∃ N : Nat, a - a % 4 = (N : Int) := ⟨(a - a % 4).toNat, by omega⟩
    have hN2 : N ≤ 252 := by omega
    have HNb : Hid (blkA a = (N : Int)) := Lib.hid hN
    have hpre : Hid ((u && decide (p = blkA a)) = false) := Lib.hid (by
      cases u
      · rfl
      · simp; exact fun e => hh ⟨rfl, e⟩)
    clear HBr hh
    cases u
    · go_upto_region 5 with (go_at_call 89; refine (HP.out _).mono ?_; rintro e w' ⟨rfl, rfl⟩)
      have HB5 := Lib.hid (spec_l7Back B M X gM gL cM cL k u0 HO0.out HOK.out hk4 (by omega))
      have HOb := Lib.hid (backC_ok HOK.out k hk4)
      clear d0 d1 d2 d3
      go_wp2_with fail
      refine HB5.out.mono ?_
      rintro e u1 ⟨X1, rfl, hX1, hO1, hb1, hk1⟩
      have HK1 := Lib.hid (show ∀ m, KB X1 gM gL m → m < w.heap.size ∨ w.heap.size + 2 ≤ m from fun m hm => by
        rcases hk1 m hm with h | h
        · exact .inl (HKB.out m h)
        · right; omega)
      have HK0 := Lib.hid (show ∀ m, KB X1 gM gL m → KB X gM gL m ∨ w.heap.size ≤ m from fun m hm => (hk1 m hm).imp id (fun h => by omega))
      clear hk1
      have HEq := Lib.hid hX1
      have HO1 := Lib.hid hO1
      have HB1 := Lib.hid hb1
      have hs1 := hb1.size
      have HX1a := Lib.hid (HX1.out.but hb1 (by simp; omega))
      have HX2a := Lib.hid (HX2.out.but hb1 (by simp; omega))
      obtain ⟨M1, hM1⟩ : ∃ M1, M1 = (backC ⟨M, lns X⟩ k).M := ⟨_, rfl⟩
      rw [← hM1] at HO1 ⊢
      have HM1 := Lib.hid hM1
      have hXl1 : X1.length = 4 := by
        have e1 := congrArg List.length hX1
        rw [lns_len] at e1
        have := HOb.out.Ll
        omega
      have hMl1 : M1.length = 256 := by have := HOb.out.Ml; rw [← hM1] at this; exact this
      have hMl0 : M.length = 256 := HOK.out.Ml
      have HXl1 := Lib.hid hXl1
      have HMl1 := Lib.hid hMl1
      have hkX1 : (k : Int) < (X1.length : Int) := by omega
      have hcM1 : N + 4 ≤ cM := by omega
      clear hX1 hO1 hb1 hM1 hXl1 hMl1 hMl0 HB5 c0 c1
      obtain ⟨_, c0, c1, q0, q1⟩ := HX1a.out
      go_upto_region 6 with fail
      have hst : But [w.heap.size] u1 ((u1.setCell ⟨w.heap.size, 0, none⟩ (.slice (some ⟨gM, 0, none⟩) M1.length cM)).setCell ⟨w.heap.size, 1, none⟩ (.slice (some ⟨gL, 0, none⟩) X1.length cL)) := (But.refl _ _).set2 _ _ _ (.inl (by simp))
      have HX1b := Lib.hid (HX1a.out.set (.slice (some ⟨gM, 0, none⟩) M1.length cM) (.slice (some ⟨gL, 0, none⟩) X1.length cL))
      have HX2b := Lib.hid (HX2a.out.but hst (by simp))
      have hKB1 : ∀ m, KB X1 gM gL m → m ∉ [w.heap.size] := fun m hm hx => by
        have := HK1.out m hm
        simp at hx
        omega
      have HO2 := Lib.hid (HO1.out.but' hst hKB1)
      have HBt := Lib.hid (show But [gM, gL] w _ from ((But.wide (L := []) (But.of HF.out) (fun _ h => by cases h)).trans HB1.out).far hst (fun m hm => by simp at hm; omega))
      have hs2 : w.heap.size + 2 ≤ ((u1.setCell ⟨w.heap.size, 0, none⟩ (.slice (some ⟨gM, 0, none⟩) M1.length cM)).setCell ⟨w.heap.size, 1, none⟩ (.slice (some ⟨gL, 0, none⟩) X1.length cL)).heap.size := by have := hst.size; omega
      clear hst c0 c1 q0 q1 HX1a HX2a hKB1
      generalize ((u1.setCell ⟨w.heap.size, 0, none⟩ (.slice (some ⟨gM, 0, none⟩) M1.length cM)).setCell ⟨w.heap.size, 1, none⟩ (.slice (some ⟨gL, 0, none⟩) X1.length cL)) = u2 at *
      obtain ⟨_, c0, c1, _, _⟩ := HX1b.out
      have hsl := slice_mid gM 0 M1.length cM N hcM1
      have hsl' := slice_midAt gM 0 M1.length cM N hcM1
      rw [Nat.zero_add] at hsl hsl'
      have hw4 : IntKind.i64.wrap ((N : Int) + 4) = (N : Int) + 4 := IntWalk.i64_in _ (by omega)
      have HSr : Hid (∀ v, Fr u2 v → Src v (four M1 N).length (ivl (four M1 N)) (some ⟨gM, N, none⟩)) := Lib.hid (fun v f => src_four (HO2.out.M.fr f) (by have := HMl1.out; omega))
      have h4 : (four M1 N).length = 4 := rfl
      have H4 := Lib.hid h4
      clear h4
      rw [hN] at *
      go_region_held3 (fun v => v.cell? ⟨w.heap.size, 0, none⟩ = some (.slice (some ⟨gM, 0, none⟩) M1.length cM) ∧ v.cell? ⟨w.heap.size, 1, none⟩ = some (.slice (some ⟨gL, 0, none⟩) X1.length cL))
        (first | (go_keep; done) | (refine ⟨?_, ?_⟩ <;> exact (set_far4 (by omega)).trans (by assumption)))
        (first | (refine wp_append_cp _ _ rfl _ rfl (four M1 N) (some ⟨gM, N, none⟩) (cM - N) rfl (HSr.out _ (by (repeat' first | (with_reducible exact Below.refl _ _) | (with_reducible assumption) | ((with_reducible refine Below.setCell ?_ ?hb _); (case hb => first | exact Nat.le_refl _ | (simp; done) | (simp; omega) | omega)) | ((with_reducible refine Below.alloc ?_ ?hb _); (case hb => first | exact Nat.le_refl _ | (simp; done) | (simp; omega) | omega)) | (with_reducible refine Below.drew ?_)))) (by have := H4.out; omega) ?_; intro ao4 c4 u3 hr hcp f3; have HR := Lib.hid hr; have F3 := Lib.hid (show Fr u2 u3 from Fr.trans (by (repeat' first | (with_reducible exact Below.refl _ _) | (with_reducible assumption) | ((with_reducible refine Below.setCell ?_ ?hb _); (case hb => first | exact Nat.le_refl _ | (simp; done) | (simp; omega) | omega)) | ((with_reducible refine Below.alloc ?_ ?hb _); (case hb => first | exact Nat.le_refl _ | (simp; done) | (simp; omega) | omega)) | (with_reducible refine Below.drew ?_))) f3); obtain ⟨_, e0, e1, _, _⟩ := HX1b.out.fr F3.out; obtain ⟨y0, y1, y2, y3⟩ := (HO2.out.L.r.fr F3.out).slot k (by have := HXl1.out; omega); have TH := (HO2.out.L.r.fr F3.out).there4 k (by have := HXl1.out; omega); have t0 : u3.frozen? ⟨gL, k * 4, none⟩ = false := by { have := (TH 0 (by omega)).2; simpa using this }; have t1 := (TH 1 (by omega)).2; have t2 := (TH 2 (by omega)).2; have t3 := (TH 3 (by omega)).2; clear hr hcp f3 TH))
      obtain ⟨y, hy⟩ : ∃ y : La, y = ⟨⟨true, (N : Int), false, four M1 N⟩, ao4, c4⟩ := ⟨_, rfl⟩
      obtain ⟨v, hv⟩ : ∃ v, u3.setCells gL (k * 4) (lac y) = v := ⟨_, rfl⟩
      have hv' : ((((u3.setCell ⟨gL, k * 4, none⟩ (.bool true)).setCell ⟨gL, k * 4 + 1, none⟩ (.int .i64 (N : Int))).setCell ⟨gL, k * 4 + 2, none⟩ (.bool false)).setCell ⟨gL, k * 4 + 3, none⟩ (.slice ao4 (four M1 N).length c4)) = v := by rw [← hv, hy]; rfl
      have hzr : u2.heap.size ≤ (u2.drew.alloc (.cells #[] 3)).heap.size := (show Fr u2 (u2.drew.alloc (.cells #[] 3)) by (repeat' first | (with_reducible exact Below.refl _ _) | (with_reducible assumption) | ((with_reducible refine Below.setCell ?_ ?hb _); (case hb => first | exact Nat.le_refl _ | (simp; done) | (simp; omega) | omega)) | ((with_reducible refine Below.alloc ?_ ?hb _); (case hb => first | exact Nat.le_refl _ | (simp; done) | (simp; omega) | omega)) | (with_reducible refine Below.drew ?_))).size
      have hyv : Vc u2.heap.size u3 y.n.W.length (ivl y.n.W) y.a := by rw [hy]; exact HR.out.vc.mono hzr
      have hyb : ∀ m, m ∈ wbk y → u2.heap.size ≤ m := fun m hm => (hyv.bk m hm).1
      have hyn : y.n = ⟨true, (N : Int), false, four M1 N⟩ := by rw [hy]
      have hbs := HBt.out.size
      have O3 := HO2.out.fr F3.out
      have O4 : OwK B v M1 (X1.set k y) gM gL := by
        rw [← hv]
        refine O3.setL k y (by have := HXl1.out; omega) (hyv.mono (by omega)) (fun hm => ?_) (fun hm => ?_) (fun i hi hik m h1 h2 => ?_)
        · have := hyb _ hm; have := HO2.out.L.r.lt; omega
        · have := hyb _ hm; have := HO2.out.M.lt; omega
        · have := hyb _ h1; have := (HO2.out.L.w.bk i hi m h2).2; omega
      have hb4 : But [gL] u3 v := by rw [← hv]; exact But.setCells gL (.inl (by simp)) _ _ _ (But.refl _ _)
      rw [hv']
      have HX1v := Lib.hid ((HX1b.out.fr F3.out).but hb4 (by simp; omega))
      have HX2v := Lib.hid ((HX2b.out.fr F3.out).but hb4 (by simp; omega))
      have HBv := Lib.hid (show But [gM, gL] w v from (HBt.out.trans (But.wide (L := []) (But.of F3.out) (fun _ h => by cases h))).trans (hb4.wide (fun m hm => by simp at hm; simp [hm])))
      have HO4 := Lib.hid O4
      have HYb := Lib.hid hyb
      have HYn := Lib.hid hyn
      clear hv hv' hy hyv hyb hyn O3 O4 hb4 c0 c1 e0 e1 y0 y1 y2 y3 t0 t1 t2 t3 hsl hsl' hw4 hzr
      obtain ⟨_, c0, c1, _, _⟩ := HX1v.out
      obtain ⟨_, z0, z1, q0, q1⟩ := HX2v.out
      go_wp2
      have hst : But [w.heap.size + 1] v ((v.setCell ⟨w.heap.size + 1, 0, none⟩ (.slice (some ⟨gM, 0, none⟩) M1.length cM)).setCell ⟨w.heap.size + 1, 1, none⟩ (.slice (some ⟨gL, 0, none⟩) X1.length cL)) := (But.refl _ _).set2 _ _ _ (.inl (by simp))
      have HX2n := HX2v.out.set (.slice (some ⟨gM, 0, none⟩) M1.length cM) (.slice (some ⟨gL, 0, none⟩) X1.length cL)
      refine bodyPost_ret (v := .agg #[.slice (some ⟨gM, 0, none⟩) M1.length cM, .slice (some ⟨gL, 0, none⟩) X1.length cL]) (by simp [results, Try.results71, go_sem, HX2n.c0, HX2n.c1]) rfl ?_
      rw [HE.out]
      have hkb : ∀ m, KB (X1.set k y) gM gL m → (KB X1 gM gL m ∨ u2.heap.size ≤ m) := fun m hm => by
        rcases hm with h | h | ⟨i, hi, hm⟩
        · exact .inl (.inl h)
        · exact .inl (.inr (.inl h))
        · rw [List.length_set] at hi
          rw [getD_setA] at hm
          split at hm
          · exact .inr (HYb.out m hm)
          · exact .inl (.inr (.inr ⟨i, hi, hm⟩))
      refine ⟨X1.set k y, ?_, ?_, ?_, HBv.out.far hst (fun m hm => by simp at hm; omega), fun m hm => ?_⟩
      · simp only [Bool.false_eq_true, if_false, caV, List.length_set, HM1.out]
      · simp only [Bool.false_eq_true, if_false]
        rw [lns_set, HEq.out, HYn.out, HNb.out, HM1.out]
        rfl
      · simp only [Bool.false_eq_true, if_false]
        rw [← HM1.out]
        refine HO4.out.but' hst (fun m hm hx => ?_)
        simp at hx
        rcases hkb m hm with h | h
        · have := HK1.out m h; omega
        · omega
      · rcases hkb m hm with h | h
        · exact HK0.out m h
        · right; omega
    · have hp' : (p == a - a % 4) = false := by
        have := hpre.out
        simpa [blkA] using this
      go_upto_region 5 with (go_at_call 89; refine (HP.out _).mono ?_; rintro e w' ⟨rfl, rfl⟩)
      have HB5 := Lib.hid (spec_l7Back B M X gM gL cM cL k u0 HO0.out HOK.out hk4 (by omega))
      have HOb := Lib.hid (backC_ok HOK.out k hk4)
      clear d0 d1 d2 d3
      go_wp2_with fail
      refine HB5.out.mono ?_
      rintro e u1 ⟨X1, rfl, hX1, hO1, hb1, hk1⟩
      have HK1 := Lib.hid (show ∀ m, KB X1 gM gL m → m < w.heap.size ∨ w.heap.size + 2 ≤ m from fun m hm => by
        rcases hk1 m hm with h | h
        · exact .inl (HKB.out m h)
        · right; omega)
      have HK0 := Lib.hid (show ∀ m, KB X1 gM gL m → KB X gM gL m ∨ w.heap.size ≤ m from fun m hm => (hk1 m hm).imp id (fun h => by omega))
      clear hk1
      have HEq := Lib.hid hX1
      have HO1 := Lib.hid hO1
      have HB1 := Lib.hid hb1
      have hs1 := hb1.size
      have HX1a := Lib.hid (HX1.out.but hb1 (by simp; omega))
      have HX2a := Lib.hid (HX2.out.but hb1 (by simp; omega))
      obtain ⟨M1, hM1⟩ : ∃ M1, M1 = (backC ⟨M, lns X⟩ k).M := ⟨_, rfl⟩
      rw [← hM1] at HO1 ⊢
      have HM1 := Lib.hid hM1
      have hXl1 : X1.length = 4 := by
        have e1 := congrArg List.length hX1
        rw [lns_len] at e1
        have := HOb.out.Ll
        omega
      have hMl1 : M1.length = 256 := by have := HOb.out.Ml; rw [← hM1] at this; exact this
      have hMl0 : M.length = 256 := HOK.out.Ml
      have HXl1 := Lib.hid hXl1
      have HMl1 := Lib.hid hMl1
      have hkX1 : (k : Int) < (X1.length : Int) := by omega
      have hcM1 : N + 4 ≤ cM := by omega
      clear hX1 hO1 hb1 hM1 hXl1 hMl1 hMl0 HB5 c0 c1
      obtain ⟨_, c0, c1, q0, q1⟩ := HX1a.out
      go_upto_region 6 with fail
      have hst : But [w.heap.size] u1 ((u1.setCell ⟨w.heap.size, 0, none⟩ (.slice (some ⟨gM, 0, none⟩) M1.length cM)).setCell ⟨w.heap.size, 1, none⟩ (.slice (some ⟨gL, 0, none⟩) X1.length cL)) := (But.refl _ _).set2 _ _ _ (.inl (by simp))
      have HX1b := Lib.hid (HX1a.out.set (.slice (some ⟨gM, 0, none⟩) M1.length cM) (.slice (some ⟨gL, 0, none⟩) X1.length cL))
      have HX2b := Lib.hid (HX2a.out.but hst (by simp))
      have hKB1 : ∀ m, KB X1 gM gL m → m ∉ [w.heap.size] := fun m hm hx => by
        have := HK1.out m hm
        simp at hx
        omega
      have HO2 := Lib.hid (HO1.out.but' hst hKB1)
      have HBt := Lib.hid (show But [gM, gL] w _ from ((But.wide (L := []) (But.of HF.out) (fun _ h => by cases h)).trans HB1.out).far hst (fun m hm => by simp at hm; omega))
      have hs2 : w.heap.size + 2 ≤ ((u1.setCell ⟨w.heap.size, 0, none⟩ (.slice (some ⟨gM, 0, none⟩) M1.length cM)).setCell ⟨w.heap.size, 1, none⟩ (.slice (some ⟨gL, 0, none⟩) X1.length cL)).heap.size := by have := hst.size; omega
      clear hst c0 c1 q0 q1 HX1a HX2a hKB1
      generalize ((u1.setCell ⟨w.heap.size, 0, none⟩ (.slice (some ⟨gM, 0, none⟩) M1.length cM)).setCell ⟨w.heap.size, 1, none⟩ (.slice (some ⟨gL, 0, none⟩) X1.length cL)) = u2 at *
      obtain ⟨_, c0, c1, _, _⟩ := HX1b.out
      have hsl := slice_mid gM 0 M1.length cM N hcM1
      have hsl' := slice_midAt gM 0 M1.length cM N hcM1
      rw [Nat.zero_add] at hsl hsl'
      have hw4 : IntKind.i64.wrap ((N : Int) + 4) = (N : Int) + 4 := IntWalk.i64_in _ (by omega)
      have HSr : Hid (∀ v, Fr u2 v → Src v (four M1 N).length (ivl (four M1 N)) (some ⟨gM, N, none⟩)) := Lib.hid (fun v f => src_four (HO2.out.M.fr f) (by have := HMl1.out; omega))
      have h4 : (four M1 N).length = 4 := rfl
      have H4 := Lib.hid h4
      clear h4
      rw [hN] at *
      go_region_held3 (fun v => v.cell? ⟨w.heap.size, 0, none⟩ = some (.slice (some ⟨gM, 0, none⟩) M1.length cM) ∧ v.cell? ⟨w.heap.size, 1, none⟩ = some (.slice (some ⟨gL, 0, none⟩) X1.length cL))
        (first | (go_keep; done) | (refine ⟨?_, ?_⟩ <;> exact (set_far4 (by omega)).trans (by assumption)))
        (first | (refine wp_append_cp _ _ rfl _ rfl (four M1 N) (some ⟨gM, N, none⟩) (cM - N) rfl (HSr.out _ (by (repeat' first | (with_reducible exact Below.refl _ _) | (with_reducible assumption) | ((with_reducible refine Below.setCell ?_ ?hb _); (case hb => first | exact Nat.le_refl _ | (simp; done) | (simp; omega) | omega)) | ((with_reducible refine Below.alloc ?_ ?hb _); (case hb => first | exact Nat.le_refl _ | (simp; done) | (simp; omega) | omega)) | (with_reducible refine Below.drew ?_)))) (by have := H4.out; omega) ?_; intro ao4 c4 u3 hr hcp f3; have HR := Lib.hid hr; have F3 := Lib.hid (show Fr u2 u3 from Fr.trans (by (repeat' first | (with_reducible exact Below.refl _ _) | (with_reducible assumption) | ((with_reducible refine Below.setCell ?_ ?hb _); (case hb => first | exact Nat.le_refl _ | (simp; done) | (simp; omega) | omega)) | ((with_reducible refine Below.alloc ?_ ?hb _); (case hb => first | exact Nat.le_refl _ | (simp; done) | (simp; omega) | omega)) | (with_reducible refine Below.drew ?_))) f3); obtain ⟨_, e0, e1, _, _⟩ := HX1b.out.fr F3.out; obtain ⟨y0, y1, y2, y3⟩ := (HO2.out.L.r.fr F3.out).slot k (by have := HXl1.out; omega); have TH := (HO2.out.L.r.fr F3.out).there4 k (by have := HXl1.out; omega); have t0 : u3.frozen? ⟨gL, k * 4, none⟩ = false := by { have := (TH 0 (by omega)).2; simpa using this }; have t1 := (TH 1 (by omega)).2; have t2 := (TH 2 (by omega)).2; have t3 := (TH 3 (by omega)).2; clear hr hcp f3 TH))
      obtain ⟨y, hy⟩ : ∃ y : La, y = ⟨⟨true, (N : Int), false, four M1 N⟩, ao4, c4⟩ := ⟨_, rfl⟩
      obtain ⟨v, hv⟩ : ∃ v, u3.setCells gL (k * 4) (lac y) = v := ⟨_, rfl⟩
      have hv' : ((((u3.setCell ⟨gL, k * 4, none⟩ (.bool true)).setCell ⟨gL, k * 4 + 1, none⟩ (.int .i64 (N : Int))).setCell ⟨gL, k * 4 + 2, none⟩ (.bool false)).setCell ⟨gL, k * 4 + 3, none⟩ (.slice ao4 (four M1 N).length c4)) = v := by rw [← hv, hy]; rfl
      have hzr : u2.heap.size ≤ (u2.drew.alloc (.cells #[] 3)).heap.size := (show Fr u2 (u2.drew.alloc (.cells #[] 3)) by (repeat' first | (with_reducible exact Below.refl _ _) | (with_reducible assumption) | ((with_reducible refine Below.setCell ?_ ?hb _); (case hb => first | exact Nat.le_refl _ | (simp; done) | (simp; omega) | omega)) | ((with_reducible refine Below.alloc ?_ ?hb _); (case hb => first | exact Nat.le_refl _ | (simp; done) | (simp; omega) | omega)) | (with_reducible refine Below.drew ?_))).size
      have hyv : Vc u2.heap.size u3 y.n.W.length (ivl y.n.W) y.a := by rw [hy]; exact HR.out.vc.mono hzr
      have hyb : ∀ m, m ∈ wbk y → u2.heap.size ≤ m := fun m hm => (hyv.bk m hm).1
      have hyn : y.n = ⟨true, (N : Int), false, four M1 N⟩ := by rw [hy]
      have hbs := HBt.out.size
      have O3 := HO2.out.fr F3.out
      have O4 : OwK B v M1 (X1.set k y) gM gL := by
        rw [← hv]
        refine O3.setL k y (by have := HXl1.out; omega) (hyv.mono (by omega)) (fun hm => ?_) (fun hm => ?_) (fun i hi hik m h1 h2 => ?_)
        · have := hyb _ hm; have := HO2.out.L.r.lt; omega
        · have := hyb _ hm; have := HO2.out.M.lt; omega
        · have := hyb _ h1; have := (HO2.out.L.w.bk i hi m h2).2; omega
      have hb4 : But [gL] u3 v := by rw [← hv]; exact But.setCells gL (.inl (by simp)) _ _ _ (But.refl _ _)
      rw [hv']
      have HX1v := Lib.hid ((HX1b.out.fr F3.out).but hb4 (by simp; omega))
      have HX2v := Lib.hid ((HX2b.out.fr F3.out).but hb4 (by simp; omega))
      have HBv := Lib.hid (show But [gM, gL] w v from (HBt.out.trans (But.wide (L := []) (But.of F3.out) (fun _ h => by cases h))).trans (hb4.wide (fun m hm => by simp at hm; simp [hm])))
      have HO4 := Lib.hid O4
      have HYb := Lib.hid hyb
      have HYn := Lib.hid hyn
      clear hv hv' hy hyv hyb hyn O3 O4 hb4 c0 c1 e0 e1 y0 y1 y2 y3 t0 t1 t2 t3 hsl hsl' hw4 hzr
      obtain ⟨_, c0, c1, _, _⟩ := HX1v.out
      obtain ⟨_, z0, z1, q0, q1⟩ := HX2v.out
      go_wp2
      have hst : But [w.heap.size + 1] v ((v.setCell ⟨w.heap.size + 1, 0, none⟩ (.slice (some ⟨gM, 0, none⟩) M1.length cM)).setCell ⟨w.heap.size + 1, 1, none⟩ (.slice (some ⟨gL, 0, none⟩) X1.length cL)) := (But.refl _ _).set2 _ _ _ (.inl (by simp))
      have HX2n := HX2v.out.set (.slice (some ⟨gM, 0, none⟩) M1.length cM) (.slice (some ⟨gL, 0, none⟩) X1.length cL)
      refine bodyPost_ret (v := .agg #[.slice (some ⟨gM, 0, none⟩) M1.length cM, .slice (some ⟨gL, 0, none⟩) X1.length cL]) (by simp [results, Try.results71, go_sem, HX2n.c0, HX2n.c1]) rfl ?_
      rw [HE.out]
      have hkb : ∀ m, KB (X1.set k y) gM gL m → (KB X1 gM gL m ∨ u2.heap.size ≤ m) := fun m hm => by
        rcases hm with h | h | ⟨i, hi, hm⟩
        · exact .inl (.inl h)
        · exact .inl (.inr (.inl h))
        · rw [List.length_set] at hi
          rw [getD_setA] at hm
          split at hm
          · exact .inr (HYb.out m hm)
          · exact .inl (.inr (.inr ⟨i, hi, hm⟩))
      refine ⟨X1.set k y, ?_, ?_, ?_, HBv.out.far hst (fun m hm => by simp at hm; omega), fun m hm => ?_⟩
      · simp only [Bool.false_eq_true, if_false, caV, List.length_set, HM1.out]
      · simp only [Bool.false_eq_true, if_false]
        rw [lns_set, HEq.out, HYn.out, HNb.out, HM1.out]
        rfl
      · simp only [Bool.false_eq_true, if_false]
        rw [← HM1.out]
        refine HO4.out.but' hst (fun m hm hx => ?_)
        simp at hx
        rcases hkb m hm with h | h
        · have := HK1.out m h; omega
        · omega
      · rcases hkb m hm with h | h
        · exact HK0.out m h
        · right; omega

set_option maxRecDepth 100000 in
set_option maxHeartbeats 4000000 in
theorem spec_l7Write (B : Nat) (M : List Int) (X : List La) (gM gL cM cL : Nat) (a n : Int) (w : World) (h : OwK B w M X gM gL) (ho : OkC ⟨M, lns X⟩) (ha : plcB a = true) (hB : B ≤ w.heap.size) (hc : M.length ≤ cM) :
    Calls Try.prog 76 #[caV (some ⟨gM, 0, none⟩) (some ⟨gL, 0, none⟩) M X cM cL, .int .i64 a, .int .i64 n] w (TurnK B gM gL cM cL X (writeC ⟨M, lns X⟩ a n) w) := by
  obtain ⟨a0, a1⟩ := (plcB_iff a).1 ha
  obtain ⟨k, hk, hk4⟩ : ∃ k : Nat, a / 4 % 4 = (k : Int) ∧ k < 4 := ⟨slotOf a, (slotOf_int a).symm, slotOf_lt a⟩
  have hks : slotOf a = k := by have := slotOf_int a; omega
  have hXL : X.length = 4 := by have := ho.Ll; simpa using this
  have hgM := h.M.lt
  have hgL := h.L.r.lt
  have F0 : Fr w ((w.alloc (.cells #[.slice (some ⟨gM, 0, none⟩) M.length cM, .slice (some ⟨gL, 0, none⟩) X.length cL] 30)).alloc (.cells #[.slice none 0 0, .slice none 0 0] 30)) := by (repeat' first | (with_reducible exact Below.refl _ _) | (with_reducible assumption) | ((with_reducible refine Below.setCell ?_ ?hb _); (case hb => first | exact Nat.le_refl _ | (simp; done) | (simp; omega) | omega)) | ((with_reducible refine Below.alloc ?_ ?hb _); (case hb => first | exact Nat.le_refl _ | (simp; done) | (simp; omega) | omega)) | (with_reducible refine Below.drew ?_))
  have HF := Lib.hid F0
  have HX1 := Lib.hid ((Box2.new w (.slice (some ⟨gM, 0, none⟩) M.length cM) (.slice (some ⟨gL, 0, none⟩) X.length cL) 30 _ rfl).fr (Fr.alloc _ (.cells #[.slice none 0 0, .slice none 0 0] 30)))
  have HX2 := Lib.hid (Box2.new (w.alloc (.cells #[.slice (some ⟨gM, 0, none⟩) M.length cM, .slice (some ⟨gL, 0, none⟩) X.length cL] 30)) (.slice none 0 0) (.slice none 0 0) 30 (w.heap.size + 1) (by simp))
  have hs0 : w.heap.size + 2 ≤ ((w.alloc (.cells #[.slice (some ⟨gM, 0, none⟩) M.length cM, .slice (some ⟨gL, 0, none⟩) X.length cL] 30)).alloc (.cells #[.slice none 0 0, .slice none 0 0] 30)).heap.size := by simp
  have HO0 := Lib.hid (h.fr F0)
  have HKB := Lib.hid (fun m hm => (h.lt m hm).2)
  have HXL := Lib.hid hXL
  have HOK := Lib.hid ho
  have P := fun w => spec_l7Slot a w a0 (by omega)
  rw [hk] at P
  have HP := Lib.hid P
  have hkX : (k : Int) < (X.length : Int) := by omega
  have hk0 : (0 : Int) ≤ (k : Int) := Int.natCast_nonneg _
  have HKs := Lib.hid hks
  unfold caV
  have HOb := Lib.hid (bringC_ok ho ha)
  have HHe := Lib.hid (held_used (bringC_ok ho ha) (bringC_held ho ha)).1
  have HPl := Lib.hid ha
  have HWr := Lib.hid (show writeC ⟨M, lns X⟩ a n = ⟨(bringC ⟨M, lns X⟩ a).M, (bringC ⟨M, lns X⟩ a).L.set k (wrL ((bringC ⟨M, lns X⟩ a).L.getD k ln0) a n)⟩ by simp only [writeC, hks])
  clear F0 h ho hXL P hk hks ha
  go_enter Try.func76, Try.ntmps76
  go_upto_region 1 with fail
  generalize ((w.alloc (.cells #[.slice (some ⟨gM, 0, none⟩) M.length cM, .slice (some ⟨gL, 0, none⟩) X.length cL] 30)).alloc (.cells #[.slice none 0 0, .slice none 0 0] 30)) = u0 at *
  have HB5 := Lib.hid (spec_l7Bring B M X gM gL cM cL a u0 HO0.out HOK.out HPl.out (by omega) hc)
  obtain ⟨_, c0, c1, _, _⟩ := HX1.out
  go_wp2_with fail
  refine HB5.out.mono ?_
  rintro e u1 ⟨X1, rfl, hX1, hO1, hb1, hk1⟩
  have HK1 := Lib.hid (show ∀ m, KB X1 gM gL m → m < w.heap.size ∨ w.heap.size + 2 ≤ m from fun m hm => by
    rcases hk1 m hm with h | h
    · exact .inl (HKB.out m h)
    · right; omega)
  have HK0 := Lib.hid (show ∀ m, KB X1 gM gL m → KB X gM gL m ∨ w.heap.size ≤ m from fun m hm => (hk1 m hm).imp id (fun h => by omega))
  have HEq := Lib.hid hX1
  have HO1 := Lib.hid hO1
  have HB1 := Lib.hid hb1
  have hs1 := hb1.size
  have HX1a := Lib.hid (HX1.out.but hb1 (by simp; omega))
  have HX2a := Lib.hid (HX2.out.but hb1 (by simp; omega))
  obtain ⟨M1, hM1⟩ : ∃ M1, M1 = (bringC ⟨M, lns X⟩ a).M := ⟨_, rfl⟩
  rw [← hM1] at HO1 ⊢
  have HM1 := Lib.hid hM1
  have hXl1 : X1.length = 4 := by
    have e1 := congrArg List.length hX1
    rw [lns_len] at e1
    have := HOb.out.Ll
    omega
  have HXl1 := Lib.hid hXl1
  have hkX1 : (k : Int) < (X1.length : Int) := by omega
  have HHl := Lib.hid (show OkU M1 (k : Int) (X1.getD k la0).n by
    have := HHe.out
    rw [HKs.out, ← hX1, lns_get, ← hM1] at this
    exact this)
  have HGl := Lib.hid (show (bringC ⟨M, lns X⟩ a).L.getD k ln0 = (X1.getD k la0).n by rw [← hX1, lns_get])
  clear hk1 hX1 hO1 hb1 hM1 hXl1 HB5 c0 c1
  obtain ⟨_, c0, c1, q0, q1⟩ := HX1a.out
  go_upto_region 2 with fail
  have hst : But [w.heap.size] u1 ((u1.setCell ⟨w.heap.size, 0, none⟩ (.slice (some ⟨gM, 0, none⟩) M1.length cM)).setCell ⟨w.heap.size, 1, none⟩ (.slice (some ⟨gL, 0, none⟩) X1.length cL)) := (But.refl _ _).set2 _ _ _ (.inl (by simp))
  have HX1b := Lib.hid (HX1a.out.set (.slice (some ⟨gM, 0, none⟩) M1.length cM) (.slice (some ⟨gL, 0, none⟩) X1.length cL))
  have HX2b := Lib.hid (HX2a.out.but hst (by simp))
  have HO2 := Lib.hid (HO1.out.but' hst (fun m hm hx => by
    have := HK1.out m hm
    simp at hx
    omega))
  have HBt := Lib.hid (show But [gM, gL] w _ from ((But.wide (L := []) (But.of HF.out) (fun _ h => by cases h)).trans HB1.out).far hst (fun m hm => by simp at hm; omega))
  clear hst c0 c1 q0 q1 HX1a HX2a
  generalize ((u1.setCell ⟨w.heap.size, 0, none⟩ (.slice (some ⟨gM, 0, none⟩) M1.length cM)).setCell ⟨w.heap.size, 1, none⟩ (.slice (some ⟨gL, 0, none⟩) X1.length cL)) = u2 at *
  obtain ⟨_, c0, c1, _, _⟩ := HX1b.out
  obtain ⟨d0, d1, d2, d3⟩ := HO2.out.L.r.slot k (by have := HXl1.out; omega)
  have HWv := Lib.hid (HO2.out.L.w.wd k (by have := HXl1.out; omega))
  have HKl := Lib.hid (show ∀ i, i < X1.length → ∀ m, m ∈ wbk (X1.getD i la0) → m < u2.heap.size from fun i hi m hm => (HO2.out.L.w.bk i hi m hm).2)
  have hbs := HBt.out.size
  have hs2 : w.heap.size + 2 ≤ u2.heap.size := by have := HX2b.out.lt; omega
  generalize hl : X1.getD k la0 = l at *
  clear hl
  obtain ⟨⟨u, p, d, W⟩, ao, c⟩ := l
  simp only at d0 d1 d2 d3 HWv
  have hWl : W.length = 4 := HHl.out.Wl
  have HWl := Lib.hid hWl
  clear hWl
  go_region_held3 (fun v => v.cell? ⟨w.heap.size, 1, none⟩ = some (.slice (some ⟨gL, 0, none⟩) X1.length cL) ∧ v.cell? ⟨gL, k * 4, none⟩ = some (.bool u) ∧ v.cell? ⟨gL, k * 4 + 1, none⟩ = some (.int .i64 p) ∧ v.cell? ⟨gL, k * 4 + 2, none⟩ = some (.bool d) ∧ v.cell? ⟨gL, k * 4 + 3, none⟩ = some (.slice ao W.length c))
    (go_keep)
    (first | (go_at_call 89; refine (HP.out _).mono ?_; rintro e w' ⟨rfl, rfl⟩))
  all_goals (
    have FA : Fr u2 (u2.alloc (.cells #[.bool u, .int .i64 p, .bool d, .slice ao W.length c] 59)).drew := Below.drew (Fr.alloc _ _)
    have HX7 := Lib.hid ((Box4.new u2 (.bool u) (.int .i64 p) (.bool d) (.slice ao W.length c) 59 _ rfl).fr (Below.drew (Below.refl _ _)))
    have HO3 := Lib.hid (HO2.out.fr FA)
    have HX1c := Lib.hid (HX1b.out.fr FA)
    have HX2c := Lib.hid (HX2b.out.fr FA)
    have hsrc : Hid (Src ((u2.alloc (.cells #[.bool u, .int .i64 p, .bool d, .slice ao W.length c] 59)).drew.alloc (.cells #[] 3)) W.length (ivl W) ao) := Lib.hid ((HWv.out.src.fr FA).fr (Fr.alloc _ _))
    have hz3 : (u2.alloc (.cells #[.bool u, .int .i64 p, .bool d, .slice ao W.length c] 59)).drew.heap.size = u2.heap.size + 1 := by show (u2.alloc (.cells #[.bool u, .int .i64 p, .bool d, .slice ao W.length c] 59)).heap.size = _; simp
    have HB3 := Lib.hid (HBt.out.trans (But.wide (L := []) (But.of FA) (fun _ h => by cases h)))
    clear FA c0 c1 d0 d1 d2 d3
    have hz3' : u2.heap.size + 1 ≤ (u2.alloc (.cells #[.bool u, .int .i64 p, .bool d, .slice ao W.length c] 59)).drew.heap.size := Nat.le_of_eq hz3.symm
    clear hz3
    generalize (u2.alloc (.cells #[.bool u, .int .i64 p, .bool d, .slice ao W.length c] 59)).drew = u3 at *
    generalize hg7 : u2.heap.size = g7 at *
    clear hg7
    obtain ⟨_, x0, x1, x2, x3, _, _, _, _⟩ := HX7.out
    go_upto_region 4 with (at_builtin; refine wpList_plain rfl fun K hK => wp_append_cp _ _ rfl _ rfl W ao c rfl hsrc.out (by have := HWl.out; omega) ?_; intro ao' c' u4 hr hcp f1; have HR := Lib.hid hr; have F1 := Lib.hid (Fr.trans (Fr.alloc u3 (.cells #[] 3)) f1); have X6 := Lib.hid (HX7.out.fr F1.out); obtain ⟨_, y0, y1, y2, y3, q0, q1, q2, q3⟩ := X6.out; clear hr hcp f1; refine hK _ _ ?_)
    clear x0 x1 x2 x3 y0 y1 y2 y3 q0 q1 q2 q3 hsrc
    rcases HR.out with ⟨hz, _⟩ | ⟨gW, rfl, hgB, roW, _, _⟩
    · exfalso; have := HWl.out; omega
    have hgW : g7 < gW := by have : u3.heap.size ≤ gW := Nat.le_trans (Fr.alloc u3 (.cells #[] 3)).size hgB; omega
    have hgWl := roW.lt
    have hst : But [g7] u4 (u4.setCell ⟨g7, 3, none⟩ (.slice (some ⟨gW, 0, none⟩) W.length c')) := (But.refl _ _).set _ _ _ (.inl (by simp))
    have HX8 := Lib.hid (X6.out.t3 (.slice (some ⟨gW, 0, none⟩) W.length c'))
    have HRo := Lib.hid (roW.but hst (by simp; omega))
    have HO4 := Lib.hid ((HO3.out.fr F1.out).but' hst (fun m hm hx => by
      simp at hx
      rcases hm with h | h | ⟨i, hi, h⟩
      · have := HO2.out.M.lt; omega
      · have := HO2.out.L.r.lt; omega
      · have := HKl.out i hi m h; omega))
    have HX1d := Lib.hid ((HX1c.out.fr F1.out).but hst (by simp; omega))
    have HX2d := Lib.hid ((HX2c.out.fr F1.out).but hst (by simp; omega))
    have HB4 := Lib.hid ((HB3.out.trans (But.wide (L := []) (But.of F1.out) (fun _ h => by cases h))).far hst (fun m hm => by simp at hm; omega))
    clear HR roW hst HX7 HX1c HX2c HB3 F1 X6
    generalize (u4.setCell ⟨g7, 3, none⟩ (.slice (some ⟨gW, 0, none⟩) W.length c')) = u5 at *
    obtain ⟨A, hA⟩ : ∃ A : Nat, a % 4 = (A : Int) := ⟨(a % 4).toNat, by omega⟩
    have hA4 : A < 4 := by omega
    have hAW : (A : Int) < (W.length : Int) := by have := HWl.out; omega
    have hA0 : (0 : Int) ≤ (A : Int) := Int.natCast_nonneg _
    have kc := HRo.out.cel A (by have := HWl.out; omega)
    have kf := HRo.out.fro A (by have := HWl.out; omega)
    have HA := Lib.hid hA
    generalize W.getD A 0 = zz at kc
    obtain ⟨_, x0, x1, x2, x3, q0, q1, q2, q3⟩ := HX8.out
    go_upto_region 5 with fail
    have hst : But [gW] u5 (u5.setCell ⟨gW, A, none⟩ (.int .i64 n)) := (But.refl _ _).set _ _ _ (.inl (by simp))
    have HRo2 := Lib.hid (HRo.out.set A n (by have := HWl.out; omega))
    have HX9 := Lib.hid (HX8.out.but hst (by simp; omega))
    have HO5 := Lib.hid (HO4.out.but' hst (fun m hm hx => by
      simp at hx
      rcases hm with h | h | ⟨i, hi, h⟩
      · have := HO2.out.M.lt; omega
      · have := HO2.out.L.r.lt; omega
      · have := HKl.out i hi m h; omega))
    have HX1e := Lib.hid (HX1d.out.but hst (by simp; omega))
    have HX2e := Lib.hid (HX2d.out.but hst (by simp; omega))
    have HB5 := Lib.hid (HB4.out.far hst (fun m hm => by simp at hm; omega))
    clear x0 x1 x2 x3 q0 q1 q2 q3 kc kf hst HX8 HX1d HX2d HB4 HRo
    generalize (u5.setCell ⟨gW, A, none⟩ (.int .i64 n)) = u6 at *
    obtain ⟨_, x0, x1, x2, x3, q0, q1, q2, q3⟩ := HX9.out
    go_upto_region 6 with fail
    have hst : But [g7] u6 (u6.setCell ⟨g7, 2, none⟩ (.bool true)) := (But.refl _ _).set _ _ _ (.inl (by simp))
    have HX10 := Lib.hid (HX9.out.t2 (.bool true))
    have HRo3 := Lib.hid (HRo2.out.but hst (by simp; omega))
    have HO6 := Lib.hid (HO5.out.but' hst (fun m hm hx => by
      simp at hx
      rcases hm with h | h | ⟨i, hi, h⟩
      · have := HO2.out.M.lt; omega
      · have := HO2.out.L.r.lt; omega
      · have := HKl.out i hi m h; omega))
    have HX1f := Lib.hid (HX1e.out.but hst (by simp; omega))
    have HX2f := Lib.hid (HX2e.out.but hst (by simp; omega))
    have HB6 := Lib.hid (HB5.out.far hst (fun m hm => by simp at hm; omega))
    clear x0 x1 x2 x3 q0 q1 q2 q3 hst HX9 HX1e HX2e HB5 HRo2
    generalize (u6.setCell ⟨g7, 2, none⟩ (.bool true)) = u7 at *
    obtain ⟨_, x0, x1, x2, x3, _, _, _, _⟩ := HX10.out
    obtain ⟨_, e0, e1, _, _⟩ := HX1f.out
    obtain ⟨y0, y1, y2, y3⟩ := HO6.out.L.r.slot k (by have := HXl1.out; omega)
    have TH := HO6.out.L.r.there4 k (by have := HXl1.out; omega)
    have t0 : u7.frozen? ⟨gL, k * 4, none⟩ = false := by { have := (TH 0 (by omega)).2; simpa using this }
    have t1 := (TH 1 (by omega)).2
    have t2 := (TH 2 (by omega)).2
    have t3 := (TH 3 (by omega)).2
    clear TH
    have hgLn : gL < g7 := by omega
    go_region_held3 (fun v => v.cell? ⟨w.heap.size, 1, none⟩ = some (.slice (some ⟨gL, 0, none⟩) X1.length cL) ∧ v.cell? ⟨g7, 0, none⟩ = some (.bool u) ∧ v.cell? ⟨g7, 1, none⟩ = some (.int .i64 p) ∧ v.cell? ⟨g7, 2, none⟩ = some (.bool true) ∧ v.cell? ⟨g7, 3, none⟩ = some (.slice (some ⟨gW, 0, none⟩) W.length c'))
      (first | (go_keep; done) | (refine ⟨?_, ?_, ?_, ?_, ?_⟩ <;> exact (set_far4d (by omega)).trans (by assumption)))
      (first | (go_at_call 89; refine (HP.out _).mono ?_; rintro e w' ⟨rfl, rfl⟩))
    obtain ⟨y, hy⟩ : ∃ y : La, y = ⟨⟨u, p, true, W.set A n⟩, some ⟨gW, 0, none⟩, c'⟩ := ⟨_, rfl⟩
    obtain ⟨v, hv⟩ : ∃ v, u7.setCells gL (k * 4) (lac y) = v := ⟨_, rfl⟩
    have hv' : ((((u7.setCell ⟨gL, k * 4, none⟩ (.bool u)).setCell ⟨gL, k * 4 + 1, none⟩ (.int .i64 p)).setCell ⟨gL, k * 4 + 2, none⟩ (.bool true)).setCell ⟨gL, k * 4 + 3, none⟩ (.slice (some ⟨gW, 0, none⟩) W.length c')) = v := by
      rw [← hv, hy]
      simp only [lac, List.length_set]
      rfl
    have hyv : Vc (g7 + 1) u7 y.n.W.length (ivl y.n.W) y.a := by
      rw [hy]
      exact ⟨fun _ => ⟨gW, rfl, hgW, HRo3.out.lt, HRo3.out.cel, HRo3.out.fro⟩⟩
    have hyb : ∀ m, m ∈ wbk y → g7 + 1 ≤ m := fun m hm => (hyv.bk m hm).1
    have O4 : OwK B v M1 (X1.set k y) gM gL := by
      rw [← hv]
      refine HO6.out.setL k y (by have := HXl1.out; omega) (hyv.mono (by omega)) (fun hm => ?_) (fun hm => ?_) (fun i hi hik m h1 h2 => ?_)
      · have := hyb _ hm; omega
      · have := hyb _ hm; omega
      · have := hyb _ h1; have := HKl.out i hi m h2; omega
    have hb4 : But [gL] u7 v := by rw [← hv]; exact But.setCells gL (.inl (by simp)) _ _ _ (But.refl _ _)
    have hyn : y.n = ⟨u, p, true, W.set A n⟩ := by rw [hy]
    have FD : Fr v v.drew := Below.drew (Below.refl _ _)
    rw [hv']
    have HX1v := Lib.hid ((HX1f.out.but hb4 (by simp; omega)).fr FD)
    have HX2v := Lib.hid ((HX2f.out.but hb4 (by simp; omega)).fr FD)
    have HBv := Lib.hid (show But [gM, gL] w v.drew from (HB6.out.trans (hb4.wide (fun m hm => by simp at hm; simp [hm]))).drew)
    have HO8 := Lib.hid (O4.fr FD)
    have HYb := Lib.hid hyb
    have HYn := Lib.hid hyn
    have hsv : w.heap.size + 2 ≤ g7 := hs2
    clear hv hv' hy hyv hyb hyn O4 hb4 FD x0 x1 x2 x3 e0 e1 y0 y1 y2 y3 t0 t1 t2 t3
    generalize v.drew = v at *
    obtain ⟨_, c0, c1, _, _⟩ := HX1v.out
    obtain ⟨_, z0, z1, q0, q1⟩ := HX2v.out
    go_wp2
    have hst : But [w.heap.size + 1] v ((v.setCell ⟨w.heap.size + 1, 0, none⟩ (.slice (some ⟨gM, 0, none⟩) M1.length cM)).setCell ⟨w.heap.size + 1, 1, none⟩ (.slice (some ⟨gL, 0, none⟩) X1.length cL)) := (But.refl _ _).set2 _ _ _ (.inl (by simp))
    have HX2n := HX2v.out.set (.slice (some ⟨gM, 0, none⟩) M1.length cM) (.slice (some ⟨gL, 0, none⟩) X1.length cL)
    refine bodyPost_ret (v := .agg #[.slice (some ⟨gM, 0, none⟩) M1.length cM, .slice (some ⟨gL, 0, none⟩) X1.length cL]) (by simp [results, Try.results76, go_sem, HX2n.c0, HX2n.c1]) rfl ?_
    rw [HWr.out]
    have hkb : ∀ m, KB (X1.set k y) gM gL m → (KB X1 gM gL m ∨ g7 + 1 ≤ m) := fun m hm => by
      rcases hm with h | h | ⟨i, hi, hm⟩
      · exact .inl (.inl h)
      · exact .inl (.inr (.inl h))
      · rw [List.length_set] at hi
        rw [getD_setA] at hm
        split at hm
        · exact .inr (HYb.out m hm)
        · exact .inl (.inr (.inr ⟨i, hi, hm⟩))
    refine ⟨X1.set k y, ?_, ?_, ?_, HBv.out.far hst (fun m hm => by simp at hm; omega), fun m hm => ?_⟩
    · simp only [caV, List.length_set, HM1.out]
    · simp only []
      rw [lns_set, HEq.out, HYn.out, HGl.out]
      simp only [wrL]
      rw [HA.out, Int.toNat_natCast]
    · simp only []
      rw [← HM1.out]
      refine HO8.out.but' hst (fun m hm hx => ?_)
      simp at hx
      rcases hkb m hm with h | h
      · have := HK1.out m h; omega
      · omega
    · rcases hkb m hm with h | h
      · exact HK0.out m h
      · right; omega)

set_option maxRecDepth 100000 in
set_option maxHeartbeats 4000000 in
theorem spec_l7Lay (B : Nat) (M : List Int) (X : List La) (gM gL cM cL : Nat) (a n : Int) (w : World) (h : OwK B w M X gM gL) (ho : OkC ⟨M, lns X⟩) (ha : plcB a = true) (hB : B ≤ w.heap.size) :
    Calls Try.prog 78 #[caV (some ⟨gM, 0, none⟩) (some ⟨gL, 0, none⟩) M X cM cL, .int .i64 a, .int .i64 n] w (TurnK B gM gL cM cL X (layC ⟨M, lns X⟩ a n) w) := by
  obtain ⟨a0, a1⟩ := (plcB_iff a).1 ha
  obtain ⟨k, hk, hk4⟩ : ∃ k : Nat, a / 4 % 4 = (k : Int) ∧ k < 4 := ⟨slotOf a, (slotOf_int a).symm, slotOf_lt a⟩
  have hks : slotOf a = k := by have := slotOf_int a; omega
  have hXL : X.length = 4 := by have := ho.Ll; simpa using this
  have hgM := h.M.lt
  have hgL := h.L.r.lt
  have F0 : Fr w ((w.alloc (.cells #[.slice (some ⟨gM, 0, none⟩) M.length cM, .slice (some ⟨gL, 0, none⟩) X.length cL] 30)).alloc (.cells #[.slice none 0 0, .slice none 0 0] 30)) := by (repeat' first | (with_reducible exact Below.refl _ _) | (with_reducible assumption) | ((with_reducible refine Below.setCell ?_ ?hb _); (case hb => first | exact Nat.le_refl _ | (simp; done) | (simp; omega) | omega)) | ((with_reducible refine Below.alloc ?_ ?hb _); (case hb => first | exact Nat.le_refl _ | (simp; done) | (simp; omega) | omega)) | (with_reducible refine Below.drew ?_))
  have HF := Lib.hid F0
  have HX1 := Lib.hid ((Box2.new w (.slice (some ⟨gM, 0, none⟩) M.length cM) (.slice (some ⟨gL, 0, none⟩) X.length cL) 30 _ rfl).fr (Fr.alloc _ (.cells #[.slice none 0 0, .slice none 0 0] 30)))
  have HX2 := Lib.hid (Box2.new (w.alloc (.cells #[.slice (some ⟨gM, 0, none⟩) M.length cM, .slice (some ⟨gL, 0, none⟩) X.length cL] 30)) (.slice none 0 0) (.slice none 0 0) 30 (w.heap.size + 1) (by simp))
  have hs0 : w.heap.size + 2 ≤ ((w.alloc (.cells #[.slice (some ⟨gM, 0, none⟩) M.length cM, .slice (some ⟨gL, 0, none⟩) X.length cL] 30)).alloc (.cells #[.slice none 0 0, .slice none 0 0] 30)).heap.size := by simp
  have HO0 := Lib.hid (h.fr F0)
  have HKB := Lib.hid (fun m hm => (h.lt m hm).2)
  have HXL := Lib.hid hXL
  have HOK := Lib.hid ho
  have P := fun w => spec_l7Slot a w a0 (by omega)
  rw [hk] at P
  have HP := Lib.hid P
  have hkX : (k : Int) < (X.length : Int) := by omega
  have hk0 : (0 : Int) ≤ (k : Int) := Int.natCast_nonneg _
  have HKs := Lib.hid hks
  unfold caV
  have HBr : Hid (∀ b, holdsL (X.getD k la0).n a = b → layC ⟨M, lns X⟩ a n = if b = true then ⟨(backC ⟨M, lns X⟩ k).M.set a.toNat n, (backC ⟨M, lns X⟩ k).L⟩ else ⟨M.set a.toNat n, lns X⟩) := Lib.hid (fun b hb => by
    simp only [layC, heldC, hks]
    rw [lns_get, hb])
  clear F0 h ho hXL P hk hks
  go_enter Try.func78, Try.ntmps78
  go_upto_region 1 with fail
  generalize ((w.alloc (.cells #[.slice (some ⟨gM, 0, none⟩) M.length cM, .slice (some ⟨gL, 0, none⟩) X.length cL] 30)).alloc (.cells #[.slice none 0 0, .slice none 0 0] 30)) = u0 at *
  obtain ⟨_, c0, c1, _, _⟩ := HX1.out
  obtain ⟨d0, d1, d2, d3⟩ := HO0.out.L.r.slot k (by have := HXL.out; omega)
  generalize X.getD k la0 = l at *
  obtain ⟨⟨u, p, d, W⟩, ao, c⟩ := l
  simp only at d0 d1 d2 d3
  cases u
  · have HLay := Lib.hid (HBr.out false (by simp [holdsL]))
    clear HBr
    have HY1 := HX1
    have HY2 := HX2
    have HOv := HO0
    have HMl : Hid (M.length = 256) := Lib.hid HOK.out.Ml
    have HBv : Hid (But [gM, gL] w u0) := Lib.hid (But.wide (L := []) (But.of HF.out) (fun _ h => by cases h))
    have HKv : Hid (∀ m, KB X gM gL m → m < w.heap.size ∨ w.heap.size + 2 ≤ m) := Lib.hid (fun m hm => .inl (HKB.out m hm))
    go_upto_region 4 with (go_at_call 89; refine (HP.out _).mono ?_; rintro e w' ⟨rfl, rfl⟩)
    clear d0 d1 d2 d3 c0 c1
    obtain ⟨_, e0, e1, _, _⟩ := HY1.out
    obtain ⟨_, z0, z1, q0, q1⟩ := HY2.out
    obtain ⟨A, hA⟩ : ∃ A : Nat, a = (A : Int) := ⟨a.toNat, by omega⟩
    have hAl : A < M.length := by have := HMl.out; omega
    have kc := HOv.out.M.cel A hAl
    have kf := HOv.out.M.fro A hAl
    have hAi : (A : Int) < (M.length : Int) := by omega
    have hA0 : (0 : Int) ≤ (A : Int) := Int.natCast_nonneg _
    have HAl := Lib.hid hAl
    generalize M.getD A 0 = mv at kc
    clear hAl
    subst hA
    go_upto_region 5 with fail
    have HOn := Lib.hid (HOv.out.setM A n HAl.out)
    have hst0 : But [gM] u0 (u0.setCell ⟨gM, A, none⟩ (.int .i64 n)) := (But.refl _ _).set _ _ _ (.inl (by simp))
    have HZ1 := Lib.hid (HY1.out.but hst0 (by simp; omega))
    have HZ2 := Lib.hid (HY2.out.but hst0 (by simp; omega))
    have HBn := Lib.hid (HBv.out.trans (hst0.wide (L' := [gM, gL]) (fun m hm => by simp at hm; simp [hm])))
    clear e0 e1 z0 z1 q0 q1 kc kf hst0
    generalize (u0.setCell ⟨gM, A, none⟩ (.int .i64 n)) = v5 at *
    obtain ⟨_, e0, e1, _, _⟩ := HZ1.out
    obtain ⟨_, z0, z1, q0, q1⟩ := HZ2.out
    go_wp2
    have hst : But [w.heap.size + 1] v5 ((v5.setCell ⟨w.heap.size + 1, 0, none⟩ (.slice (some ⟨gM, 0, none⟩) M.length cM)).setCell ⟨w.heap.size + 1, 1, none⟩ (.slice (some ⟨gL, 0, none⟩) X.length cL)) := (But.refl _ _).set2 _ _ _ (.inl (by simp))
    have HX2n := HZ2.out.set (.slice (some ⟨gM, 0, none⟩) M.length cM) (.slice (some ⟨gL, 0, none⟩) X.length cL)
    refine bodyPost_ret (v := .agg #[.slice (some ⟨gM, 0, none⟩) M.length cM, .slice (some ⟨gL, 0, none⟩) X.length cL]) (by simp [results, Try.results78, go_sem, HX2n.c0, HX2n.c1]) rfl ?_
    rw [HLay.out]
    refine ⟨X, ?_, ?_, ?_, HBn.out.far hst (fun m hm => by simp at hm; omega), fun m hm => ?_⟩
    · simp only [Bool.false_eq_true, if_false, caV, List.length_set]
    · simp only [Bool.false_eq_true, if_false, ]
      try rfl
    · simp only [Bool.false_eq_true, if_false, Int.toNat_natCast]
      refine HOn.out.but' hst (fun m hm hx => ?_)
      simp at hx
      have := HKv.out m hm
      omega
    · exact .inl hm
  · by_cases hp : p = blkA a
    · have HLay := Lib.hid (HBr.out true (by simp [holdsL, hp]))
      have hp' : (p == a - a % 4) = true := by simpa [blkA] using hp
      clear HBr hp
      go_upto_region 3 with (go_at_call 89; refine (HP.out _).mono ?_; rintro e w' ⟨rfl, rfl⟩)
      have HB5 := Lib.hid (spec_l7Back B M X gM gL cM cL k u0 HO0.out HOK.out hk4 (by omega))
      have HOb := Lib.hid (backC_ok HOK.out k hk4)
      clear d0 d1 d2 d3
      go_wp2_with fail
      refine HB5.out.mono ?_
      rintro e u1 ⟨X1, rfl, hX1, hO1, hb1, hk1⟩
      have HK1 := Lib.hid (show ∀ m, KB X1 gM gL m → m < w.heap.size ∨ w.heap.size + 2 ≤ m from fun m hm => by
        rcases hk1 m hm with h | h
        · exact .inl (HKB.out m h)
        · right; omega)
      have HK0 := Lib.hid (show ∀ m, KB X1 gM gL m → KB X gM gL m ∨ w.heap.size ≤ m from fun m hm => (hk1 m hm).imp id (fun h => by omega))
      have HEq := Lib.hid hX1
      have HO1 := Lib.hid hO1
      have HB1 := Lib.hid hb1
      have hs1 := hb1.size
      have HX1a := Lib.hid (HX1.out.but hb1 (by simp; omega))
      have HX2a := Lib.hid (HX2.out.but hb1 (by simp; omega))
      obtain ⟨M1, hM1⟩ : ∃ M1, M1 = (backC ⟨M, lns X⟩ k).M := ⟨_, rfl⟩
      rw [← hM1] at HO1 ⊢
      have HM1 := Lib.hid hM1
      have HMl : Hid (M1.length = 256) := Lib.hid (by have := HOb.out.Ml; rw [← hM1] at this; exact this)
      clear hk1 hX1 hO1 hb1 hM1 HB5 c0 c1
      obtain ⟨_, c0, c1, q0, q1⟩ := HX1a.out
      go_upto_region 4 with fail
      have hst : But [w.heap.size] u1 ((u1.setCell ⟨w.heap.size, 0, none⟩ (.slice (some ⟨gM, 0, none⟩) M1.length cM)).setCell ⟨w.heap.size, 1, none⟩ (.slice (some ⟨gL, 0, none⟩) X1.length cL)) := (But.refl _ _).set2 _ _ _ (.inl (by simp))
      have HY1 := Lib.hid (HX1a.out.set (.slice (some ⟨gM, 0, none⟩) M1.length cM) (.slice (some ⟨gL, 0, none⟩) X1.length cL))
      have HY2 := Lib.hid (HX2a.out.but hst (by simp))
      have HOv := Lib.hid (HO1.out.but' hst (fun m hm hx => by
        have := HK1.out m hm
        simp at hx
        omega))
      have HBv := Lib.hid (show But [gM, gL] w _ from ((But.wide (L := []) (But.of HF.out) (fun _ h => by cases h)).trans HB1.out).far hst (fun m hm => by simp at hm; omega))
      have HKv := HK1
      clear hst c0 c1 q0 q1 HX1a HX2a
      generalize ((u1.setCell ⟨w.heap.size, 0, none⟩ (.slice (some ⟨gM, 0, none⟩) M1.length cM)).setCell ⟨w.heap.size, 1, none⟩ (.slice (some ⟨gL, 0, none⟩) X1.length cL)) = u2 at *
      obtain ⟨_, e0, e1, _, _⟩ := HY1.out
      obtain ⟨_, z0, z1, q0, q1⟩ := HY2.out
      obtain ⟨A, hA⟩ : ∃ A : Nat, a = (A : Int) := ⟨a.toNat, by omega⟩
      have hAl : A < M1.length := by have := HMl.out; omega
      have kc := HOv.out.M.cel A hAl
      have kf := HOv.out.M.fro A hAl
      have hAi : (A : Int) < (M1.length : Int) := by omega
      have hA0 : (0 : Int) ≤ (A : Int) := Int.natCast_nonneg _
      have HAl := Lib.hid hAl
      generalize M1.getD A 0 = mv at kc
      clear hAl
      subst hA
      go_upto_region 5 with fail
      have HOn := Lib.hid (HOv.out.setM A n HAl.out)
      have hst0 : But [gM] u2 (u2.setCell ⟨gM, A, none⟩ (.int .i64 n)) := (But.refl _ _).set _ _ _ (.inl (by simp))
      have HZ1 := Lib.hid (HY1.out.but hst0 (by simp; omega))
      have HZ2 := Lib.hid (HY2.out.but hst0 (by simp; omega))
      have HBn := Lib.hid (HBv.out.trans (hst0.wide (L' := [gM, gL]) (fun m hm => by simp at hm; simp [hm])))
      clear e0 e1 z0 z1 q0 q1 kc kf hst0
      generalize (u2.setCell ⟨gM, A, none⟩ (.int .i64 n)) = v5 at *
      obtain ⟨_, e0, e1, _, _⟩ := HZ1.out
      obtain ⟨_, z0, z1, q0, q1⟩ := HZ2.out
      go_wp2
      have hst : But [w.heap.size + 1] v5 ((v5.setCell ⟨w.heap.size + 1, 0, none⟩ (.slice (some ⟨gM, 0, none⟩) M1.length cM)).setCell ⟨w.heap.size + 1, 1, none⟩ (.slice (some ⟨gL, 0, none⟩) X1.length cL)) := (But.refl _ _).set2 _ _ _ (.inl (by simp))
      have HX2n := HZ2.out.set (.slice (some ⟨gM, 0, none⟩) M1.length cM) (.slice (some ⟨gL, 0, none⟩) X1.length cL)
      refine bodyPost_ret (v := .agg #[.slice (some ⟨gM, 0, none⟩) M1.length cM, .slice (some ⟨gL, 0, none⟩) X1.length cL]) (by simp [results, Try.results78, go_sem, HX2n.c0, HX2n.c1]) rfl ?_
      rw [HLay.out]
      refine ⟨X1, ?_, ?_, ?_, HBn.out.far hst (fun m hm => by simp at hm; omega), fun m hm => ?_⟩
      · simp only [if_true, caV, List.length_set, HM1.out]
      · simp only [if_true, ]
        exact HEq.out
      · simp only [if_true, Int.toNat_natCast]
        rw [← HM1.out]
        refine HOn.out.but' hst (fun m hm hx => ?_)
        simp at hx
        have := HKv.out m hm
        omega
      · exact HK0.out m hm
    · have HLay := Lib.hid (HBr.out false (by simp [holdsL, hp]))
      have hp' : (p == a - a % 4) = false := by simpa [blkA] using hp
      clear HBr hp
      have HY1 := HX1
      have HY2 := HX2
      have HOv := HO0
      have HMl : Hid (M.length = 256) := Lib.hid HOK.out.Ml
      have HBv : Hid (But [gM, gL] w u0) := Lib.hid (But.wide (L := []) (But.of HF.out) (fun _ h => by cases h))
      have HKv : Hid (∀ m, KB X gM gL m → m < w.heap.size ∨ w.heap.size + 2 ≤ m) := Lib.hid (fun m hm => .inl (HKB.out m hm))
      go_upto_region 4 with (go_at_call 89; refine (HP.out _).mono ?_; rintro e w' ⟨rfl, rfl⟩)
      clear d0 d1 d2 d3 c0 c1
      obtain ⟨_, e0, e1, _, _⟩ := HY1.out
      obtain ⟨_, z0, z1, q0, q1⟩ := HY2.out
      obtain ⟨A, hA⟩ : ∃ A : Nat, a = (A : Int) := ⟨a.toNat, by omega⟩
      have hAl : A < M.length := by have := HMl.out; omega
      have kc := HOv.out.M.cel A hAl
      have kf := HOv.out.M.fro A hAl
      have hAi : (A : Int) < (M.length : Int) := by omega
      have hA0 : (0 : Int) ≤ (A : Int) := Int.natCast_nonneg _
      have HAl := Lib.hid hAl
      generalize M.getD A 0 = mv at kc
      clear hAl
      subst hA
      go_upto_region 5 with fail
      have HOn := Lib.hid (HOv.out.setM A n HAl.out)
      have hst0 : But [gM] u0 (u0.setCell ⟨gM, A, none⟩ (.int .i64 n)) := (But.refl _ _).set _ _ _ (.inl (by simp))
      have HZ1 := Lib.hid (HY1.out.but hst0 (by simp; omega))
      have HZ2 := Lib.hid (HY2.out.but hst0 (by simp; omega))
      have HBn := Lib.hid (HBv.out.trans (hst0.wide (L' := [gM, gL]) (fun m hm => by simp at hm; simp [hm])))
      clear e0 e1 z0 z1 q0 q1 kc kf hst0
      generalize (u0.setCell ⟨gM, A, none⟩ (.int .i64 n)) = v5 at *
      obtain ⟨_, e0, e1, _, _⟩ := HZ1.out
      obtain ⟨_, z0, z1, q0, q1⟩ := HZ2.out
      go_wp2
      have hst : But [w.heap.size + 1] v5 ((v5.setCell ⟨w.heap.size + 1, 0, none⟩ (.slice (some ⟨gM, 0, none⟩) M.length cM)).setCell ⟨w.heap.size + 1, 1, none⟩ (.slice (some ⟨gL, 0, none⟩) X.length cL)) := (But.refl _ _).set2 _ _ _ (.inl (by simp))
      have HX2n := HZ2.out.set (.slice (some ⟨gM, 0, none⟩) M.length cM) (.slice (some ⟨gL, 0, none⟩) X.length cL)
      refine bodyPost_ret (v := .agg #[.slice (some ⟨gM, 0, none⟩) M.length cM, .slice (some ⟨gL, 0, none⟩) X.length cL]) (by simp [results, Try.results78, go_sem, HX2n.c0, HX2n.c1]) rfl ?_
      rw [HLay.out]
      refine ⟨X, ?_, ?_, ?_, HBn.out.far hst (fun m hm => by simp at hm; omega), fun m hm => ?_⟩
      · simp only [Bool.false_eq_true, if_false, caV, List.length_set]
      · simp only [Bool.false_eq_true, if_false, ]
        try rfl
      · simp only [Bool.false_eq_true, if_false, Int.toNat_natCast]
        refine HOn.out.but' hst (fun m hm hx => ?_)
        simp at hx
        have := HKv.out m hm
        omega
      · exact .inl hm

end Go.Proofs.Ytoacgjjpipdkjaa
