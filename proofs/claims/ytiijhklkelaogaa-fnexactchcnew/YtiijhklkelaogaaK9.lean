/- A line written back and let go, of the model. -/
import Derived.Test.YtiijhklkelaogaaK8
namespace Go.Proofs.Ytiijhklkelaogaa
open Go.RowKit
set_option linter.unusedVariables false
set_option linter.unusedSimpArgs false
theorem set_far {w : World} {g b i j : Nat} {v : Value} (h : b ≠ g) : (w.setCell ⟨g, i, none⟩ v).drew.cell? ⟨b, j, none⟩ = w.cell? ⟨b, j, none⟩ := by
  show (w.setCell ⟨g, i, none⟩ v).cell? ⟨b, j, none⟩ = _
  exact World.cell?_setCell_other _ _ _ _ (by simp [h])
/-- m is a block of the cache. -/
def KB (X : List La) (gM gL m : Nat) : Prop := m = gM ∨ m = gL ∨ ∃ i, i < X.length ∧ m ∈ wbk (X.getD i la0)
/-- Behind a call that turns a cache in its place. -/
def TurnK (B gM gL cM cL : Nat) (X0 : List La) (c : Ch) (w : World) (e : Ending) (w' : World) : Prop := ∃ X, e = .returned (caV (some ⟨gM, 0, none⟩) (some ⟨gL, 0, none⟩) c.M X cM cL) ∧ lns X = c.L ∧ OwK B w' c.M X gM gL ∧ But [gM, gL] w w' ∧ ∀ m, KB X gM gL m → KB X0 gM gL m ∨ w.heap.size ≤ m
theorem OwK.lt {B : Nat} {u : World} {M : List Int} {X : List La} {gM gL : Nat} (h : OwK B u M X gM gL) : ∀ m, KB X gM gL m → B ≤ m ∧ m < u.heap.size := fun m hm => by
  rcases hm with rfl | rfl | ⟨i, hi, hm⟩
  · exact ⟨h.b, h.M.lt⟩
  · exact ⟨h.L.b, h.L.r.lt⟩
  · exact h.L.w.bk i hi m hm
theorem OwK.but' {B : Nat} {L : List Nat} {u u' : World} {M : List Int} {X : List La} {gM gL : Nat} (h : OwK B u M X gM gL) (f : But L u u') (hL : ∀ m, KB X gM gL m → m ∉ L) : OwK B u' M X gM gL :=
  ⟨h.b, h.M.but f (hL gM (.inl rfl)), h.L.but f (hL gL (.inr (.inl rfl))) (fun i hi m hm => hL m (.inr (.inr ⟨i, hi, hm⟩))), h.ap, h.aw⟩
theorem kb_zero {X : List La} {gM gL m k : Nat} (h : KB (X.set k la0) gM gL m) : KB X gM gL m := by
  rcases h with h | h | ⟨i, hi, hm⟩
  · exact .inl h
  · exact .inr (.inl h)
  · rw [List.length_set] at hi
    rw [getD_setA] at hm
    split at hm
    · rw [show wbk la0 = [] by simp [bkS]] at hm; cases hm
    · exact .inr (.inr ⟨i, hi, hm⟩)
theorem drew_cell (v : World) (a : Addr) : v.drew.cell? a = v.cell? a := rfl
theorem la0_line : lav la0 = .agg #[.bool false, .int .i64 0, .bool false, .slice none 0 0] := rfl
theorem la0_wbk : wbk la0 = [] := by simp [bkS]
theorem OwK.zero {B : Nat} {u : World} {M : List Int} {X : List La} {gM gL : Nat} (h : OwK B u M X gM gL) (k : Nat) (hk : k < X.length) : OwK B (u.setCells gL (k * 4) (lac la0)) M (X.set k la0) gM gL :=
  h.setL k la0 hk (Vc.nil _ _ _ _) (by rw [la0_wbk]; simp) (by rw [la0_wbk]; simp) (fun i _ _ m hm => by rw [la0_wbk] at hm; cases hm)
set_option maxRecDepth 100000 in
set_option maxHeartbeats 4000000 in
theorem spec_l7Back (B : Nat) (M : List Int) (X : List La) (gM gL cM cL : Nat) (k : Nat) (w : World) (h : OwK B w M X gM gL) (ho : OkC ⟨M, lns X⟩) (hk : k < 4) (hB : B ≤ w.heap.size) :
    Calls Try.prog 87 #[caV (some ⟨gM, 0, none⟩) (some ⟨gL, 0, none⟩) M X cM cL, .int .i64 (k : Int)] w (TurnK B gM gL cM cL X (backC ⟨M, lns X⟩ k) w) := by
  have hXL : X.length = 4 := by have := ho.Ll; simpa using this
  have hgM := h.M.lt
  have hgL := h.L.r.lt
  have F0 : Fr w ((w.alloc (.cells #[.slice (some ⟨gM, 0, none⟩) M.length cM, .slice (some ⟨gL, 0, none⟩) X.length cL] 25)).alloc (.cells #[.slice none 0 0, .slice none 0 0] 25)) := by (repeat' first | (with_reducible exact Below.refl _ _) | (with_reducible assumption) | ((with_reducible refine Below.setCell ?_ ?hb _); (case hb => first | exact Nat.le_refl _ | (simp; done) | (simp; omega) | omega)) | ((with_reducible refine Below.alloc ?_ ?hb _); (case hb => first | exact Nat.le_refl _ | (simp; done) | (simp; omega) | omega)) | (with_reducible refine Below.drew ?_))
  have HF := Lib.hid F0
  have HX1 := Lib.hid ((Box2.new w (.slice (some ⟨gM, 0, none⟩) M.length cM) (.slice (some ⟨gL, 0, none⟩) X.length cL) 25 _ rfl).fr (Fr.alloc _ (.cells #[.slice none 0 0, .slice none 0 0] 25)))
  have HX2 := Lib.hid (Box2.new (w.alloc (.cells #[.slice (some ⟨gM, 0, none⟩) M.length cM, .slice (some ⟨gL, 0, none⟩) X.length cL] 25)) (.slice none 0 0) (.slice none 0 0) 25 (w.heap.size + 1) (by simp))
  have hs0 : w.heap.size + 2 ≤ ((w.alloc (.cells #[.slice (some ⟨gM, 0, none⟩) M.length cM, .slice (some ⟨gL, 0, none⟩) X.length cL] 25)).alloc (.cells #[.slice none 0 0, .slice none 0 0] 25)).heap.size := by simp
  have HO0 := Lib.hid (h.fr F0)
  have HKB := Lib.hid (fun m hm => (h.lt m hm).2)
  have HXL := Lib.hid hXL
  have HOK := Lib.hid ho
  have hkX : (k : Int) < (X.length : Int) := by omega
  have hk0 : (0 : Int) ≤ (k : Int) := Int.natCast_nonneg _
  have hap := h.ap
  have HAp := Lib.hid hap
  unfold caV
  clear F0 h ho hXL
  go_enter Try.func87, Try.ntmps87
  go_upto_region 1 with fail
  generalize ((w.alloc (.cells #[.slice (some ⟨gM, 0, none⟩) M.length cM, .slice (some ⟨gL, 0, none⟩) X.length cL] 25)).alloc (.cells #[.slice none 0 0, .slice none 0 0] 25)) = u0 at *
  obtain ⟨_, c0, c1, _, _⟩ := HX1.out
  obtain ⟨d0, d1, d2, d3⟩ := HO0.out.L.r.slot k (by have := HXL.out; omega)
  have HN := Lib.hid (lns_get X k)
  have hlk := okLns_at HOK.out.L k (by rw [HOK.out.Ll]; exact hk)
  rw [show (Ch.mk M (lns X)).L = lns X from rfl, lns_get] at hlk
  have HLk : Hid (okLn M (k : Int) (X.getD k la0).n = true) := Lib.hid hlk
  have HW := Lib.hid (HO0.out.L.w.wd k (by have := HXL.out; omega))
  have HWg := Lib.hid (HO0.out.aw k (by have := HXL.out; omega))
  clear hlk
  generalize hl : X.getD k la0 = l at *
  have HL := Lib.hid hl
  clear hl
  go_upto_region 2 with fail
  have F2 : Fr u0 (u0.alloc (.cells #[.bool l.n.u, .int .i64 l.n.p, .bool l.n.d, .slice l.a l.n.W.length l.c] 50)) := Fr.alloc _ _
  have X5 : Hid (Box4 (u0.alloc (.cells #[.bool l.n.u, .int .i64 l.n.p, .bool l.n.d, .slice l.a l.n.W.length l.c] 50)) u0.heap.size (.bool l.n.u) (.int .i64 l.n.p) (.bool l.n.d) (.slice l.a l.n.W.length l.c)) := Lib.hid (Box4.new _ _ _ _ _ _ _ rfl)
  replace HX1 := Lib.hid (HX1.out.fr F2)
  replace HX2 := Lib.hid (HX2.out.fr F2)
  replace HF := Lib.hid (Fr.trans HF.out F2)
  replace HO0 := Lib.hid (HO0.out.fr F2)
  replace HW := Lib.hid (HW.out.fr F2)
  have hs2 : u0.heap.size < (u0.alloc (.cells #[.bool l.n.u, .int .i64 l.n.p, .bool l.n.d, .slice l.a l.n.W.length l.c] 50)).heap.size := by simp
  clear F2 c0 c1 d0 d1 d2 d3
  generalize (u0.alloc (.cells #[.bool l.n.u, .int .i64 l.n.p, .bool l.n.d, .slice l.a l.n.W.length l.c] 50)) = u2 at *
  generalize u0.heap.size = g5 at *
  obtain ⟨_, x0, x1, x2, x3, _, _, _, _⟩ := X5.out
  cases hd : l.n.d
  · have EM : Hid ((backC ⟨M, lns X⟩ k).M = M) := Lib.hid (by simp only [backC]; rw [HN.out, hd]; rfl)
    have OV := HO0
    have BV : Hid (But [gM] u2 u2) := Lib.hid (But.refl _ _)
    cases hu : l.n.u
    · go_upto_region 7 with fail
      have TH := Lib.hid (OV.out.L.r.there4 k (by have := HXL.out; omega))
      obtain ⟨v2, hv2⟩ : ∃ v2, u2.setCells gL (k * 4) (lac la0) = v2 := ⟨_, rfl⟩
      have O2 := Lib.hid (hv2 ▸ OV.out.zero k (by have := HXL.out; omega))
      have B2 : Hid (But [gL] u2 v2) := Lib.hid (hv2 ▸ But.setCells gL (.inl (by simp)) _ _ _ (But.refl _ _))
      have HV2 := Lib.hid hv2
      have HX1v := Lib.hid (HX1.out.but BV.out (by simp; omega))
      have HX2v := Lib.hid (HX2.out.but BV.out (by simp; omega))
      obtain ⟨_, c0, c1, _, _⟩ := HX1v.out
      obtain ⟨_, e0, e1, _, _⟩ := HX1v.out.but B2.out (by simp; omega)
      have HX2w := Lib.hid (HX2v.out.but B2.out (by simp; omega))
      obtain ⟨_, z0, z1, q0, q1⟩ := HX2w.out
      clear hv2 HX1v HX2v
      go_wp2_with (refine wpList_store_line rfl _ _ rfl gL (k * 4) la0 rfl rfl TH.out v2 HV2.out ?_)
      have hst : But [w.heap.size + 1] v2 ((v2.setCell ⟨w.heap.size + 1, 0, none⟩ (.slice (some ⟨gM, 0, none⟩) M.length cM)).setCell ⟨w.heap.size + 1, 1, none⟩ (.slice (some ⟨gL, 0, none⟩) X.length cL)) := (But.refl _ _).set2 _ _ _ (.inl (by simp))
      have HX2n := HX2w.out.set (.slice (some ⟨gM, 0, none⟩) M.length cM) (.slice (some ⟨gL, 0, none⟩) X.length cL)
      refine bodyPost_ret (v := .agg #[.slice (some ⟨gM, 0, none⟩) M.length cM, .slice (some ⟨gL, 0, none⟩) X.length cL]) (by simp [results, Try.results87, go_sem, HX2n.c0, HX2n.c1]) rfl ?_
      refine ⟨X.set k la0, by rw [EM.out]; simp only [caV, List.length_set, putN_len], by rw [lns_set]; rfl, ?_, ?_, fun m hm => .inl (kb_zero hm)⟩
      · rw [EM.out]
        exact O2.out.but' hst (fun m hm hx => by have := HKB.out m (kb_zero hm); simp at hx; omega)
      · have hb : But [gM, gL] w v2 := (((But.wide (L := []) (But.of HF.out) (fun _ h => by cases h)).trans (BV.out.wide (fun m hm => by simp at hm; simp [hm]))).trans (B2.out.wide (fun m hm => by simp at hm; simp [hm])))
        exact hb.far hst (fun m hm => by simp at hm; omega)
    · go_upto_region 7 with fail
      have TH := Lib.hid (OV.out.L.r.there4 k (by have := HXL.out; omega))
      obtain ⟨v2, hv2⟩ : ∃ v2, u2.setCells gL (k * 4) (lac la0) = v2 := ⟨_, rfl⟩
      have O2 := Lib.hid (hv2 ▸ OV.out.zero k (by have := HXL.out; omega))
      have B2 : Hid (But [gL] u2 v2) := Lib.hid (hv2 ▸ But.setCells gL (.inl (by simp)) _ _ _ (But.refl _ _))
      have HV2 := Lib.hid hv2
      have HX1v := Lib.hid (HX1.out.but BV.out (by simp; omega))
      have HX2v := Lib.hid (HX2.out.but BV.out (by simp; omega))
      obtain ⟨_, c0, c1, _, _⟩ := HX1v.out
      obtain ⟨_, e0, e1, _, _⟩ := HX1v.out.but B2.out (by simp; omega)
      have HX2w := Lib.hid (HX2v.out.but B2.out (by simp; omega))
      obtain ⟨_, z0, z1, q0, q1⟩ := HX2w.out
      clear hv2 HX1v HX2v
      go_wp2_with (refine wpList_store_line rfl _ _ rfl gL (k * 4) la0 rfl rfl TH.out v2 HV2.out ?_)
      have hst : But [w.heap.size + 1] v2 ((v2.setCell ⟨w.heap.size + 1, 0, none⟩ (.slice (some ⟨gM, 0, none⟩) M.length cM)).setCell ⟨w.heap.size + 1, 1, none⟩ (.slice (some ⟨gL, 0, none⟩) X.length cL)) := (But.refl _ _).set2 _ _ _ (.inl (by simp))
      have HX2n := HX2w.out.set (.slice (some ⟨gM, 0, none⟩) M.length cM) (.slice (some ⟨gL, 0, none⟩) X.length cL)
      refine bodyPost_ret (v := .agg #[.slice (some ⟨gM, 0, none⟩) M.length cM, .slice (some ⟨gL, 0, none⟩) X.length cL]) (by simp [results, Try.results87, go_sem, HX2n.c0, HX2n.c1]) rfl ?_
      refine ⟨X.set k la0, by rw [EM.out]; simp only [caV, List.length_set, putN_len], by rw [lns_set]; rfl, ?_, ?_, fun m hm => .inl (kb_zero hm)⟩
      · rw [EM.out]
        exact O2.out.but' hst (fun m hm hx => by have := HKB.out m (kb_zero hm); simp at hx; omega)
      · have hb : But [gM, gL] w v2 := (((But.wide (L := []) (But.of HF.out) (fun _ h => by cases h)).trans (BV.out.wide (fun m hm => by simp at hm; simp [hm]))).trans (B2.out.wide (fun m hm => by simp at hm; simp [hm])))
        exact hb.far hst (fun m hm => by simp at hm; omega)
  · have hu := okLn_d HLk.out hd
    have hU := okLn_used HLk.out hu
    obtain ⟨N, hN⟩ := Int.eq_ofNat_of_zero_le hU.p0
    have hN2 : N ≤ 252 := by have := hU.p1; omega
    have hWl := hU.Wl
    have EM : Hid ((backC ⟨M, lns X⟩ k).M = putN M N l.n.W 4) := Lib.hid (by simp only [backC]; rw [HN.out, hd, hN]; rfl)
    obtain ⟨gW, hgW, _, hgWl, kW, _⟩ := HW.out.at0 (by omega)
    have HKW := Lib.hid kW
    have HNW : Hid (gM ≠ gW) := Lib.hid (fun e => HWg.out (by show gM ∈ bkS l.n.W.length l.a; rw [hgW, e]; exact bkS_mem (b := ⟨gW, 0, none⟩) (by omega)))
    have HWL := Lib.hid hWl
    have HGW := Lib.hid hgW
    have HNp := Lib.hid hN
    rw [hgW, hN, hd, hu] at X5
    clear x0 x1 x2 x3
    obtain ⟨_, x0, x1, x2, x3, _, _, _, _⟩ := X5.out
    clear hgW kW hU hN hd hu
    have hwl4 : Hid ((l.n.W.length : Int) = 4) := Lib.hid (by omega)
    have hml : Hid ((M.length : Int) = 256) := Lib.hid (by have := HOK.out.Ml; simp only at this; omega)
    clear hWl
    go_wp2_with fail
    go_loopw [6] (fun i wr => ∃ j : Nat, j ≤ 4 ∧ i = .int .i64 j ∧ OwK B wr (putN M N l.n.W j) X gM gL ∧ But [gM] u2 wr) (fun i _ => 4 - (intOf i).toNat)
    case atStart => exact ⟨0, by omega, rfl, HO0.out, But.refl _ _⟩
    case round =>
      obtain ⟨j, hj, rfl, hO, hb⟩ := hrel
      have OV := Lib.hid hO
      have BV := Lib.hid hb
      have hX5 := X5.out.but hb (by simp; omega)
      obtain ⟨_, y0, y1, y2, y3, _, _, _, _⟩ := hX5
      clear x0 x1 x2 x3
      by_cases hjl : j < 4
      · have hj4 : (j : Int) < 4 := by omega
        obtain ⟨_, c0, c1, _, _⟩ := HX1.out.but hb (by simp; omega)
        have kw : wr.cell? ⟨gW, j, none⟩ = some (.int .i64 (l.n.W.getD j 0)) := by
          rw [hb.cell hgWl (by have := HNW.out; simp; omega)]; exact HKW.out j (by have := HWL.out; omega)
        have hlp := putN_len M N l.n.W j
        have km := hO.M.cel (N + j) (by rw [hlp]; have := HOK.out.Ml; simp only at this; omega)
        have kf := hO.M.fro (N + j) (by rw [hlp]; have := HOK.out.Ml; simp only at this; omega)
        have hjw : (j : Int) < (l.n.W.length : Int) := by rw [hwl4.out]; omega
        have hjm : ((N : Int) + (j : Int)) < (M.length : Int) := by rw [hml.out]; omega
        have hj0 : (0 : Int) ≤ (j : Int) := Int.natCast_nonneg _
        have hN0 : (0 : Int) ≤ (N : Int) + (j : Int) := by omega
        have hw1 : IntKind.i64.wrap ((N : Int) + (j : Int)) = (N : Int) + (j : Int) := IntWalk.i64_in _ (by omega)
        have hw2 : ((N : Int) + (j : Int)).toNat = N + j := by omega
        have hNx : putN M N l.n.W (j + 1) = (putN M N l.n.W j).set (N + j) (l.n.W.getD j 0) := rfl
        have HNx := Lib.hid hNx
        have HLp := Lib.hid hlp
        clear hO hb hlp hNx
        generalize (putN M N l.n.W j).getD (N + j) 0 = mv at km
        generalize hz : l.n.W.getD j 0 = z at *
        clear hz
        go_wp2_with fail
        go_still_tail 11, (by kernel_rfl)
        change wpList _ _ _ _ _ wr.drew
        go_wp2
        clear hw1 hw2
        go_roundw
        case rel =>
          refine ⟨j + 1, by omega, by go_num, ?_, ?_⟩
          · rw [HNx.out]
            exact (OV.out.setM (N + j) z (by rw [HLp.out]; have := HOK.out.Ml; simp only at this; omega)).fr (Below.drew (Below.refl _ _))
          · exact (BV.out.set gM (N + j) (.int .i64 z) (.inl (by simp))).drew
        case measure => simp [intOf]; omega
      · have hge : ¬ (j : Int) < 4 := by omega
        obtain rfl : j = 4 := by omega
        clear hO hb
        go_upto_region 7 with fail
        have TH := Lib.hid (OV.out.L.r.there4 k (by have := HXL.out; omega))
        obtain ⟨v2, hv2⟩ : ∃ v2, wr.setCells gL (k * 4) (lac la0) = v2 := ⟨_, rfl⟩
        have O2 := Lib.hid (hv2 ▸ OV.out.zero k (by have := HXL.out; omega))
        have B2 : Hid (But [gL] wr v2) := Lib.hid (hv2 ▸ But.setCells gL (.inl (by simp)) _ _ _ (But.refl _ _))
        have HV2 := Lib.hid hv2
        have HX1v := Lib.hid (HX1.out.but BV.out (by simp; omega))
        have HX2v := Lib.hid (HX2.out.but BV.out (by simp; omega))
        obtain ⟨_, c0, c1, _, _⟩ := HX1v.out
        obtain ⟨_, e0, e1, _, _⟩ := HX1v.out.but B2.out (by simp; omega)
        have HX2w := Lib.hid (HX2v.out.but B2.out (by simp; omega))
        obtain ⟨_, z0, z1, q0, q1⟩ := HX2w.out
        clear hv2 HX1v HX2v
        go_wp2_with (refine wpList_store_line rfl _ _ rfl gL (k * 4) la0 rfl rfl TH.out v2 HV2.out ?_)
        have hst : But [w.heap.size + 1] v2 ((v2.setCell ⟨w.heap.size + 1, 0, none⟩ (.slice (some ⟨gM, 0, none⟩) M.length cM)).setCell ⟨w.heap.size + 1, 1, none⟩ (.slice (some ⟨gL, 0, none⟩) X.length cL)) := (But.refl _ _).set2 _ _ _ (.inl (by simp))
        have HX2n := HX2w.out.set (.slice (some ⟨gM, 0, none⟩) M.length cM) (.slice (some ⟨gL, 0, none⟩) X.length cL)
        refine bodyPost_ret (v := .agg #[.slice (some ⟨gM, 0, none⟩) M.length cM, .slice (some ⟨gL, 0, none⟩) X.length cL]) (by simp [results, Try.results87, go_sem, HX2n.c0, HX2n.c1]) rfl ?_
        refine ⟨X.set k la0, by rw [EM.out]; simp only [caV, List.length_set, putN_len], by rw [lns_set]; rfl, ?_, ?_, fun m hm => .inl (kb_zero hm)⟩
        · rw [EM.out]
          exact O2.out.but' hst (fun m hm hx => by have := HKB.out m (kb_zero hm); simp at hx; omega)
        · have hb : But [gM, gL] w v2 := (((But.wide (L := []) (But.of HF.out) (fun _ h => by cases h)).trans (BV.out.wide (fun m hm => by simp at hm; simp [hm]))).trans (B2.out.wide (fun m hm => by simp at hm; simp [hm])))
          exact hb.far hst (fun m hm => by simp at hm; omega)

end Go.Proofs.Ytiijhklkelaogaa
