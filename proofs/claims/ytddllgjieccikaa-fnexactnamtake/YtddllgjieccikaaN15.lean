/- The model's l6Back, l6Take. The model's l6Take. The model's NamBack, NamTake. NamTake, of both. -/
import Derived.Test.YtddllgjieccikaaN14
namespace Go.Proofs.Ytddllgjieccikaa
open Go.RowKit
set_option linter.unusedVariables false
set_option linter.unusedSimpArgs false
set_option maxRecDepth 8000 in
set_option maxHeartbeats 4000000 in
theorem spec_l6Back (B : Nat) (x : Nm) (g1 : Nat) (aF5 : Option Addr) (cF5 g3 g4 c1 c3 c4 : Nat) (d : Nat) (now old : Int) (w : World) (h : OwC B w x g1 aF5 cF5 g3 g4) (hd : d < x.M.length) (hl : x.F.length ≤ 100) (hB : B ≤ w.heap.size) :
    Calls Try.prog 76 #[.agg #[.slice (some ⟨g1, 0, none⟩) x.M.length c1, .slice aF5 x.F.length cF5, .slice (some ⟨g3, 0, none⟩) x.V.length c3, .slice (some ⟨g4, 0, none⟩) x.H.length c4], .int .i64 d, .int .i64 now, .int .i64 old] w fun e w' => ∃ gF cF9, e = .returned (.agg #[.slice (some ⟨g1, 0, none⟩) x.M.length c1, .slice (some ⟨gF, 0, none⟩) (x.F ++ [now]).length cF9, .slice (some ⟨g3, 0, none⟩) x.V.length c3, .slice (some ⟨g4, 0, none⟩) x.H.length c4]) ∧ OwC B w' ⟨x.M.set d old, x.F ++ [now], x.V, x.H⟩ g1 (some ⟨gF, 0, none⟩) cF9 g3 g4 ∧ Below B w w' := by
  have F2 : Fr w ((w.alloc (.cells #[.slice (some ⟨g1, 0, none⟩) x.M.length c1, .slice aF5 x.F.length cF5, .slice (some ⟨g3, 0, none⟩) x.V.length c3, .slice (some ⟨g4, 0, none⟩) x.H.length c4] 25)).alloc (.cells #[.slice none 0 0, .slice none 0 0, .slice none 0 0, .slice none 0 0] 25)) := by (repeat' first | (with_reducible exact Below.refl _ _) | (with_reducible assumption) | ((with_reducible refine Below.setCell ?_ ?hb _); (case hb => first | exact Nat.le_refl _ | (simp; done) | (simp; omega) | omega)) | ((with_reducible refine Below.alloc ?_ ?hb _); (case hb => first | exact Nat.le_refl _ | (simp; done) | (simp; omega) | omega)) | (with_reducible refine Below.drew ?_))
  have HLg := Lib.hid (show g1 < w.heap.size ∧ g3 < w.heap.size ∧ g4 < w.heap.size from ⟨h.M.lt, h.V.lt, h.H.lt⟩)
  have HX := Lib.hid (show Box4 ((w.alloc (.cells #[.slice (some ⟨g1, 0, none⟩) x.M.length c1, .slice aF5 x.F.length cF5, .slice (some ⟨g3, 0, none⟩) x.V.length c3, .slice (some ⟨g4, 0, none⟩) x.H.length c4] 25)).alloc (.cells #[.slice none 0 0, .slice none 0 0, .slice none 0 0, .slice none 0 0] 25)) w.heap.size (.slice (some ⟨g1, 0, none⟩) x.M.length c1) (.slice aF5 x.F.length cF5) (.slice (some ⟨g3, 0, none⟩) x.V.length c3) (.slice (some ⟨g4, 0, none⟩) x.H.length c4) from (Box4.new _ _ _ _ _ _ _ rfl).fr (Fr.alloc _ _))
  have HZ := Lib.hid (show Box4 ((w.alloc (.cells #[.slice (some ⟨g1, 0, none⟩) x.M.length c1, .slice aF5 x.F.length cF5, .slice (some ⟨g3, 0, none⟩) x.V.length c3, .slice (some ⟨g4, 0, none⟩) x.H.length c4] 25)).alloc (.cells #[.slice none 0 0, .slice none 0 0, .slice none 0 0, .slice none 0 0] 25)) (w.heap.size + 1) (.slice none 0 0) (.slice none 0 0) (.slice none 0 0) (.slice none 0 0) from Box4.new _ _ _ _ _ _ _ (by simp))
  have HC := Lib.hid (h.but (L := []) (But.of F2) (by simp))
  have HF := Lib.hid (show Below B w ((w.alloc (.cells #[.slice (some ⟨g1, 0, none⟩) x.M.length c1, .slice aF5 x.F.length cF5, .slice (some ⟨g3, 0, none⟩) x.V.length c3, .slice (some ⟨g4, 0, none⟩) x.H.length c4] 25)).alloc (.cells #[.slice none 0 0, .slice none 0 0, .slice none 0 0, .slice none 0 0] 25)) from Below.mono F2 hB)
  have HBF := Lib.hid (fun (g : Nat) (e : aF5 = some ⟨g, 0, none⟩) (h0 : 0 < x.F.length) => show g < w.heap.size by
    rcases h.F with ⟨hq, _⟩ | ⟨g9, e9, _, r9, _⟩
    · omega
    · rw [e9] at e
      cases e
      exact r9.lt)
  have HFL := Lib.hid hl
  have HD := Lib.hid hd
  obtain ⟨FF, hFF⟩ : ∃ FF, x.F ++ [now] = FF := ⟨_, rfl⟩
  have HFF := Lib.hid hFF
  rw [hFF]
  clear F2 h hl hFF
  go_enter Try.func76, Try.ntmps76
  go_upto_region 1 with fail
  generalize ((w.alloc (.cells #[.slice (some ⟨g1, 0, none⟩) x.M.length c1, .slice aF5 x.F.length cF5, .slice (some ⟨g3, 0, none⟩) x.V.length c3, .slice (some ⟨g4, 0, none⟩) x.H.length c4] 25)).alloc (.cells #[.slice none 0 0, .slice none 0 0, .slice none 0 0, .slice none 0 0] 25)) = v1 at *
  have d1 := HC.out.M.cel d hd
  have d2 := HC.out.M.fro d hd
  have hd0 : (0 : Int) ≤ (d : Int) := by omega
  obtain ⟨_, y0, y1, y2, y3, yf0, yf1, yf2, yf3⟩ := HX.out
  go_upto_region 2 with fail
  have hb9 : But [g1] v1 (v1.setCell ⟨g1, d, none⟩ (.int .i64 old)) := (But.refl _ _).set _ _ _ (.inl (by simp))
  have HC9 := Lib.hid (HC.out.putM d old HD.out)
  have HX9 := Lib.hid (HX.out.but hb9 (by have := HLg.out; simp; omega))
  have HZ9 := Lib.hid (HZ.out.but hb9 (by have := HLg.out; simp; omega))
  have HF9 := Lib.hid (show Below B w (v1.setCell ⟨g1, d, none⟩ (.int .i64 old)) from Below.trans HF.out (bel_but hb9 (fun k hk => by rw [List.mem_singleton.1 hk]; exact HC.out.b1) (by have := HF.out.size; omega)))
  clear y0 y1 y2 y3 yf0 yf1 yf2 yf3 d1 d2 hb9 HC HX HZ HF
  generalize (v1.setCell ⟨g1, d, none⟩ (.int .i64 old)) = v2 at *
  have HC := HC9
  have HX := HX9
  have HZ := HZ9
  have HF := HF9
  clear HC9 HX9 HZ9 HF9
  obtain ⟨v1, hv12⟩ : ∃ v1, v2 = v1 := ⟨_, rfl⟩
  rw [hv12] at HC HX HZ HF ⊢
  clear hv12 v2
  clear hd hd0
  have fA := Fr.alloc v1 (.cells #[.int .i64 now] 3)
  have HCA := Lib.hid (HC.out.but (L := []) (But.of fA) (by simp))
  have HXA := Lib.hid (HX.out.fr fA)
  have HZA := Lib.hid (HZ.out.fr fA)
  have HFA := Lib.hid (show Below B w (v1.alloc (.cells #[.int .i64 now] 3)) from HF.out.trans (Below.mono fA (by have := HF.out.size; omega)))
  have HPC := Lib.hid (show (v1.alloc (.cells #[.int .i64 now] 3)).cell? ⟨v1.heap.size, 0, none⟩ = some (.int .i64 now) from (alloc_at v1 _ 3 _ rfl 0).1)
  have hbk : ∀ k, k ∈ bkS x.F.length aF5 → k < w.heap.size ∧ B ≤ k := fun k hm => by
    obtain ⟨g', e', h0', hh'⟩ := rc_bk HC.out.F hm
    have := HBF.out g' e' h0'
    rcases HC.out.F with ⟨hq, _⟩ | ⟨g9, e9, hb9, _⟩
    · exact absurd h0' (by show ¬ 0 < x.F.length; have : x.F.length = 0 := hq; omega)
    · rw [e9] at e'
      cases e'
      omega
  have HBK := Lib.hid hbk
  have HBW := Lib.hid (show B ≤ (v1.alloc (.cells #[.int .i64 now] 3)).heap.size by have := HFA.out.size; omega)
  have hws : w.heap.size + 1 < (v1.alloc (.cells #[.int .i64 now] 3)).heap.size := HZA.out.lt
  have HWS := Lib.hid hws
  clear fA hbk hws
  obtain ⟨_, y0, y1, y2, y3, yf0, yf1, yf2, yf3⟩ := HX.out
  go_upto_region 3 with (at_builtin; refine wpList_plain rfl fun K hK => wp_append_rc _ _ rfl B x.F aF5 cF5 rfl HCA.out.F now _ rfl HPC.out (by have := HFL.out; omega) HBW.out ?_; intro gF cF9 v2 hR hCa hBg hgg hbut; have HGF := Lib.hid (show gF ≠ w.heap.size from fun e => by (rcases hgg with ⟨h0, e2⟩ | hgg; have := HBF.out _ e2 h0; omega; have := HWS.out; omega)); have HGF2 := Lib.hid (show gF ≠ w.heap.size + 1 from fun e => by (rcases hgg with ⟨h0, e2⟩ | hgg; have := HBF.out _ e2 h0; omega; have := HWS.out; omega)); have HCB := Lib.hid (HCA.out.app hR hCa hBg hgg hbut); have HXB := Lib.hid (HXA.out.but hbut (fun hm => by have := HBK.out _ hm; omega)); have HZB := Lib.hid (HZA.out.but hbut (fun hm => by have := HBK.out _ hm; omega)); have HFB := Lib.hid (show Below B w v2 from Below.trans HFA.out (bel_but hbut (fun k hk => (HBK.out k hk).2) HBW.out)); simp only [HFF.out] at HCB; rw [HFF.out]; clear hR hCa hBg hgg hbut; refine hK _ _ ?_; clear y0 y1 y2 y3 yf0 yf1 yf2 yf3; obtain ⟨_, y0, y1, y2, y3, yf0, yf1, yf2, yf3⟩ := HXB.out)
  have hb9 : But [w.heap.size] v2 (v2.setCell ⟨w.heap.size, 1, none⟩ (.slice (some ⟨gF, 0, none⟩) FF.length cF9)) := (But.refl _ _).set _ _ _ (.inl (by simp))
  have HXC := Lib.hid (HXB.out.t1 (.slice (some ⟨gF, 0, none⟩) FF.length cF9))
  have hlg := HLg.out
  have HCC := Lib.hid (show OwC B (v2.setCell ⟨w.heap.size, 1, none⟩ (.slice (some ⟨gF, 0, none⟩) FF.length cF9)) ⟨x.M.set d old, FF, x.V, x.H⟩ g1 (some ⟨gF, 0, none⟩) cF9 g3 g4 from ⟨HCB.out.b1, HCB.out.b3, HCB.out.b4, HCB.out.M.but hb9 (by simp; omega), rc_other HCB.out.F _ _ _ (fun g e h0 => by cases e; exact HGF.out.symm), HCB.out.V.but hb9 (by simp; omega), HCB.out.H.but hb9 (by simp; omega), HCB.out.a13, HCB.out.a14, HCB.out.a34, HCB.out.aF⟩)
  have HZC := Lib.hid (HZB.out.but hb9 (by simp))
  have HFC := Lib.hid (show Below B w (v2.setCell ⟨w.heap.size, 1, none⟩ (.slice (some ⟨gF, 0, none⟩) FF.length cF9)) from Below.trans HFB.out (bel_but hb9 (fun k hk => by rw [List.mem_singleton.1 hk]; exact hB) (by have := HFB.out.size; omega)))
  clear y0 y1 y2 y3 yf0 yf1 yf2 yf3 hb9 HCB HXB HZB HFB HCA HXA HZA HFA HC HX HZ HF
  generalize (v2.setCell ⟨w.heap.size, 1, none⟩ (.slice (some ⟨gF, 0, none⟩) FF.length cF9)) = v3 at *
  obtain ⟨_, y0, y1, y2, y3, yf0, yf1, yf2, yf3⟩ := HXC.out
  obtain ⟨_, z0, z1, z2, z3, zf0, zf1, zf2, zf3⟩ := HZC.out
  have hst : ∀ a b c d, But [w.heap.size + 1] v3 ((((v3.setCell ⟨w.heap.size + 1, 0, none⟩ a).setCell ⟨w.heap.size + 1, 1, none⟩ b).setCell ⟨w.heap.size + 1, 2, none⟩ c).setCell ⟨w.heap.size + 1, 3, none⟩ d) := fun a b c d => (But.refl _ _).set4 (w.heap.size + 1) a b c d (.inl (by simp))
  have HST := Lib.hid hst
  clear hst
  go_wp2_with fail
  refine bodyPost_ret (v := .agg #[.slice (some ⟨g1, 0, none⟩) x.M.length c1, .slice (some ⟨gF, 0, none⟩) FF.length cF9, .slice (some ⟨g3, 0, none⟩) x.V.length c3, .slice (some ⟨g4, 0, none⟩) x.H.length c4]) (by simp [results, Try.results76, go_sem, World.cell?_setCell_other, World.cell?_setCell_same, z0, z1, z2, z3]) rfl ⟨gF, cF9, rfl, ?_, ?_⟩
  · refine ⟨HCC.out.b1, HCC.out.b3, HCC.out.b4, HCC.out.M.but (HST.out _ _ _ _) (by simp; omega), ?_, HCC.out.V.but (HST.out _ _ _ _) (by simp; omega), HCC.out.H.but (HST.out _ _ _ _) (by simp; omega), HCC.out.a13, HCC.out.a14, HCC.out.a34, HCC.out.aF⟩
    refine Rc.but' HCC.out.F (HST.out _ _ _ _) (fun k hk g e => ?_)
    cases e
    rw [List.mem_singleton.1 hk]
    exact HGF2.out
  · exact Below.trans HFC.out (bel_but (HST.out _ _ _ _) (fun k hk => by rw [List.mem_singleton.1 hk]; omega) (by have := HFC.out.size; omega))

theorem src_but {L : List Nat} {u u' : World} {n : Nat} {c : Nat → Value} {g : Nat} (h : Src u n c (some ⟨g, 0, none⟩)) (f : But L u u') (hn : g ∉ L) : Src u' n c (some ⟨g, 0, none⟩) := fun h0 => by
  obtain ⟨g', o, e, l, k⟩ := h h0
  cases e
  exact ⟨g, 0, rfl, Nat.lt_of_lt_of_le l f.size, fun i hi => by rw [f.cell l hn]; exact k i hi⟩
set_option maxRecDepth 8000 in
set_option maxHeartbeats 4000000 in
theorem spec_l6Take_a (B : Nat) (M R V : List Int) (H : List Bool) (p d : Nat) (g1 gF cF g3 g4 c1 c3 c4 : Nat) (w : World) (h : OwC B w ⟨M, (p : Int) :: R, V, H⟩ g1 (some ⟨gF, 0, none⟩) cF g3 g4) (hd : d < M.length) (hp : p < H.length) (hl : R.length ≤ 100) (hR : 0 < R.length) (hB : B ≤ w.heap.size) :
    Calls Try.prog 67 #[.agg #[.slice (some ⟨g1, 0, none⟩) M.length c1, .slice (some ⟨gF, 0, none⟩) (R.length + 1) cF, .slice (some ⟨g3, 0, none⟩) V.length c3, .slice (some ⟨g4, 0, none⟩) H.length c4], .int .i64 d] w fun e w' => ∃ aN cN, e = .returned (.tuple #[.agg #[.slice (some ⟨g1, 0, none⟩) M.length c1, .slice aN R.length cN, .slice (some ⟨g3, 0, none⟩) V.length c3, .slice (some ⟨g4, 0, none⟩) H.length c4], .int .i64 p, .int .i64 (M.getD d 0)]) ∧ SrcN w' ⟨M.set d p, R, V, H.set p false⟩ (some ⟨g1, 0, none⟩) aN (some ⟨g3, 0, none⟩) (some ⟨g4, 0, none⟩) ∧ Below B w w' := by
  obtain ⟨i0, hi, hz0, hz1, hz2⟩ := info_parts info_intV
  have F2 : Fr w ((w.alloc (.cells #[.slice (some ⟨g1, 0, none⟩) M.length c1, .slice (some ⟨gF, 0, none⟩) (R.length + 1) cF, .slice (some ⟨g3, 0, none⟩) V.length c3, .slice (some ⟨g4, 0, none⟩) H.length c4] 25)).alloc (.cells #[.slice none 0 0, .slice none 0 0, .slice none 0 0, .slice none 0 0] 25)) := by (repeat' first | (with_reducible exact Below.refl _ _) | (with_reducible assumption) | ((with_reducible refine Below.setCell ?_ ?hb _); (case hb => first | exact Nat.le_refl _ | (simp; done) | (simp; omega) | omega)) | ((with_reducible refine Below.alloc ?_ ?hb _); (case hb => first | exact Nat.le_refl _ | (simp; done) | (simp; omega) | omega)) | (with_reducible refine Below.drew ?_))
  have HLg := Lib.hid (show g1 < w.heap.size ∧ g3 < w.heap.size ∧ g4 < w.heap.size from ⟨h.M.lt, h.V.lt, h.H.lt⟩)
  have HX := Lib.hid (show Box4 ((w.alloc (.cells #[.slice (some ⟨g1, 0, none⟩) M.length c1, .slice (some ⟨gF, 0, none⟩) (R.length + 1) cF, .slice (some ⟨g3, 0, none⟩) V.length c3, .slice (some ⟨g4, 0, none⟩) H.length c4] 25)).alloc (.cells #[.slice none 0 0, .slice none 0 0, .slice none 0 0, .slice none 0 0] 25)) w.heap.size (.slice (some ⟨g1, 0, none⟩) M.length c1) (.slice (some ⟨gF, 0, none⟩) (R.length + 1) cF) (.slice (some ⟨g3, 0, none⟩) V.length c3) (.slice (some ⟨g4, 0, none⟩) H.length c4) from (Box4.new _ _ _ _ _ _ _ rfl).fr (Fr.alloc _ _))
  have HZ := Lib.hid (show Box4 ((w.alloc (.cells #[.slice (some ⟨g1, 0, none⟩) M.length c1, .slice (some ⟨gF, 0, none⟩) (R.length + 1) cF, .slice (some ⟨g3, 0, none⟩) V.length c3, .slice (some ⟨g4, 0, none⟩) H.length c4] 25)).alloc (.cells #[.slice none 0 0, .slice none 0 0, .slice none 0 0, .slice none 0 0] 25)) (w.heap.size + 1) (.slice none 0 0) (.slice none 0 0) (.slice none 0 0) (.slice none 0 0) from Box4.new _ _ _ _ _ _ _ (by simp))
  have HC := Lib.hid (h.but (L := []) (But.of F2) (by simp))
  have HF := Lib.hid (show Below B w ((w.alloc (.cells #[.slice (some ⟨g1, 0, none⟩) M.length c1, .slice (some ⟨gF, 0, none⟩) (R.length + 1) cF, .slice (some ⟨g3, 0, none⟩) V.length c3, .slice (some ⟨g4, 0, none⟩) H.length c4] 25)).alloc (.cells #[.slice none 0 0, .slice none 0 0, .slice none 0 0, .slice none 0 0] 25)) from Below.mono F2 hB)
  obtain ⟨hgl, hbF, rF, kF⟩ : gF < w.heap.size ∧ B ≤ gF ∧ Ro w gF ((p : Int) :: R) ∧ Ca w gF (R.length + 1) cF := by
    rcases h.F with ⟨hq, _⟩ | ⟨g9, e9, hb, r9, k9, _⟩
    · simp at hq
    · cases e9
      exact ⟨r9.lt, hb, r9, k9⟩
  have hcF : R.length + 1 ≤ cF := by obtain ⟨_, _, _, hq, _⟩ := kF; exact hq
  have nF : g1 ≠ gF ∧ g3 ≠ gF ∧ g4 ≠ gF := h.aF gF rfl (by simp)
  have HNF := Lib.hid nF
  have HGL := Lib.hid hgl
  have HBF := Lib.hid hbF
  have HRF := Lib.hid (rF.fr F2)
  have HD := Lib.hid hd
  have HPH := Lib.hid hp
  have HRL := Lib.hid hl
  have HR0 := Lib.hid hR
  have hc1 : ¬ cF = 1 := by omega
  obtain ⟨mo, hmo⟩ : ∃ mo, M.getD d 0 = mo := ⟨_, rfl⟩
  have HMO := Lib.hid hmo
  rw [hmo]
  clear F2 h hl hmo nF hgl hbF rF kF hR
  go_enter Try.func67, Try.ntmps67
  go_upto_region 1 with fail
  generalize ((w.alloc (.cells #[.slice (some ⟨g1, 0, none⟩) M.length c1, .slice (some ⟨gF, 0, none⟩) (R.length + 1) cF, .slice (some ⟨g3, 0, none⟩) V.length c3, .slice (some ⟨g4, 0, none⟩) H.length c4] 25)).alloc (.cells #[.slice none 0 0, .slice none 0 0, .slice none 0 0, .slice none 0 0] 25)) = v1 at *
  have d0 := HRF.out.cel 0 (by simp)
  simp only [List.getD_cons_zero] at d0
  have hlF : 0 < R.length + 1 := by omega
  have d5 := HC.out.M.cel d hd
  simp only at d5
  rw [HMO.out] at d5
  have hd0 : (0 : Int) ≤ (d : Int) := by omega
  obtain ⟨_, y0, y1, y2, y3, yf0, yf1, yf2, yf3⟩ := HX.out
  go_upto_region 3 with fail
  clear d0 d5 hlF
  have HRC := Lib.hid (cells_of (u := (v1.alloc (.cells #[] 3))) (g := gF) (o := 1) R (fun i hi => by rw [(Fr.alloc v1 (.cells #[] 3)).cell (show gF < v1.heap.size from HRF.out.lt), Nat.add_comm]; exact HRF.out.cel (i + 1) (by simpa using hi)))
  go_upto_region 4 with (at_builtin; refine wpList_plain rfl fun K hK => wp_append_new _ _ 22 rfl 3 i0 (.int .i64 0) Try.underlying22 hi hz0 hz1 hz2 _ rfl ⟨gF, 1, none⟩ R.length _ (R.map (Value.int .i64)) rfl (by simp) HRC.out (ints_one _) HR0.out (by have := HRL.out; omega) ?_; intro cN zs hzs; refine hK _ _ ?_)
  have fN : Fr v1 ((v1.alloc (.cells #[] 3)).drew.alloc (.cells ((R.map (Value.int .i64)).toArray ++ zs) 3)) := by (repeat' first | (with_reducible exact Below.refl _ _) | (with_reducible assumption) | ((with_reducible refine Below.setCell ?_ ?hb _); (case hb => first | exact Nat.le_refl _ | (simp; done) | (simp; omega) | omega)) | ((with_reducible refine Below.alloc ?_ ?hb _); (case hb => first | exact Nat.le_refl _ | (simp; done) | (simp; omega) | omega)) | (with_reducible refine Below.drew ?_))
  have hlv := HX.out.lt
  have hlz := HZ.out.lt
  have hlg := HLg.out
  have hgl := HGL.out
  have hb9 : But [w.heap.size] ((v1.alloc (.cells #[] 3)).drew.alloc (.cells ((R.map (Value.int .i64)).toArray ++ zs) 3)) (((v1.alloc (.cells #[] 3)).drew.alloc (.cells ((R.map (Value.int .i64)).toArray ++ zs) 3)).setCell ⟨w.heap.size, 1, none⟩ (.slice (some ⟨(v1.heap.size + 1), 0, none⟩) R.length cN)) := (But.refl _ _).set _ _ _ (.inl (by simp))
  have HX9 := Lib.hid ((HX.out.fr fN).t1 (.slice (some ⟨(v1.heap.size + 1), 0, none⟩) R.length cN))
  have HC9 := Lib.hid (show OwC B (((v1.alloc (.cells #[] 3)).drew.alloc (.cells ((R.map (Value.int .i64)).toArray ++ zs) 3)).setCell ⟨w.heap.size, 1, none⟩ (.slice (some ⟨(v1.heap.size + 1), 0, none⟩) R.length cN)) ⟨M, (p : Int) :: R, V, H⟩ g1 (some ⟨gF, 0, none⟩) cF g3 g4 from by
    have hc := HC.out.but (L := []) (But.of fN) (by simp)
    exact ⟨hc.b1, hc.b3, hc.b4, hc.M.but hb9 (by simp; omega), rc_other hc.F _ _ _ (fun g e h0 => by cases e; omega), hc.V.but hb9 (by simp; omega), hc.H.but hb9 (by simp; omega), hc.a13, hc.a14, hc.a34, hc.aF⟩)
  have HZ9 := Lib.hid ((HZ.out.fr fN).but hb9 (by simp))
  have HF9 := Lib.hid (show Below B w (((v1.alloc (.cells #[] 3)).drew.alloc (.cells ((R.map (Value.int .i64)).toArray ++ zs) 3)).setCell ⟨w.heap.size, 1, none⟩ (.slice (some ⟨(v1.heap.size + 1), 0, none⟩) R.length cN)) from Below.trans (HF.out.trans (Below.mono fN (by have := HF.out.size; omega))) (bel_but hb9 (fun k hk => by rw [List.mem_singleton.1 hk]; exact hB) (by have := HF.out.size; have := fN.size; omega)))
  have HNZ := Lib.hid (show (v1.heap.size + 1) ≠ w.heap.size + 1 by omega)
  have HN9 := Lib.hid (show Src (((v1.alloc (.cells #[] 3)).drew.alloc (.cells ((R.map (Value.int .i64)).toArray ++ zs) 3)).setCell ⟨w.heap.size, 1, none⟩ (.slice (some ⟨(v1.heap.size + 1), 0, none⟩) R.length cN)) R.length (ivl R) (some ⟨(v1.heap.size + 1), 0, none⟩) ∧ (v1.heap.size + 1) ≠ g1 ∧ (v1.heap.size + 1) ≠ g4 from by
    have hr : Ro ((v1.alloc (.cells #[] 3)).drew.alloc (.cells ((R.map (Value.int .i64)).toArray ++ zs) 3)) (v1.heap.size + 1) R := by have := ro_new (v1.alloc (.cells #[] 3)).drew R zs 3; simpa using this
    refine ⟨(hr.but hb9 (by simp; omega)).src, by omega, by omega⟩)
  clear y0 y1 y2 y3 yf0 yf1 yf2 yf3 fN hb9 HX HC HZ HF HRF HRC
  have hW : (((v1.alloc (.cells #[] 3)).drew.alloc (.cells ((R.map (Value.int .i64)).toArray ++ zs) 3)).setCell ⟨w.heap.size, 1, none⟩ (.slice (some ⟨(v1.heap.size + 1), 0, none⟩) R.length cN)) = (((v1.setCell ⟨w.heap.size, 1, none⟩ (.slice (some ⟨(v1.heap.size + 1), 0, none⟩) R.length cN)).alloc (.cells #[] 3)).alloc (.cells ((R.map (Value.int .i64)).toArray ++ zs) 3)).drew := by
    rw [World.setCell_alloc_past (hn := by simp; omega)]
    show (((v1.alloc (.cells #[] 3)).setCell ⟨w.heap.size, 1, none⟩ (.slice (some ⟨(v1.heap.size + 1), 0, none⟩) R.length cN)).alloc _).drew = _
    rw [World.setCell_alloc_past (hn := hlv)]
  rw [hW] at HX9 HC9 HZ9 HF9 HN9
  clear hW
  generalize (((v1.setCell ⟨w.heap.size, 1, none⟩ (.slice (some ⟨(v1.heap.size + 1), 0, none⟩) R.length cN)).alloc (.cells #[] 3)).alloc (.cells ((R.map (Value.int .i64)).toArray ++ zs) 3)).drew = v2 at *
  generalize (v1.heap.size + 1) = gN at *
  clear hlv hlz hgl
  have HX := HX9
  have HC := HC9
  have HZ := HZ9
  have HF := HF9
  clear HX9 HC9 HZ9 HF9
  have d1 := HC.out.M.cel d hd
  have d2 := HC.out.M.fro d hd
  obtain ⟨_, y0, y1, y2, y3, yf0, yf1, yf2, yf3⟩ := HX.out
  go_upto_region 5 with fail
  have hb9 : But [g1] v2 (v2.setCell ⟨g1, d, none⟩ (.int .i64 p)) := (But.refl _ _).set _ _ _ (.inl (by simp))
  have HC9 := Lib.hid (HC.out.putM d p HD.out)
  have HX9 := Lib.hid (HX.out.but hb9 (by have := HLg.out; simp; omega))
  have HZ9 := Lib.hid (HZ.out.but hb9 (by have := HLg.out; simp; omega))
  have HF9 := Lib.hid (show Below B w (v2.setCell ⟨g1, d, none⟩ (.int .i64 p)) from Below.trans HF.out (bel_but hb9 (fun k hk => by rw [List.mem_singleton.1 hk]; exact HC.out.b1) (by have := HF.out.size; omega)))
  have HN8 := Lib.hid (show Src (v2.setCell ⟨g1, d, none⟩ (.int .i64 p)) R.length (ivl R) (some ⟨gN, 0, none⟩) ∧ gN ≠ g1 ∧ gN ≠ g4 from ⟨src_but HN9.out.1 hb9 (by simp; have := HN9.out.2; omega), HN9.out.2⟩)
  clear HN9
  have HN9 := HN8
  clear HN8
  clear y0 y1 y2 y3 yf0 yf1 yf2 yf3 d1 d2 hb9 HC HX HZ HF
  generalize (v2.setCell ⟨g1, d, none⟩ (.int .i64 p)) = v9 at *
  have HC := HC9
  have HX := HX9
  have HZ := HZ9
  have HF := HF9
  clear HC9 HX9 HZ9 HF9
  obtain ⟨v2, hv22⟩ : ∃ v2, v9 = v2 := ⟨_, rfl⟩
  rw [hv22] at HC HX HZ HF HN9 ⊢
  clear hv22 v9
  have d1 := HC.out.H.cel p HPH.out
  have d2 := HC.out.H.fro p HPH.out
  have hp := HPH.out
  have hp0 : (0 : Int) ≤ (p : Int) := by omega
  obtain ⟨_, y0, y1, y2, y3, yf0, yf1, yf2, yf3⟩ := HX.out
  go_upto_region 6 with fail
  have hb9 : But [g4] v2 (v2.setCell ⟨g4, p, none⟩ (.bool false)) := (But.refl _ _).set _ _ _ (.inl (by simp))
  have HC9 := Lib.hid (HC.out.putH p false HPH.out)
  have HX9 := Lib.hid (HX.out.but hb9 (by have := HLg.out; simp; omega))
  have HZ9 := Lib.hid (HZ.out.but hb9 (by have := HLg.out; simp; omega))
  have HF9 := Lib.hid (show Below B w (v2.setCell ⟨g4, p, none⟩ (.bool false)) from Below.trans HF.out (bel_but hb9 (fun k hk => by rw [List.mem_singleton.1 hk]; exact HC.out.b4) (by have := HF.out.size; omega)))
  have HN8 := Lib.hid (show Src (v2.setCell ⟨g4, p, none⟩ (.bool false)) R.length (ivl R) (some ⟨gN, 0, none⟩) ∧ gN ≠ g1 ∧ gN ≠ g4 from ⟨src_but HN9.out.1 hb9 (by simp; have := HN9.out.2; omega), HN9.out.2⟩)
  clear HN9
  have HN9 := HN8
  clear HN8
  clear y0 y1 y2 y3 yf0 yf1 yf2 yf3 d1 d2 hb9 HC HX HZ HF
  generalize (v2.setCell ⟨g4, p, none⟩ (.bool false)) = v9 at *
  have HC := HC9
  have HX := HX9
  have HZ := HZ9
  have HF := HF9
  clear HC9 HX9 HZ9 HF9
  obtain ⟨v2, hv22⟩ : ∃ v2, v9 = v2 := ⟨_, rfl⟩
  rw [hv22] at HC HX HZ HF HN9 ⊢
  clear hv22 v9
  obtain ⟨_, y0, y1, y2, y3, yf0, yf1, yf2, yf3⟩ := HX.out
  obtain ⟨_, z0, z1, z2, z3, zf0, zf1, zf2, zf3⟩ := HZ.out
  have hst : ∀ a b c d, But [w.heap.size + 1] v2 ((((v2.setCell ⟨w.heap.size + 1, 0, none⟩ a).setCell ⟨w.heap.size + 1, 1, none⟩ b).setCell ⟨w.heap.size + 1, 2, none⟩ c).setCell ⟨w.heap.size + 1, 3, none⟩ d) := fun a b c d => (But.refl _ _).set4 (w.heap.size + 1) a b c d (.inl (by simp))
  have HST := Lib.hid hst
  clear hst
  go_wp2_with fail
  refine bodyPost_ret (v := .tuple #[.agg #[.slice (some ⟨g1, 0, none⟩) M.length c1, .slice (some ⟨gN, 0, none⟩) R.length cN, .slice (some ⟨g3, 0, none⟩) V.length c3, .slice (some ⟨g4, 0, none⟩) H.length c4], .int .i64 p, .int .i64 mo]) (by simp [results, Try.results67, go_sem, World.cell?_setCell_other, World.cell?_setCell_same, z0, z1, z2, z3]) rfl ?_
  first | refine ⟨some ⟨gN, 0, none⟩, cN, rfl, ⟨?_, ?_, ?_, ?_⟩, ?_⟩ | refine ⟨some ⟨gN, 0, none⟩, ⟨cN, rfl⟩, ⟨?_, ?_, ?_, ?_⟩, ?_⟩
  · exact (HC.out.M.but (HST.out _ _ _ _) (by simp; omega)).src
  · exact src_but HN9.out.1 (HST.out _ _ _ _) (by simp; exact HNZ.out)
  · exact (HC.out.V.but (HST.out _ _ _ _) (by simp; omega)).src
  · exact (HC.out.H.but (HST.out _ _ _ _) (by simp; omega)).src
  · exact Below.trans HF.out (bel_but (HST.out _ _ _ _) (fun k hk => by rw [List.mem_singleton.1 hk]; omega) (by have := HF.out.size; omega))
set_option maxRecDepth 8000 in
set_option maxHeartbeats 4000000 in
theorem spec_l6Take_b (B : Nat) (M R V : List Int) (H : List Bool) (p d : Nat) (g1 gF cF g3 g4 c1 c3 c4 : Nat) (w : World) (h : OwC B w ⟨M, (p : Int) :: R, V, H⟩ g1 (some ⟨gF, 0, none⟩) cF g3 g4) (hd : d < M.length) (hp : p < H.length) (hl : R.length ≤ 100) (hR : R.length = 0) (hc1 : cF = 1) (hB : B ≤ w.heap.size) :
    Calls Try.prog 67 #[.agg #[.slice (some ⟨g1, 0, none⟩) M.length c1, .slice (some ⟨gF, 0, none⟩) (R.length + 1) cF, .slice (some ⟨g3, 0, none⟩) V.length c3, .slice (some ⟨g4, 0, none⟩) H.length c4], .int .i64 d] w fun e w' => ∃ aN cN, e = .returned (.tuple #[.agg #[.slice (some ⟨g1, 0, none⟩) M.length c1, .slice aN R.length cN, .slice (some ⟨g3, 0, none⟩) V.length c3, .slice (some ⟨g4, 0, none⟩) H.length c4], .int .i64 p, .int .i64 (M.getD d 0)]) ∧ SrcN w' ⟨M.set d p, R, V, H.set p false⟩ (some ⟨g1, 0, none⟩) aN (some ⟨g3, 0, none⟩) (some ⟨g4, 0, none⟩) ∧ Below B w w' := by
  obtain ⟨i0, hi, hz0, hz1, hz2⟩ := info_parts info_intV
  subst hc1
  have F2 : Fr w ((w.alloc (.cells #[.slice (some ⟨g1, 0, none⟩) M.length c1, .slice (some ⟨gF, 0, none⟩) (R.length + 1) 1, .slice (some ⟨g3, 0, none⟩) V.length c3, .slice (some ⟨g4, 0, none⟩) H.length c4] 25)).alloc (.cells #[.slice none 0 0, .slice none 0 0, .slice none 0 0, .slice none 0 0] 25)) := by (repeat' first | (with_reducible exact Below.refl _ _) | (with_reducible assumption) | ((with_reducible refine Below.setCell ?_ ?hb _); (case hb => first | exact Nat.le_refl _ | (simp; done) | (simp; omega) | omega)) | ((with_reducible refine Below.alloc ?_ ?hb _); (case hb => first | exact Nat.le_refl _ | (simp; done) | (simp; omega) | omega)) | (with_reducible refine Below.drew ?_))
  have HLg := Lib.hid (show g1 < w.heap.size ∧ g3 < w.heap.size ∧ g4 < w.heap.size from ⟨h.M.lt, h.V.lt, h.H.lt⟩)
  have HX := Lib.hid (show Box4 ((w.alloc (.cells #[.slice (some ⟨g1, 0, none⟩) M.length c1, .slice (some ⟨gF, 0, none⟩) (R.length + 1) 1, .slice (some ⟨g3, 0, none⟩) V.length c3, .slice (some ⟨g4, 0, none⟩) H.length c4] 25)).alloc (.cells #[.slice none 0 0, .slice none 0 0, .slice none 0 0, .slice none 0 0] 25)) w.heap.size (.slice (some ⟨g1, 0, none⟩) M.length c1) (.slice (some ⟨gF, 0, none⟩) (R.length + 1) 1) (.slice (some ⟨g3, 0, none⟩) V.length c3) (.slice (some ⟨g4, 0, none⟩) H.length c4) from (Box4.new _ _ _ _ _ _ _ rfl).fr (Fr.alloc _ _))
  have HZ := Lib.hid (show Box4 ((w.alloc (.cells #[.slice (some ⟨g1, 0, none⟩) M.length c1, .slice (some ⟨gF, 0, none⟩) (R.length + 1) 1, .slice (some ⟨g3, 0, none⟩) V.length c3, .slice (some ⟨g4, 0, none⟩) H.length c4] 25)).alloc (.cells #[.slice none 0 0, .slice none 0 0, .slice none 0 0, .slice none 0 0] 25)) (w.heap.size + 1) (.slice none 0 0) (.slice none 0 0) (.slice none 0 0) (.slice none 0 0) from Box4.new _ _ _ _ _ _ _ (by simp))
  have HC := Lib.hid (h.but (L := []) (But.of F2) (by simp))
  have HF := Lib.hid (show Below B w ((w.alloc (.cells #[.slice (some ⟨g1, 0, none⟩) M.length c1, .slice (some ⟨gF, 0, none⟩) (R.length + 1) 1, .slice (some ⟨g3, 0, none⟩) V.length c3, .slice (some ⟨g4, 0, none⟩) H.length c4] 25)).alloc (.cells #[.slice none 0 0, .slice none 0 0, .slice none 0 0, .slice none 0 0] 25)) from Below.mono F2 hB)
  obtain ⟨hgl, hbF, rF, kF⟩ : gF < w.heap.size ∧ B ≤ gF ∧ Ro w gF ((p : Int) :: R) ∧ Ca w gF (R.length + 1) 1 := by
    rcases h.F with ⟨hq, _⟩ | ⟨g9, e9, hb, r9, k9, _⟩
    · simp at hq
    · cases e9
      exact ⟨r9.lt, hb, r9, k9⟩
  have hcF : R.length + 1 ≤ 1 := by obtain ⟨_, _, _, hq, _⟩ := kF; exact hq
  have nF : g1 ≠ gF ∧ g3 ≠ gF ∧ g4 ≠ gF := h.aF gF rfl (by simp)
  have HNF := Lib.hid nF
  have HGL := Lib.hid hgl
  have HBF := Lib.hid hbF
  have HRF := Lib.hid (rF.fr F2)
  have HD := Lib.hid hd
  have HPH := Lib.hid hp
  have HRL := Lib.hid hl
  have HR0 := Lib.hid hR
  obtain ⟨mo, hmo⟩ : ∃ mo, M.getD d 0 = mo := ⟨_, rfl⟩
  have HMO := Lib.hid hmo
  rw [hmo]
  clear F2 h hl hmo nF hgl hbF rF kF hR
  go_enter Try.func67, Try.ntmps67
  go_upto_region 1 with fail
  generalize ((w.alloc (.cells #[.slice (some ⟨g1, 0, none⟩) M.length c1, .slice (some ⟨gF, 0, none⟩) (R.length + 1) 1, .slice (some ⟨g3, 0, none⟩) V.length c3, .slice (some ⟨g4, 0, none⟩) H.length c4] 25)).alloc (.cells #[.slice none 0 0, .slice none 0 0, .slice none 0 0, .slice none 0 0] 25)) = v1 at *
  have d0 := HRF.out.cel 0 (by simp)
  simp only [List.getD_cons_zero] at d0
  have hlF : 0 < R.length + 1 := by omega
  have d5 := HC.out.M.cel d hd
  simp only at d5
  rw [HMO.out] at d5
  have hd0 : (0 : Int) ≤ (d : Int) := by omega
  obtain ⟨_, y0, y1, y2, y3, yf0, yf1, yf2, yf3⟩ := HX.out
  go_upto_region 3 with fail
  clear d0 d5 hlF
  have hR := HR0.out
  have hRn : R = [] := List.length_eq_zero_iff.1 hR
  go_upto_region 4 with (at_builtin; refine wpList_plain rfl fun K hK => wp_append_zero _ _ 22 rfl 3 i0 Try.underlying22 hi _ _ _ (Nat.le_refl _) rfl _ _ rfl ?_; refine hK _ _ ?_)
  have fN : Fr v1 (v1.alloc (.cells #[] 3)) := by (repeat' first | (with_reducible exact Below.refl _ _) | (with_reducible assumption) | ((with_reducible refine Below.setCell ?_ ?hb _); (case hb => first | exact Nat.le_refl _ | (simp; done) | (simp; omega) | omega)) | ((with_reducible refine Below.alloc ?_ ?hb _); (case hb => first | exact Nat.le_refl _ | (simp; done) | (simp; omega) | omega)) | (with_reducible refine Below.drew ?_))
  have hlv := HX.out.lt
  have hlz := HZ.out.lt
  have hlg := HLg.out
  have hgl := HGL.out
  have hb9 : But [w.heap.size] (v1.alloc (.cells #[] 3)) ((v1.alloc (.cells #[] 3)).setCell ⟨w.heap.size, 1, none⟩ (.slice (some ⟨v1.heap.size, 0, none⟩) 0 0)) := (But.refl _ _).set _ _ _ (.inl (by simp))
  have HX9 := Lib.hid ((HX.out.fr fN).t1 (.slice (some ⟨v1.heap.size, 0, none⟩) 0 0))
  have HC9 := Lib.hid (show OwC B ((v1.alloc (.cells #[] 3)).setCell ⟨w.heap.size, 1, none⟩ (.slice (some ⟨v1.heap.size, 0, none⟩) 0 0)) ⟨M, (p : Int) :: R, V, H⟩ g1 (some ⟨gF, 0, none⟩) 1 g3 g4 from by
    have hc := HC.out.but (L := []) (But.of fN) (by simp)
    exact ⟨hc.b1, hc.b3, hc.b4, hc.M.but hb9 (by simp; omega), rc_other hc.F _ _ _ (fun g e h0 => by cases e; omega), hc.V.but hb9 (by simp; omega), hc.H.but hb9 (by simp; omega), hc.a13, hc.a14, hc.a34, hc.aF⟩)
  have HZ9 := Lib.hid ((HZ.out.fr fN).but hb9 (by simp))
  have HF9 := Lib.hid (show Below B w ((v1.alloc (.cells #[] 3)).setCell ⟨w.heap.size, 1, none⟩ (.slice (some ⟨v1.heap.size, 0, none⟩) 0 0)) from Below.trans (HF.out.trans (Below.mono fN (by have := HF.out.size; omega))) (bel_but hb9 (fun k hk => by rw [List.mem_singleton.1 hk]; exact hB) (by have := HF.out.size; have := fN.size; omega)))
  clear y0 y1 y2 y3 yf0 yf1 yf2 yf3 fN hb9 HX HC HZ HF HRF
  have hW : ((v1.alloc (.cells #[] 3)).setCell ⟨w.heap.size, 1, none⟩ (.slice (some ⟨v1.heap.size, 0, none⟩) 0 0)) = ((v1.setCell ⟨w.heap.size, 1, none⟩ (.slice (some ⟨v1.heap.size, 0, none⟩) 0 0)).alloc (.cells #[] 3)) := by
    rw [World.setCell_alloc_past (hn := hlv)]
  rw [hW] at HX9 HC9 HZ9 HF9
  clear hW
  generalize ((v1.setCell ⟨w.heap.size, 1, none⟩ (.slice (some ⟨v1.heap.size, 0, none⟩) 0 0)).alloc (.cells #[] 3)) = v2 at *
  generalize v1.heap.size = gN at *
  clear hlv hlz hgl
  have HX := HX9
  have HC := HC9
  have HZ := HZ9
  have HF := HF9
  clear HX9 HC9 HZ9 HF9
  have d1 := HC.out.M.cel d hd
  have d2 := HC.out.M.fro d hd
  obtain ⟨_, y0, y1, y2, y3, yf0, yf1, yf2, yf3⟩ := HX.out
  go_upto_region 5 with fail
  have hb9 : But [g1] v2 (v2.setCell ⟨g1, d, none⟩ (.int .i64 p)) := (But.refl _ _).set _ _ _ (.inl (by simp))
  have HC9 := Lib.hid (HC.out.putM d p HD.out)
  have HX9 := Lib.hid (HX.out.but hb9 (by have := HLg.out; simp; omega))
  have HZ9 := Lib.hid (HZ.out.but hb9 (by have := HLg.out; simp; omega))
  have HF9 := Lib.hid (show Below B w (v2.setCell ⟨g1, d, none⟩ (.int .i64 p)) from Below.trans HF.out (bel_but hb9 (fun k hk => by rw [List.mem_singleton.1 hk]; exact HC.out.b1) (by have := HF.out.size; omega)))
  clear y0 y1 y2 y3 yf0 yf1 yf2 yf3 d1 d2 hb9 HC HX HZ HF
  generalize (v2.setCell ⟨g1, d, none⟩ (.int .i64 p)) = v9 at *
  have HC := HC9
  have HX := HX9
  have HZ := HZ9
  have HF := HF9
  clear HC9 HX9 HZ9 HF9
  obtain ⟨v2, hv22⟩ : ∃ v2, v9 = v2 := ⟨_, rfl⟩
  rw [hv22] at HC HX HZ HF ⊢
  clear hv22 v9
  have d1 := HC.out.H.cel p HPH.out
  have d2 := HC.out.H.fro p HPH.out
  have hp := HPH.out
  have hp0 : (0 : Int) ≤ (p : Int) := by omega
  obtain ⟨_, y0, y1, y2, y3, yf0, yf1, yf2, yf3⟩ := HX.out
  go_upto_region 6 with fail
  have hb9 : But [g4] v2 (v2.setCell ⟨g4, p, none⟩ (.bool false)) := (But.refl _ _).set _ _ _ (.inl (by simp))
  have HC9 := Lib.hid (HC.out.putH p false HPH.out)
  have HX9 := Lib.hid (HX.out.but hb9 (by have := HLg.out; simp; omega))
  have HZ9 := Lib.hid (HZ.out.but hb9 (by have := HLg.out; simp; omega))
  have HF9 := Lib.hid (show Below B w (v2.setCell ⟨g4, p, none⟩ (.bool false)) from Below.trans HF.out (bel_but hb9 (fun k hk => by rw [List.mem_singleton.1 hk]; exact HC.out.b4) (by have := HF.out.size; omega)))
  clear y0 y1 y2 y3 yf0 yf1 yf2 yf3 d1 d2 hb9 HC HX HZ HF
  generalize (v2.setCell ⟨g4, p, none⟩ (.bool false)) = v9 at *
  have HC := HC9
  have HX := HX9
  have HZ := HZ9
  have HF := HF9
  clear HC9 HX9 HZ9 HF9
  obtain ⟨v2, hv22⟩ : ∃ v2, v9 = v2 := ⟨_, rfl⟩
  rw [hv22] at HC HX HZ HF ⊢
  clear hv22 v9
  obtain ⟨_, y0, y1, y2, y3, yf0, yf1, yf2, yf3⟩ := HX.out
  obtain ⟨_, z0, z1, z2, z3, zf0, zf1, zf2, zf3⟩ := HZ.out
  have hst : ∀ a b c d, But [w.heap.size + 1] v2 ((((v2.setCell ⟨w.heap.size + 1, 0, none⟩ a).setCell ⟨w.heap.size + 1, 1, none⟩ b).setCell ⟨w.heap.size + 1, 2, none⟩ c).setCell ⟨w.heap.size + 1, 3, none⟩ d) := fun a b c d => (But.refl _ _).set4 (w.heap.size + 1) a b c d (.inl (by simp))
  have HST := Lib.hid hst
  clear hst
  go_wp2_with fail
  refine bodyPost_ret (v := .tuple #[.agg #[.slice (some ⟨g1, 0, none⟩) M.length c1, .slice (some ⟨gN, 0, none⟩) 0 0, .slice (some ⟨g3, 0, none⟩) V.length c3, .slice (some ⟨g4, 0, none⟩) H.length c4], .int .i64 p, .int .i64 mo]) (by simp [results, Try.results67, go_sem, World.cell?_setCell_other, World.cell?_setCell_same, z0, z1, z2, z3]) rfl ?_
  first | refine ⟨some ⟨gN, 0, none⟩, 0, rfl, ⟨?_, ?_, ?_, ?_⟩, ?_⟩ | refine ⟨some ⟨gN, 0, none⟩, ⟨0, rfl⟩, ⟨?_, ?_, ?_, ?_⟩, ?_⟩
  · exact (HC.out.M.but (HST.out _ _ _ _) (by simp; omega)).src
  · intro h0; exact absurd h0 (Nat.lt_irrefl 0)
  · exact (HC.out.V.but (HST.out _ _ _ _) (by simp; omega)).src
  · exact (HC.out.H.but (HST.out _ _ _ _) (by simp; omega)).src
  · exact Below.trans HF.out (bel_but (HST.out _ _ _ _) (fun k hk => by rw [List.mem_singleton.1 hk]; omega) (by have := HF.out.size; omega))
set_option maxRecDepth 8000 in
set_option maxHeartbeats 4000000 in
theorem spec_l6Take_c (B : Nat) (M R V : List Int) (H : List Bool) (p d : Nat) (g1 gF cF g3 g4 c1 c3 c4 : Nat) (w : World) (h : OwC B w ⟨M, (p : Int) :: R, V, H⟩ g1 (some ⟨gF, 0, none⟩) cF g3 g4) (hd : d < M.length) (hp : p < H.length) (hl : R.length ≤ 100) (hR : R.length = 0) (hc1 : ¬ cF = 1) (hB : B ≤ w.heap.size) :
    Calls Try.prog 67 #[.agg #[.slice (some ⟨g1, 0, none⟩) M.length c1, .slice (some ⟨gF, 0, none⟩) (R.length + 1) cF, .slice (some ⟨g3, 0, none⟩) V.length c3, .slice (some ⟨g4, 0, none⟩) H.length c4], .int .i64 d] w fun e w' => ∃ aN cN, e = .returned (.tuple #[.agg #[.slice (some ⟨g1, 0, none⟩) M.length c1, .slice aN R.length cN, .slice (some ⟨g3, 0, none⟩) V.length c3, .slice (some ⟨g4, 0, none⟩) H.length c4], .int .i64 p, .int .i64 (M.getD d 0)]) ∧ SrcN w' ⟨M.set d p, R, V, H.set p false⟩ (some ⟨g1, 0, none⟩) aN (some ⟨g3, 0, none⟩) (some ⟨g4, 0, none⟩) ∧ Below B w w' := by
  obtain ⟨i0, hi, hz0, hz1, hz2⟩ := info_parts info_intV
  have F2 : Fr w ((w.alloc (.cells #[.slice (some ⟨g1, 0, none⟩) M.length c1, .slice (some ⟨gF, 0, none⟩) (R.length + 1) cF, .slice (some ⟨g3, 0, none⟩) V.length c3, .slice (some ⟨g4, 0, none⟩) H.length c4] 25)).alloc (.cells #[.slice none 0 0, .slice none 0 0, .slice none 0 0, .slice none 0 0] 25)) := by (repeat' first | (with_reducible exact Below.refl _ _) | (with_reducible assumption) | ((with_reducible refine Below.setCell ?_ ?hb _); (case hb => first | exact Nat.le_refl _ | (simp; done) | (simp; omega) | omega)) | ((with_reducible refine Below.alloc ?_ ?hb _); (case hb => first | exact Nat.le_refl _ | (simp; done) | (simp; omega) | omega)) | (with_reducible refine Below.drew ?_))
  have HLg := Lib.hid (show g1 < w.heap.size ∧ g3 < w.heap.size ∧ g4 < w.heap.size from ⟨h.M.lt, h.V.lt, h.H.lt⟩)
  have HX := Lib.hid (show Box4 ((w.alloc (.cells #[.slice (some ⟨g1, 0, none⟩) M.length c1, .slice (some ⟨gF, 0, none⟩) (R.length + 1) cF, .slice (some ⟨g3, 0, none⟩) V.length c3, .slice (some ⟨g4, 0, none⟩) H.length c4] 25)).alloc (.cells #[.slice none 0 0, .slice none 0 0, .slice none 0 0, .slice none 0 0] 25)) w.heap.size (.slice (some ⟨g1, 0, none⟩) M.length c1) (.slice (some ⟨gF, 0, none⟩) (R.length + 1) cF) (.slice (some ⟨g3, 0, none⟩) V.length c3) (.slice (some ⟨g4, 0, none⟩) H.length c4) from (Box4.new _ _ _ _ _ _ _ rfl).fr (Fr.alloc _ _))
  have HZ := Lib.hid (show Box4 ((w.alloc (.cells #[.slice (some ⟨g1, 0, none⟩) M.length c1, .slice (some ⟨gF, 0, none⟩) (R.length + 1) cF, .slice (some ⟨g3, 0, none⟩) V.length c3, .slice (some ⟨g4, 0, none⟩) H.length c4] 25)).alloc (.cells #[.slice none 0 0, .slice none 0 0, .slice none 0 0, .slice none 0 0] 25)) (w.heap.size + 1) (.slice none 0 0) (.slice none 0 0) (.slice none 0 0) (.slice none 0 0) from Box4.new _ _ _ _ _ _ _ (by simp))
  have HC := Lib.hid (h.but (L := []) (But.of F2) (by simp))
  have HF := Lib.hid (show Below B w ((w.alloc (.cells #[.slice (some ⟨g1, 0, none⟩) M.length c1, .slice (some ⟨gF, 0, none⟩) (R.length + 1) cF, .slice (some ⟨g3, 0, none⟩) V.length c3, .slice (some ⟨g4, 0, none⟩) H.length c4] 25)).alloc (.cells #[.slice none 0 0, .slice none 0 0, .slice none 0 0, .slice none 0 0] 25)) from Below.mono F2 hB)
  obtain ⟨hgl, hbF, rF, kF⟩ : gF < w.heap.size ∧ B ≤ gF ∧ Ro w gF ((p : Int) :: R) ∧ Ca w gF (R.length + 1) cF := by
    rcases h.F with ⟨hq, _⟩ | ⟨g9, e9, hb, r9, k9, _⟩
    · simp at hq
    · cases e9
      exact ⟨r9.lt, hb, r9, k9⟩
  have hcF : R.length + 1 ≤ cF := by obtain ⟨_, _, _, hq, _⟩ := kF; exact hq
  have nF : g1 ≠ gF ∧ g3 ≠ gF ∧ g4 ≠ gF := h.aF gF rfl (by simp)
  have HNF := Lib.hid nF
  have HGL := Lib.hid hgl
  have HBF := Lib.hid hbF
  have HRF := Lib.hid (rF.fr F2)
  have HD := Lib.hid hd
  have HPH := Lib.hid hp
  have HRL := Lib.hid hl
  have HR0 := Lib.hid hR
  obtain ⟨mo, hmo⟩ : ∃ mo, M.getD d 0 = mo := ⟨_, rfl⟩
  have HMO := Lib.hid hmo
  rw [hmo]
  clear F2 h hl hmo nF hgl hbF rF kF hR
  go_enter Try.func67, Try.ntmps67
  go_upto_region 1 with fail
  generalize ((w.alloc (.cells #[.slice (some ⟨g1, 0, none⟩) M.length c1, .slice (some ⟨gF, 0, none⟩) (R.length + 1) cF, .slice (some ⟨g3, 0, none⟩) V.length c3, .slice (some ⟨g4, 0, none⟩) H.length c4] 25)).alloc (.cells #[.slice none 0 0, .slice none 0 0, .slice none 0 0, .slice none 0 0] 25)) = v1 at *
  have d0 := HRF.out.cel 0 (by simp)
  simp only [List.getD_cons_zero] at d0
  have hlF : 0 < R.length + 1 := by omega
  have d5 := HC.out.M.cel d hd
  simp only at d5
  rw [HMO.out] at d5
  have hd0 : (0 : Int) ≤ (d : Int) := by omega
  obtain ⟨_, y0, y1, y2, y3, yf0, yf1, yf2, yf3⟩ := HX.out
  go_upto_region 3 with fail
  clear d0 d5 hlF
  have hR := HR0.out
  have hRn : R = [] := List.length_eq_zero_iff.1 hR
  go_upto_region 4 with (at_builtin; refine wpList_plain rfl fun K hK => wp_append_zero _ _ 22 rfl 3 i0 Try.underlying22 hi _ _ _ (Nat.le_refl _) rfl _ _ rfl ?_; refine hK _ _ ?_)
  have fN : Fr v1 (v1.alloc (.cells #[] 3)) := by (repeat' first | (with_reducible exact Below.refl _ _) | (with_reducible assumption) | ((with_reducible refine Below.setCell ?_ ?hb _); (case hb => first | exact Nat.le_refl _ | (simp; done) | (simp; omega) | omega)) | ((with_reducible refine Below.alloc ?_ ?hb _); (case hb => first | exact Nat.le_refl _ | (simp; done) | (simp; omega) | omega)) | (with_reducible refine Below.drew ?_))
  have hlv := HX.out.lt
  have hlz := HZ.out.lt
  have hlg := HLg.out
  have hgl := HGL.out
  have hb9 : But [w.heap.size] (v1.alloc (.cells #[] 3)) ((v1.alloc (.cells #[] 3)).setCell ⟨w.heap.size, 1, none⟩ (.slice (some ⟨v1.heap.size, 0, none⟩) 0 0)) := (But.refl _ _).set _ _ _ (.inl (by simp))
  have HX9 := Lib.hid ((HX.out.fr fN).t1 (.slice (some ⟨v1.heap.size, 0, none⟩) 0 0))
  have HC9 := Lib.hid (show OwC B ((v1.alloc (.cells #[] 3)).setCell ⟨w.heap.size, 1, none⟩ (.slice (some ⟨v1.heap.size, 0, none⟩) 0 0)) ⟨M, (p : Int) :: R, V, H⟩ g1 (some ⟨gF, 0, none⟩) cF g3 g4 from by
    have hc := HC.out.but (L := []) (But.of fN) (by simp)
    exact ⟨hc.b1, hc.b3, hc.b4, hc.M.but hb9 (by simp; omega), rc_other hc.F _ _ _ (fun g e h0 => by cases e; omega), hc.V.but hb9 (by simp; omega), hc.H.but hb9 (by simp; omega), hc.a13, hc.a14, hc.a34, hc.aF⟩)
  have HZ9 := Lib.hid ((HZ.out.fr fN).but hb9 (by simp))
  have HF9 := Lib.hid (show Below B w ((v1.alloc (.cells #[] 3)).setCell ⟨w.heap.size, 1, none⟩ (.slice (some ⟨v1.heap.size, 0, none⟩) 0 0)) from Below.trans (HF.out.trans (Below.mono fN (by have := HF.out.size; omega))) (bel_but hb9 (fun k hk => by rw [List.mem_singleton.1 hk]; exact hB) (by have := HF.out.size; have := fN.size; omega)))
  clear y0 y1 y2 y3 yf0 yf1 yf2 yf3 fN hb9 HX HC HZ HF HRF
  have hW : ((v1.alloc (.cells #[] 3)).setCell ⟨w.heap.size, 1, none⟩ (.slice (some ⟨v1.heap.size, 0, none⟩) 0 0)) = ((v1.setCell ⟨w.heap.size, 1, none⟩ (.slice (some ⟨v1.heap.size, 0, none⟩) 0 0)).alloc (.cells #[] 3)) := by
    rw [World.setCell_alloc_past (hn := hlv)]
  rw [hW] at HX9 HC9 HZ9 HF9
  clear hW
  generalize ((v1.setCell ⟨w.heap.size, 1, none⟩ (.slice (some ⟨v1.heap.size, 0, none⟩) 0 0)).alloc (.cells #[] 3)) = v2 at *
  generalize v1.heap.size = gN at *
  clear hlv hlz hgl
  have HX := HX9
  have HC := HC9
  have HZ := HZ9
  have HF := HF9
  clear HX9 HC9 HZ9 HF9
  have d1 := HC.out.M.cel d hd
  have d2 := HC.out.M.fro d hd
  obtain ⟨_, y0, y1, y2, y3, yf0, yf1, yf2, yf3⟩ := HX.out
  go_upto_region 5 with fail
  have hb9 : But [g1] v2 (v2.setCell ⟨g1, d, none⟩ (.int .i64 p)) := (But.refl _ _).set _ _ _ (.inl (by simp))
  have HC9 := Lib.hid (HC.out.putM d p HD.out)
  have HX9 := Lib.hid (HX.out.but hb9 (by have := HLg.out; simp; omega))
  have HZ9 := Lib.hid (HZ.out.but hb9 (by have := HLg.out; simp; omega))
  have HF9 := Lib.hid (show Below B w (v2.setCell ⟨g1, d, none⟩ (.int .i64 p)) from Below.trans HF.out (bel_but hb9 (fun k hk => by rw [List.mem_singleton.1 hk]; exact HC.out.b1) (by have := HF.out.size; omega)))
  clear y0 y1 y2 y3 yf0 yf1 yf2 yf3 d1 d2 hb9 HC HX HZ HF
  generalize (v2.setCell ⟨g1, d, none⟩ (.int .i64 p)) = v9 at *
  have HC := HC9
  have HX := HX9
  have HZ := HZ9
  have HF := HF9
  clear HC9 HX9 HZ9 HF9
  obtain ⟨v2, hv22⟩ : ∃ v2, v9 = v2 := ⟨_, rfl⟩
  rw [hv22] at HC HX HZ HF ⊢
  clear hv22 v9
  have d1 := HC.out.H.cel p HPH.out
  have d2 := HC.out.H.fro p HPH.out
  have hp := HPH.out
  have hp0 : (0 : Int) ≤ (p : Int) := by omega
  obtain ⟨_, y0, y1, y2, y3, yf0, yf1, yf2, yf3⟩ := HX.out
  go_upto_region 6 with fail
  have hb9 : But [g4] v2 (v2.setCell ⟨g4, p, none⟩ (.bool false)) := (But.refl _ _).set _ _ _ (.inl (by simp))
  have HC9 := Lib.hid (HC.out.putH p false HPH.out)
  have HX9 := Lib.hid (HX.out.but hb9 (by have := HLg.out; simp; omega))
  have HZ9 := Lib.hid (HZ.out.but hb9 (by have := HLg.out; simp; omega))
  have HF9 := Lib.hid (show Below B w (v2.setCell ⟨g4, p, none⟩ (.bool false)) from Below.trans HF.out (bel_but hb9 (fun k hk => by rw [List.mem_singleton.1 hk]; exact HC.out.b4) (by have := HF.out.size; omega)))
  clear y0 y1 y2 y3 yf0 yf1 yf2 yf3 d1 d2 hb9 HC HX HZ HF
  generalize (v2.setCell ⟨g4, p, none⟩ (.bool false)) = v9 at *
  have HC := HC9
  have HX := HX9
  have HZ := HZ9
  have HF := HF9
  clear HC9 HX9 HZ9 HF9
  obtain ⟨v2, hv22⟩ : ∃ v2, v9 = v2 := ⟨_, rfl⟩
  rw [hv22] at HC HX HZ HF ⊢
  clear hv22 v9
  obtain ⟨_, y0, y1, y2, y3, yf0, yf1, yf2, yf3⟩ := HX.out
  obtain ⟨_, z0, z1, z2, z3, zf0, zf1, zf2, zf3⟩ := HZ.out
  have hst : ∀ a b c d, But [w.heap.size + 1] v2 ((((v2.setCell ⟨w.heap.size + 1, 0, none⟩ a).setCell ⟨w.heap.size + 1, 1, none⟩ b).setCell ⟨w.heap.size + 1, 2, none⟩ c).setCell ⟨w.heap.size + 1, 3, none⟩ d) := fun a b c d => (But.refl _ _).set4 (w.heap.size + 1) a b c d (.inl (by simp))
  have HST := Lib.hid hst
  clear hst
  go_wp2_with fail
  refine bodyPost_ret (v := .tuple #[.agg #[.slice (some ⟨g1, 0, none⟩) M.length c1, .slice (some ⟨gN, 0, none⟩) 0 0, .slice (some ⟨g3, 0, none⟩) V.length c3, .slice (some ⟨g4, 0, none⟩) H.length c4], .int .i64 p, .int .i64 mo]) (by simp [results, Try.results67, go_sem, World.cell?_setCell_other, World.cell?_setCell_same, z0, z1, z2, z3]) rfl ?_
  first | refine ⟨some ⟨gN, 0, none⟩, 0, rfl, ⟨?_, ?_, ?_, ?_⟩, ?_⟩ | refine ⟨some ⟨gN, 0, none⟩, ⟨0, rfl⟩, ⟨?_, ?_, ?_, ?_⟩, ?_⟩
  · exact (HC.out.M.but (HST.out _ _ _ _) (by simp; omega)).src
  · intro h0; exact absurd h0 (Nat.lt_irrefl 0)
  · exact (HC.out.V.but (HST.out _ _ _ _) (by simp; omega)).src
  · exact (HC.out.H.but (HST.out _ _ _ _) (by simp; omega)).src
  · exact Below.trans HF.out (bel_but (HST.out _ _ _ _) (fun k hk => by rw [List.mem_singleton.1 hk]; omega) (by have := HF.out.size; omega))

theorem CpN.nmp {x : Nm} {w : World} {e : Ending} {w' : World} (h : CpN x w e w') : NmP x w e w' := by
  obtain ⟨g1, aF, g3, g4, c1, cF, c3, c4, he, ow, f⟩ := h
  exact ⟨_, _, _, _, c1, cF, c3, c4, he, ow.vc, f⟩
/-- Behind NamTake: places, two numbers, and whether. -/
def TkP (x : Nm) (a b : Int) (ok : Bool) (w : World) (e : Ending) (w' : World) : Prop := ∃ aM aF aV aH cM cF cV cH, e = .returned (.tuple #[.agg #[.slice aM x.M.length cM, .slice aF x.F.length cF, .slice aV x.V.length cV, .slice aH x.H.length cH], .int .i64 a, .int .i64 b, .bool ok]) ∧ VcNm w.heap.size w' x aM aF aV aH ∧ Fr w w'
set_option maxRecDepth 8000 in
set_option maxHeartbeats 4000000 in
theorem spec_NamBack_1 (x : Nm) (aM aF aV aH : Option Addr) (cM cF cV cH : Nat) (d now old : Int) (w : World) (h : SrcN w x aM aF aV aH) (hf : Few6 x) (h1 : okN x = false) :
    Calls Try.prog 33 #[.agg #[.slice aM x.M.length cM, .slice aF x.F.length cF, .slice aV x.V.length cV, .slice aH x.H.length cH], .int .i64 d, .int .i64 now, .int .i64 old] w (NmP nm0 w) := by
  have F2 : Fr w ((w.alloc (.cells #[.slice aM x.M.length cM, .slice aF x.F.length cF, .slice aV x.V.length cV, .slice aH x.H.length cH] 25)).alloc (.cells #[.slice none 0 0, .slice none 0 0, .slice none 0 0, .slice none 0 0] 25)) := by (repeat' first | (with_reducible exact Below.refl _ _) | (with_reducible assumption) | ((with_reducible refine Below.setCell ?_ ?hb _); (case hb => first | exact Nat.le_refl _ | (simp; done) | (simp; omega) | omega)) | ((with_reducible refine Below.alloc ?_ ?hb _); (case hb => first | exact Nat.le_refl _ | (simp; done) | (simp; omega) | omega)) | (with_reducible refine Below.drew ?_))
  have HF := Lib.hid F2
  have HB := Lib.hid (show Box4 ((w.alloc (.cells #[.slice aM x.M.length cM, .slice aF x.F.length cF, .slice aV x.V.length cV, .slice aH x.H.length cH] 25)).alloc (.cells #[.slice none 0 0, .slice none 0 0, .slice none 0 0, .slice none 0 0] 25)) w.heap.size (.slice aM x.M.length cM) (.slice aF x.F.length cF) (.slice aV x.V.length cV) (.slice aH x.H.length cH) from (Box4.new _ _ _ _ _ _ _ rfl).fr (Fr.alloc _ _))
  have HZ := Lib.hid (show Box4 ((w.alloc (.cells #[.slice aM x.M.length cM, .slice aF x.F.length cF, .slice aV x.V.length cV, .slice aH x.H.length cH] 25)).alloc (.cells #[.slice none 0 0, .slice none 0 0, .slice none 0 0, .slice none 0 0] 25)) (w.heap.size + 1) (.slice none 0 0) (.slice none 0 0) (.slice none 0 0) (.slice none 0 0) from Box4.new _ _ _ _ _ _ _ (by simp))
  have HS := Lib.hid h
  have HW := Lib.hid hf
  have HO := Lib.hid h1
  clear h1
  clear F2 h hf
  go_enter Try.func33, Try.ntmps33
  go_upto_region 1 with fail
  generalize ((w.alloc (.cells #[.slice aM x.M.length cM, .slice aF x.F.length cF, .slice aV x.V.length cV, .slice aH x.H.length cH] 25)).alloc (.cells #[.slice none 0 0, .slice none 0 0, .slice none 0 0, .slice none 0 0] 25)) = u at *
  obtain ⟨_, c0, c1, c2, c3, _, _, _, _⟩ := HB.out
  go_wp2_with fail
  refine (spec_NamOk x _ _ _ _ _ _ _ _ _ (HS.out.fr HF.out) HW.out).mono ?_
  rintro e u1 ⟨rfl, f⟩
  clear c0 c1 c2 c3
  replace HF := Lib.hid (HF.out.trans f)
  replace HB := Lib.hid (HB.out.fr f)
  replace HZ := Lib.hid (HZ.out.fr f)
  clear f
  rw [HO.out]
  obtain ⟨_, z0, z1, z2, z3, zf0, zf1, zf2, zf3⟩ := HZ.out
  go_wp2_with fail
  refine bodyPost_ret (v := .agg #[.slice none 0 0, .slice none 0 0, .slice none 0 0, .slice none 0 0]) (by simp [results, Try.results33, go_sem, World.cell?_setCell_other, World.cell?_setCell_same, z0, z1, z2, z3]) rfl ⟨none, none, none, none, 0, 0, 0, 0, rfl, VcNm.nil _ _ _ _ _ _, ?_⟩
  exact fr_but HF.out ((But.refl _ _).set4 (w.heap.size + 1) _ _ _ _ (.inl (by simp)) : But [w.heap.size + 1] _ _) (fun k hk => by have := List.mem_singleton.1 hk; omega)
set_option maxRecDepth 8000 in
set_option maxHeartbeats 4000000 in
theorem spec_NamBack_2 (x : Nm) (aM aF aV aH : Option Addr) (cM cF cV cH : Nat) (d now old : Int) (w : World) (h : SrcN w x aM aF aV aH) (hf : Few6 x) (h1 : okN x = true) (h2 : decide (1 ≤ d ∧ d ≤ 7) = false) :
    Calls Try.prog 33 #[.agg #[.slice aM x.M.length cM, .slice aF x.F.length cF, .slice aV x.V.length cV, .slice aH x.H.length cH], .int .i64 d, .int .i64 now, .int .i64 old] w (NmP nm0 w) := by
  have F2 : Fr w ((w.alloc (.cells #[.slice aM x.M.length cM, .slice aF x.F.length cF, .slice aV x.V.length cV, .slice aH x.H.length cH] 25)).alloc (.cells #[.slice none 0 0, .slice none 0 0, .slice none 0 0, .slice none 0 0] 25)) := by (repeat' first | (with_reducible exact Below.refl _ _) | (with_reducible assumption) | ((with_reducible refine Below.setCell ?_ ?hb _); (case hb => first | exact Nat.le_refl _ | (simp; done) | (simp; omega) | omega)) | ((with_reducible refine Below.alloc ?_ ?hb _); (case hb => first | exact Nat.le_refl _ | (simp; done) | (simp; omega) | omega)) | (with_reducible refine Below.drew ?_))
  have HF := Lib.hid F2
  have HB := Lib.hid (show Box4 ((w.alloc (.cells #[.slice aM x.M.length cM, .slice aF x.F.length cF, .slice aV x.V.length cV, .slice aH x.H.length cH] 25)).alloc (.cells #[.slice none 0 0, .slice none 0 0, .slice none 0 0, .slice none 0 0] 25)) w.heap.size (.slice aM x.M.length cM) (.slice aF x.F.length cF) (.slice aV x.V.length cV) (.slice aH x.H.length cH) from (Box4.new _ _ _ _ _ _ _ rfl).fr (Fr.alloc _ _))
  have HZ := Lib.hid (show Box4 ((w.alloc (.cells #[.slice aM x.M.length cM, .slice aF x.F.length cF, .slice aV x.V.length cV, .slice aH x.H.length cH] 25)).alloc (.cells #[.slice none 0 0, .slice none 0 0, .slice none 0 0, .slice none 0 0] 25)) (w.heap.size + 1) (.slice none 0 0) (.slice none 0 0) (.slice none 0 0) (.slice none 0 0) from Box4.new _ _ _ _ _ _ _ (by simp))
  have HS := Lib.hid h
  have HW := Lib.hid hf
  have HO := Lib.hid h1
  have H2 := Lib.hid h2
  clear h2
  clear h1
  clear F2 h hf
  go_enter Try.func33, Try.ntmps33
  go_upto_region 1 with fail
  generalize ((w.alloc (.cells #[.slice aM x.M.length cM, .slice aF x.F.length cF, .slice aV x.V.length cV, .slice aH x.H.length cH] 25)).alloc (.cells #[.slice none 0 0, .slice none 0 0, .slice none 0 0, .slice none 0 0] 25)) = u at *
  obtain ⟨_, c0, c1, c2, c3, _, _, _, _⟩ := HB.out
  go_wp2_with fail
  refine (spec_NamOk x _ _ _ _ _ _ _ _ _ (HS.out.fr HF.out) HW.out).mono ?_
  rintro e u1 ⟨rfl, f⟩
  clear c0 c1 c2 c3
  replace HF := Lib.hid (HF.out.trans f)
  replace HB := Lib.hid (HB.out.fr f)
  replace HZ := Lib.hid (HZ.out.fr f)
  clear f
  rw [HO.out]
  go_wp2_with fail
  refine (spec_l1In d 1 7 _).mono ?_
  rintro e w' ⟨rfl, rfl⟩
  rw [H2.out]
  obtain ⟨_, z0, z1, z2, z3, zf0, zf1, zf2, zf3⟩ := HZ.out
  go_wp2_with fail
  refine bodyPost_ret (v := .agg #[.slice none 0 0, .slice none 0 0, .slice none 0 0, .slice none 0 0]) (by simp [results, Try.results33, go_sem, World.cell?_setCell_other, World.cell?_setCell_same, z0, z1, z2, z3]) rfl ⟨none, none, none, none, 0, 0, 0, 0, rfl, VcNm.nil _ _ _ _ _ _, ?_⟩
  exact fr_but HF.out ((But.refl _ _).set4 (w.heap.size + 1) _ _ _ _ (.inl (by simp)) : But [w.heap.size + 1] _ _) (fun k hk => by have := List.mem_singleton.1 hk; omega)
set_option maxRecDepth 8000 in
set_option maxHeartbeats 4000000 in
theorem spec_NamBack_3 (x : Nm) (aM aF aV aH : Option Addr) (cM cF cV cH : Nat) (d now old : Int) (w : World) (h : SrcN w x aM aF aV aH) (hf : Few6 x) (h1 : okN x = true) (h2 : decide (1 ≤ d ∧ d ≤ 7) = true) (h3 : phyB old = false) :
    Calls Try.prog 33 #[.agg #[.slice aM x.M.length cM, .slice aF x.F.length cF, .slice aV x.V.length cV, .slice aH x.H.length cH], .int .i64 d, .int .i64 now, .int .i64 old] w (NmP nm0 w) := by
  have F2 : Fr w ((w.alloc (.cells #[.slice aM x.M.length cM, .slice aF x.F.length cF, .slice aV x.V.length cV, .slice aH x.H.length cH] 25)).alloc (.cells #[.slice none 0 0, .slice none 0 0, .slice none 0 0, .slice none 0 0] 25)) := by (repeat' first | (with_reducible exact Below.refl _ _) | (with_reducible assumption) | ((with_reducible refine Below.setCell ?_ ?hb _); (case hb => first | exact Nat.le_refl _ | (simp; done) | (simp; omega) | omega)) | ((with_reducible refine Below.alloc ?_ ?hb _); (case hb => first | exact Nat.le_refl _ | (simp; done) | (simp; omega) | omega)) | (with_reducible refine Below.drew ?_))
  have HF := Lib.hid F2
  have HB := Lib.hid (show Box4 ((w.alloc (.cells #[.slice aM x.M.length cM, .slice aF x.F.length cF, .slice aV x.V.length cV, .slice aH x.H.length cH] 25)).alloc (.cells #[.slice none 0 0, .slice none 0 0, .slice none 0 0, .slice none 0 0] 25)) w.heap.size (.slice aM x.M.length cM) (.slice aF x.F.length cF) (.slice aV x.V.length cV) (.slice aH x.H.length cH) from (Box4.new _ _ _ _ _ _ _ rfl).fr (Fr.alloc _ _))
  have HZ := Lib.hid (show Box4 ((w.alloc (.cells #[.slice aM x.M.length cM, .slice aF x.F.length cF, .slice aV x.V.length cV, .slice aH x.H.length cH] 25)).alloc (.cells #[.slice none 0 0, .slice none 0 0, .slice none 0 0, .slice none 0 0] 25)) (w.heap.size + 1) (.slice none 0 0) (.slice none 0 0) (.slice none 0 0) (.slice none 0 0) from Box4.new _ _ _ _ _ _ _ (by simp))
  have HS := Lib.hid h
  have HW := Lib.hid hf
  have HO := Lib.hid h1
  have H2 := Lib.hid h2
  clear h2
  have H3 := Lib.hid h3
  clear h3
  clear h1
  clear F2 h hf
  go_enter Try.func33, Try.ntmps33
  go_upto_region 1 with fail
  generalize ((w.alloc (.cells #[.slice aM x.M.length cM, .slice aF x.F.length cF, .slice aV x.V.length cV, .slice aH x.H.length cH] 25)).alloc (.cells #[.slice none 0 0, .slice none 0 0, .slice none 0 0, .slice none 0 0] 25)) = u at *
  obtain ⟨_, c0, c1, c2, c3, _, _, _, _⟩ := HB.out
  go_wp2_with fail
  refine (spec_NamOk x _ _ _ _ _ _ _ _ _ (HS.out.fr HF.out) HW.out).mono ?_
  rintro e u1 ⟨rfl, f⟩
  clear c0 c1 c2 c3
  replace HF := Lib.hid (HF.out.trans f)
  replace HB := Lib.hid (HB.out.fr f)
  replace HZ := Lib.hid (HZ.out.fr f)
  clear f
  rw [HO.out]
  go_wp2_with fail
  refine (spec_l1In d 1 7 _).mono ?_
  rintro e w' ⟨rfl, rfl⟩
  rw [H2.out]
  go_wp2_with fail
  refine (spec_l6Phy old _).mono ?_
  rintro e w' ⟨rfl, rfl⟩
  rw [H3.out]
  obtain ⟨_, z0, z1, z2, z3, zf0, zf1, zf2, zf3⟩ := HZ.out
  go_wp2_with fail
  refine bodyPost_ret (v := .agg #[.slice none 0 0, .slice none 0 0, .slice none 0 0, .slice none 0 0]) (by simp [results, Try.results33, go_sem, World.cell?_setCell_other, World.cell?_setCell_same, z0, z1, z2, z3]) rfl ⟨none, none, none, none, 0, 0, 0, 0, rfl, VcNm.nil _ _ _ _ _ _, ?_⟩
  exact fr_but HF.out ((But.refl _ _).set4 (w.heap.size + 1) _ _ _ _ (.inl (by simp)) : But [w.heap.size + 1] _ _) (fun k hk => by have := List.mem_singleton.1 hk; omega)
set_option maxRecDepth 8000 in
set_option maxHeartbeats 4000000 in
theorem spec_NamBack_4 (x : Nm) (aM aF aV aH : Option Addr) (cM cF cV cH : Nat) (d now old : Int) (w : World) (h : SrcN w x aM aF aV aH) (hf : Few6 x) (h1 : okN x = true) (h2 : decide (1 ≤ d ∧ d ≤ 7) = true) (h3 : phyB old = true) (h4 : (x.M.getD d.toNat 0 != now) = true) :
    Calls Try.prog 33 #[.agg #[.slice aM x.M.length cM, .slice aF x.F.length cF, .slice aV x.V.length cV, .slice aH x.H.length cH], .int .i64 d, .int .i64 now, .int .i64 old] w (NmP nm0 w) := by
  have F2 : Fr w ((w.alloc (.cells #[.slice aM x.M.length cM, .slice aF x.F.length cF, .slice aV x.V.length cV, .slice aH x.H.length cH] 25)).alloc (.cells #[.slice none 0 0, .slice none 0 0, .slice none 0 0, .slice none 0 0] 25)) := by (repeat' first | (with_reducible exact Below.refl _ _) | (with_reducible assumption) | ((with_reducible refine Below.setCell ?_ ?hb _); (case hb => first | exact Nat.le_refl _ | (simp; done) | (simp; omega) | omega)) | ((with_reducible refine Below.alloc ?_ ?hb _); (case hb => first | exact Nat.le_refl _ | (simp; done) | (simp; omega) | omega)) | (with_reducible refine Below.drew ?_))
  have HF := Lib.hid F2
  have HB := Lib.hid (show Box4 ((w.alloc (.cells #[.slice aM x.M.length cM, .slice aF x.F.length cF, .slice aV x.V.length cV, .slice aH x.H.length cH] 25)).alloc (.cells #[.slice none 0 0, .slice none 0 0, .slice none 0 0, .slice none 0 0] 25)) w.heap.size (.slice aM x.M.length cM) (.slice aF x.F.length cF) (.slice aV x.V.length cV) (.slice aH x.H.length cH) from (Box4.new _ _ _ _ _ _ _ rfl).fr (Fr.alloc _ _))
  have HZ := Lib.hid (show Box4 ((w.alloc (.cells #[.slice aM x.M.length cM, .slice aF x.F.length cF, .slice aV x.V.length cV, .slice aH x.H.length cH] 25)).alloc (.cells #[.slice none 0 0, .slice none 0 0, .slice none 0 0, .slice none 0 0] 25)) (w.heap.size + 1) (.slice none 0 0) (.slice none 0 0) (.slice none 0 0) (.slice none 0 0) from Box4.new _ _ _ _ _ _ _ (by simp))
  have HS := Lib.hid h
  have HW := Lib.hid hf
  have HO := Lib.hid h1
  have HK := Lib.hid (okN_ok h1)
  have HDb := Lib.hid (of_decide_eq_true h2)
  have H2 := Lib.hid h2
  clear h2
  have H3 := Lib.hid h3
  clear h3
  have H4 := Lib.hid h4
  clear h4
  clear h1
  clear F2 h hf
  go_enter Try.func33, Try.ntmps33
  go_upto_region 1 with fail
  generalize ((w.alloc (.cells #[.slice aM x.M.length cM, .slice aF x.F.length cF, .slice aV x.V.length cV, .slice aH x.H.length cH] 25)).alloc (.cells #[.slice none 0 0, .slice none 0 0, .slice none 0 0, .slice none 0 0] 25)) = u at *
  obtain ⟨_, c0, c1, c2, c3, _, _, _, _⟩ := HB.out
  go_wp2_with fail
  refine (spec_NamOk x _ _ _ _ _ _ _ _ _ (HS.out.fr HF.out) HW.out).mono ?_
  rintro e u1 ⟨rfl, f⟩
  clear c0 c1 c2 c3
  replace HF := Lib.hid (HF.out.trans f)
  replace HB := Lib.hid (HB.out.fr f)
  replace HZ := Lib.hid (HZ.out.fr f)
  clear f
  rw [HO.out]
  go_wp2_with fail
  refine (spec_l1In d 1 7 _).mono ?_
  rintro e w' ⟨rfl, rfl⟩
  rw [H2.out]
  go_wp2_with fail
  refine (spec_l6Phy old _).mono ?_
  rintro e w' ⟨rfl, rfl⟩
  rw [H3.out]
  obtain ⟨q, rfl⟩ : ∃ q : Nat, d = q := ⟨d.toNat, by have := HDb.out; omega⟩
  have hq : q < 8 := by have := HDb.out; omega
  obtain ⟨gM, oM, hao, hgl, hcM⟩ := (HS.out.fr HF.out).M (by rw [HK.out.Ml]; omega)
  have d0 := hcM q (by rw [HK.out.Ml]; exact hq)
  simp only [ivl] at d0
  rw [Int.toNat_natCast] at H4
  have h4 := H4.out
  have hlq : q < x.M.length := by rw [HK.out.Ml]; exact hq
  have hq0 : (0 : Int) ≤ (q : Int) := by omega
  clear hcM
  obtain ⟨mo, hmo⟩ : ∃ mo, x.M.getD q 0 = mo := ⟨_, rfl⟩
  rw [hmo] at d0 h4
  clear hmo
  obtain ⟨_, c0, c1, c2, c3, _, _, _, _⟩ := HB.out
  rw [hao] at c0
  obtain ⟨_, z0, z1, z2, z3, zf0, zf1, zf2, zf3⟩ := HZ.out
  go_wp2_with fail
  refine bodyPost_ret (v := .agg #[.slice none 0 0, .slice none 0 0, .slice none 0 0, .slice none 0 0]) (by simp [results, Try.results33, go_sem, World.cell?_setCell_other, World.cell?_setCell_same, z0, z1, z2, z3]) rfl ⟨none, none, none, none, 0, 0, 0, 0, rfl, VcNm.nil _ _ _ _ _ _, ?_⟩
  exact fr_but HF.out ((But.refl _ _).set4 (w.heap.size + 1) _ _ _ _ (.inl (by simp)) : But [w.heap.size + 1] _ _) (fun k hk => by have := List.mem_singleton.1 hk; omega)
set_option maxRecDepth 8000 in
set_option maxHeartbeats 4000000 in
theorem spec_NamBack_5 (x : Nm) (aM aF aV aH : Option Addr) (cM cF cV cH : Nat) (d now old : Int) (w : World) (h : SrcN w x aM aF aV aH) (hf : Few6 x) (h1 : okN x = true) (h2 : decide (1 ≤ d ∧ d ≤ 7) = true) (h3 : phyB old = true) (h4 : (x.M.getD d.toNat 0 != now) = false) (h5 : hasB x.M old = true) :
    Calls Try.prog 33 #[.agg #[.slice aM x.M.length cM, .slice aF x.F.length cF, .slice aV x.V.length cV, .slice aH x.H.length cH], .int .i64 d, .int .i64 now, .int .i64 old] w (NmP nm0 w) := by
  have F2 : Fr w ((w.alloc (.cells #[.slice aM x.M.length cM, .slice aF x.F.length cF, .slice aV x.V.length cV, .slice aH x.H.length cH] 25)).alloc (.cells #[.slice none 0 0, .slice none 0 0, .slice none 0 0, .slice none 0 0] 25)) := by (repeat' first | (with_reducible exact Below.refl _ _) | (with_reducible assumption) | ((with_reducible refine Below.setCell ?_ ?hb _); (case hb => first | exact Nat.le_refl _ | (simp; done) | (simp; omega) | omega)) | ((with_reducible refine Below.alloc ?_ ?hb _); (case hb => first | exact Nat.le_refl _ | (simp; done) | (simp; omega) | omega)) | (with_reducible refine Below.drew ?_))
  have HF := Lib.hid F2
  have HB := Lib.hid (show Box4 ((w.alloc (.cells #[.slice aM x.M.length cM, .slice aF x.F.length cF, .slice aV x.V.length cV, .slice aH x.H.length cH] 25)).alloc (.cells #[.slice none 0 0, .slice none 0 0, .slice none 0 0, .slice none 0 0] 25)) w.heap.size (.slice aM x.M.length cM) (.slice aF x.F.length cF) (.slice aV x.V.length cV) (.slice aH x.H.length cH) from (Box4.new _ _ _ _ _ _ _ rfl).fr (Fr.alloc _ _))
  have HZ := Lib.hid (show Box4 ((w.alloc (.cells #[.slice aM x.M.length cM, .slice aF x.F.length cF, .slice aV x.V.length cV, .slice aH x.H.length cH] 25)).alloc (.cells #[.slice none 0 0, .slice none 0 0, .slice none 0 0, .slice none 0 0] 25)) (w.heap.size + 1) (.slice none 0 0) (.slice none 0 0) (.slice none 0 0) (.slice none 0 0) from Box4.new _ _ _ _ _ _ _ (by simp))
  have HS := Lib.hid h
  have HW := Lib.hid hf
  have HO := Lib.hid h1
  have HK := Lib.hid (okN_ok h1)
  have HDb := Lib.hid (of_decide_eq_true h2)
  have H2 := Lib.hid h2
  clear h2
  have H3 := Lib.hid h3
  clear h3
  have H4 := Lib.hid h4
  clear h4
  have H5 := Lib.hid h5
  clear h5
  clear h1
  clear F2 h hf
  go_enter Try.func33, Try.ntmps33
  go_upto_region 1 with fail
  generalize ((w.alloc (.cells #[.slice aM x.M.length cM, .slice aF x.F.length cF, .slice aV x.V.length cV, .slice aH x.H.length cH] 25)).alloc (.cells #[.slice none 0 0, .slice none 0 0, .slice none 0 0, .slice none 0 0] 25)) = u at *
  obtain ⟨_, c0, c1, c2, c3, _, _, _, _⟩ := HB.out
  go_wp2_with fail
  refine (spec_NamOk x _ _ _ _ _ _ _ _ _ (HS.out.fr HF.out) HW.out).mono ?_
  rintro e u1 ⟨rfl, f⟩
  clear c0 c1 c2 c3
  replace HF := Lib.hid (HF.out.trans f)
  replace HB := Lib.hid (HB.out.fr f)
  replace HZ := Lib.hid (HZ.out.fr f)
  clear f
  rw [HO.out]
  go_wp2_with fail
  refine (spec_l1In d 1 7 _).mono ?_
  rintro e w' ⟨rfl, rfl⟩
  rw [H2.out]
  go_wp2_with fail
  refine (spec_l6Phy old _).mono ?_
  rintro e w' ⟨rfl, rfl⟩
  rw [H3.out]
  obtain ⟨q, rfl⟩ : ∃ q : Nat, d = q := ⟨d.toNat, by have := HDb.out; omega⟩
  have hq : q < 8 := by have := HDb.out; omega
  obtain ⟨gM, oM, hao, hgl, hcM⟩ := (HS.out.fr HF.out).M (by rw [HK.out.Ml]; omega)
  have d0 := hcM q (by rw [HK.out.Ml]; exact hq)
  simp only [ivl] at d0
  rw [Int.toNat_natCast] at H4
  have h4 := H4.out
  have hlq : q < x.M.length := by rw [HK.out.Ml]; exact hq
  have hq0 : (0 : Int) ≤ (q : Int) := by omega
  clear hcM
  obtain ⟨mo, hmo⟩ : ∃ mo, x.M.getD q 0 = mo := ⟨_, rfl⟩
  rw [hmo] at d0 h4
  clear hmo
  obtain ⟨_, c0, c1, c2, c3, _, _, _, _⟩ := HB.out
  rw [hao] at c0
  go_wp2_with fail
  rw [← hao]
  refine (spec_l6Has x.M _ _ old _ (HS.out.fr HF.out).M (by have := HW.out.M; omega)).mono ?_
  rintro e w' ⟨rfl, rfl⟩
  rw [← hao] at c0
  clear d0 h4 hlq hao hgl
  rw [H5.out]
  obtain ⟨_, z0, z1, z2, z3, zf0, zf1, zf2, zf3⟩ := HZ.out
  go_wp2_with fail
  refine bodyPost_ret (v := .agg #[.slice none 0 0, .slice none 0 0, .slice none 0 0, .slice none 0 0]) (by simp [results, Try.results33, go_sem, World.cell?_setCell_other, World.cell?_setCell_same, z0, z1, z2, z3]) rfl ⟨none, none, none, none, 0, 0, 0, 0, rfl, VcNm.nil _ _ _ _ _ _, ?_⟩
  exact fr_but HF.out ((But.refl _ _).set4 (w.heap.size + 1) _ _ _ _ (.inl (by simp)) : But [w.heap.size + 1] _ _) (fun k hk => by have := List.mem_singleton.1 hk; omega)
set_option maxRecDepth 8000 in
set_option maxHeartbeats 4000000 in
theorem spec_NamBack_6 (x : Nm) (aM aF aV aH : Option Addr) (cM cF cV cH : Nat) (d now old : Int) (w : World) (h : SrcN w x aM aF aV aH) (hf : Few6 x) (h1 : okN x = true) (h2 : decide (1 ≤ d ∧ d ≤ 7) = true) (h3 : phyB old = true) (h4 : (x.M.getD d.toNat 0 != now) = false) (h5 : hasB x.M old = false) (h6 : hasB x.F old = true) :
    Calls Try.prog 33 #[.agg #[.slice aM x.M.length cM, .slice aF x.F.length cF, .slice aV x.V.length cV, .slice aH x.H.length cH], .int .i64 d, .int .i64 now, .int .i64 old] w (NmP nm0 w) := by
  have F2 : Fr w ((w.alloc (.cells #[.slice aM x.M.length cM, .slice aF x.F.length cF, .slice aV x.V.length cV, .slice aH x.H.length cH] 25)).alloc (.cells #[.slice none 0 0, .slice none 0 0, .slice none 0 0, .slice none 0 0] 25)) := by (repeat' first | (with_reducible exact Below.refl _ _) | (with_reducible assumption) | ((with_reducible refine Below.setCell ?_ ?hb _); (case hb => first | exact Nat.le_refl _ | (simp; done) | (simp; omega) | omega)) | ((with_reducible refine Below.alloc ?_ ?hb _); (case hb => first | exact Nat.le_refl _ | (simp; done) | (simp; omega) | omega)) | (with_reducible refine Below.drew ?_))
  have HF := Lib.hid F2
  have HB := Lib.hid (show Box4 ((w.alloc (.cells #[.slice aM x.M.length cM, .slice aF x.F.length cF, .slice aV x.V.length cV, .slice aH x.H.length cH] 25)).alloc (.cells #[.slice none 0 0, .slice none 0 0, .slice none 0 0, .slice none 0 0] 25)) w.heap.size (.slice aM x.M.length cM) (.slice aF x.F.length cF) (.slice aV x.V.length cV) (.slice aH x.H.length cH) from (Box4.new _ _ _ _ _ _ _ rfl).fr (Fr.alloc _ _))
  have HZ := Lib.hid (show Box4 ((w.alloc (.cells #[.slice aM x.M.length cM, .slice aF x.F.length cF, .slice aV x.V.length cV, .slice aH x.H.length cH] 25)).alloc (.cells #[.slice none 0 0, .slice none 0 0, .slice none 0 0, .slice none 0 0] 25)) (w.heap.size + 1) (.slice none 0 0) (.slice none 0 0) (.slice none 0 0) (.slice none 0 0) from Box4.new _ _ _ _ _ _ _ (by simp))
  have HS := Lib.hid h
  have HW := Lib.hid hf
  have HO := Lib.hid h1
  have HK := Lib.hid (okN_ok h1)
  have HDb := Lib.hid (of_decide_eq_true h2)
  have H2 := Lib.hid h2
  clear h2
  have H3 := Lib.hid h3
  clear h3
  have H4 := Lib.hid h4
  clear h4
  have H5 := Lib.hid h5
  clear h5
  have H6 := Lib.hid h6
  clear h6
  clear h1
  clear F2 h hf
  go_enter Try.func33, Try.ntmps33
  go_upto_region 1 with fail
  generalize ((w.alloc (.cells #[.slice aM x.M.length cM, .slice aF x.F.length cF, .slice aV x.V.length cV, .slice aH x.H.length cH] 25)).alloc (.cells #[.slice none 0 0, .slice none 0 0, .slice none 0 0, .slice none 0 0] 25)) = u at *
  obtain ⟨_, c0, c1, c2, c3, _, _, _, _⟩ := HB.out
  go_wp2_with fail
  refine (spec_NamOk x _ _ _ _ _ _ _ _ _ (HS.out.fr HF.out) HW.out).mono ?_
  rintro e u1 ⟨rfl, f⟩
  clear c0 c1 c2 c3
  replace HF := Lib.hid (HF.out.trans f)
  replace HB := Lib.hid (HB.out.fr f)
  replace HZ := Lib.hid (HZ.out.fr f)
  clear f
  rw [HO.out]
  go_wp2_with fail
  refine (spec_l1In d 1 7 _).mono ?_
  rintro e w' ⟨rfl, rfl⟩
  rw [H2.out]
  go_wp2_with fail
  refine (spec_l6Phy old _).mono ?_
  rintro e w' ⟨rfl, rfl⟩
  rw [H3.out]
  obtain ⟨q, rfl⟩ : ∃ q : Nat, d = q := ⟨d.toNat, by have := HDb.out; omega⟩
  have hq : q < 8 := by have := HDb.out; omega
  obtain ⟨gM, oM, hao, hgl, hcM⟩ := (HS.out.fr HF.out).M (by rw [HK.out.Ml]; omega)
  have d0 := hcM q (by rw [HK.out.Ml]; exact hq)
  simp only [ivl] at d0
  rw [Int.toNat_natCast] at H4
  have h4 := H4.out
  have hlq : q < x.M.length := by rw [HK.out.Ml]; exact hq
  have hq0 : (0 : Int) ≤ (q : Int) := by omega
  clear hcM
  obtain ⟨mo, hmo⟩ : ∃ mo, x.M.getD q 0 = mo := ⟨_, rfl⟩
  rw [hmo] at d0 h4
  clear hmo
  obtain ⟨_, c0, c1, c2, c3, _, _, _, _⟩ := HB.out
  rw [hao] at c0
  go_wp2_with fail
  rw [← hao]
  refine (spec_l6Has x.M _ _ old _ (HS.out.fr HF.out).M (by have := HW.out.M; omega)).mono ?_
  rintro e w' ⟨rfl, rfl⟩
  rw [← hao] at c0
  clear d0 h4 hlq hao hgl
  rw [H5.out]
  go_wp2_with fail
  refine (spec_l6Has x.F _ _ old _ (HS.out.fr HF.out).F (by have := HW.out.F; omega)).mono ?_
  rintro e w' ⟨rfl, rfl⟩
  rw [H6.out]
  obtain ⟨_, z0, z1, z2, z3, zf0, zf1, zf2, zf3⟩ := HZ.out
  go_wp2_with fail
  refine bodyPost_ret (v := .agg #[.slice none 0 0, .slice none 0 0, .slice none 0 0, .slice none 0 0]) (by simp [results, Try.results33, go_sem, World.cell?_setCell_other, World.cell?_setCell_same, z0, z1, z2, z3]) rfl ⟨none, none, none, none, 0, 0, 0, 0, rfl, VcNm.nil _ _ _ _ _ _, ?_⟩
  exact fr_but HF.out ((But.refl _ _).set4 (w.heap.size + 1) _ _ _ _ (.inl (by simp)) : But [w.heap.size + 1] _ _) (fun k hk => by have := List.mem_singleton.1 hk; omega)
set_option maxRecDepth 8000 in
set_option maxHeartbeats 4000000 in
theorem spec_NamBack_7 (x : Nm) (aM aF aV aH : Option Addr) (cM cF cV cH : Nat) (d now old : Int) (w : World) (h : SrcN w x aM aF aV aH) (hf : Few6 x) (h1 : okN x = true) (h2 : decide (1 ≤ d ∧ d ≤ 7) = true) (h3 : phyB old = true) (h4 : (x.M.getD d.toNat 0 != now) = false) (h5 : hasB x.M old = false) (h6 : hasB x.F old = false) :
    Calls Try.prog 33 #[.agg #[.slice aM x.M.length cM, .slice aF x.F.length cF, .slice aV x.V.length cV, .slice aH x.H.length cH], .int .i64 d, .int .i64 now, .int .i64 old] w (NmP (backG x d now old) w) := by
  have F2 : Fr w ((w.alloc (.cells #[.slice aM x.M.length cM, .slice aF x.F.length cF, .slice aV x.V.length cV, .slice aH x.H.length cH] 25)).alloc (.cells #[.slice none 0 0, .slice none 0 0, .slice none 0 0, .slice none 0 0] 25)) := by (repeat' first | (with_reducible exact Below.refl _ _) | (with_reducible assumption) | ((with_reducible refine Below.setCell ?_ ?hb _); (case hb => first | exact Nat.le_refl _ | (simp; done) | (simp; omega) | omega)) | ((with_reducible refine Below.alloc ?_ ?hb _); (case hb => first | exact Nat.le_refl _ | (simp; done) | (simp; omega) | omega)) | (with_reducible refine Below.drew ?_))
  have HF := Lib.hid F2
  have HB := Lib.hid (show Box4 ((w.alloc (.cells #[.slice aM x.M.length cM, .slice aF x.F.length cF, .slice aV x.V.length cV, .slice aH x.H.length cH] 25)).alloc (.cells #[.slice none 0 0, .slice none 0 0, .slice none 0 0, .slice none 0 0] 25)) w.heap.size (.slice aM x.M.length cM) (.slice aF x.F.length cF) (.slice aV x.V.length cV) (.slice aH x.H.length cH) from (Box4.new _ _ _ _ _ _ _ rfl).fr (Fr.alloc _ _))
  have HZ := Lib.hid (show Box4 ((w.alloc (.cells #[.slice aM x.M.length cM, .slice aF x.F.length cF, .slice aV x.V.length cV, .slice aH x.H.length cH] 25)).alloc (.cells #[.slice none 0 0, .slice none 0 0, .slice none 0 0, .slice none 0 0] 25)) (w.heap.size + 1) (.slice none 0 0) (.slice none 0 0) (.slice none 0 0) (.slice none 0 0) from Box4.new _ _ _ _ _ _ _ (by simp))
  have HS := Lib.hid h
  have HW := Lib.hid hf
  have HO := Lib.hid h1
  have HK := Lib.hid (okN_ok h1)
  have HDb := Lib.hid (of_decide_eq_true h2)
  have H2 := Lib.hid h2
  clear h2
  have H3 := Lib.hid h3
  clear h3
  have H4 := Lib.hid h4
  clear h4
  have H5 := Lib.hid h5
  clear h5
  have H6 := Lib.hid h6
  clear h6
  clear h1
  clear F2 h hf
  go_enter Try.func33, Try.ntmps33
  go_upto_region 1 with fail
  generalize ((w.alloc (.cells #[.slice aM x.M.length cM, .slice aF x.F.length cF, .slice aV x.V.length cV, .slice aH x.H.length cH] 25)).alloc (.cells #[.slice none 0 0, .slice none 0 0, .slice none 0 0, .slice none 0 0] 25)) = u at *
  obtain ⟨_, c0, c1, c2, c3, _, _, _, _⟩ := HB.out
  go_wp2_with fail
  refine (spec_NamOk x _ _ _ _ _ _ _ _ _ (HS.out.fr HF.out) HW.out).mono ?_
  rintro e u1 ⟨rfl, f⟩
  clear c0 c1 c2 c3
  replace HF := Lib.hid (HF.out.trans f)
  replace HB := Lib.hid (HB.out.fr f)
  replace HZ := Lib.hid (HZ.out.fr f)
  clear f
  rw [HO.out]
  go_wp2_with fail
  refine (spec_l1In d 1 7 _).mono ?_
  rintro e w' ⟨rfl, rfl⟩
  rw [H2.out]
  go_wp2_with fail
  refine (spec_l6Phy old _).mono ?_
  rintro e w' ⟨rfl, rfl⟩
  rw [H3.out]
  obtain ⟨q, rfl⟩ : ∃ q : Nat, d = q := ⟨d.toNat, by have := HDb.out; omega⟩
  have hq : q < 8 := by have := HDb.out; omega
  obtain ⟨gM, oM, hao, hgl, hcM⟩ := (HS.out.fr HF.out).M (by rw [HK.out.Ml]; omega)
  have d0 := hcM q (by rw [HK.out.Ml]; exact hq)
  simp only [ivl] at d0
  rw [Int.toNat_natCast] at H4
  have h4 := H4.out
  have hlq : q < x.M.length := by rw [HK.out.Ml]; exact hq
  have hq0 : (0 : Int) ≤ (q : Int) := by omega
  clear hcM
  obtain ⟨mo, hmo⟩ : ∃ mo, x.M.getD q 0 = mo := ⟨_, rfl⟩
  rw [hmo] at d0 h4
  clear hmo
  obtain ⟨_, c0, c1, c2, c3, _, _, _, _⟩ := HB.out
  rw [hao] at c0
  go_wp2_with fail
  rw [← hao]
  refine (spec_l6Has x.M _ _ old _ (HS.out.fr HF.out).M (by have := HW.out.M; omega)).mono ?_
  rintro e w' ⟨rfl, rfl⟩
  rw [← hao] at c0
  clear d0 h4 hlq hao hgl
  rw [H5.out]
  go_wp2_with fail
  refine (spec_l6Has x.F _ _ old _ (HS.out.fr HF.out).F (by have := HW.out.F; omega)).mono ?_
  rintro e w' ⟨rfl, rfl⟩
  rw [H6.out]
  clear c0 c1 c2 c3
  obtain ⟨_, c0, c1, c2, c3, _, _, _, _⟩ := HB.out
  go_wp2_with fail
  refine (spec_l6Copy x _ _ _ _ _ _ _ _ _ (HS.out.fr HF.out) HK.out.Ml (by have := HK.out.Fl; omega) HK.out.Vl HK.out.Hl).mono ?_
  rintro e v ⟨g1, aF5, g3, g4, c1, cF5, c3, c4, rfl, ow, f⟩
  
  have hzl := HZ.out.lt
  have HC := Lib.hid (ow.mono (show w.heap.size + 2 ≤ _ by omega))
  replace HF := Lib.hid (HF.out.trans f)
  replace HZ := Lib.hid (HZ.out.fr f)
  clear HB ow f
  go_wp2_with fail
  refine (spec_l6Back (w.heap.size + 2) x g1 aF5 cF5 g3 g4 c1 c3 c4 q now old v HC.out (by rw [HK.out.Ml]; exact hq) (by have := HK.out.Fl; omega) (by have := HZ.out.lt; omega)).mono ?_
  rintro e v2 ⟨gF, cF9, rfl, oc, f⟩
  replace HC := Lib.hid oc
  replace HF := Lib.hid (show Fr w v2 from Below.trans HF.out (f.mono (by omega)))
  replace HZ := Lib.hid (HZ.out.below f (by omega))
  clear oc f hzl
  have e8 : (x.M.set q old).length = x.M.length := by rw [List.length_set]
  have hcp := spec_l6Copy (backG x q now old) (some ⟨g1, 0, none⟩) (some ⟨gF, 0, none⟩) (some ⟨g3, 0, none⟩) (some ⟨g4, 0, none⟩) c1 cF9 c3 c4 v2 HC.out.src (e8.trans HK.out.Ml) (by show (x.F ++ [now]).length ≤ 100; have := HK.out.Fl; simp; omega) HK.out.Vl HK.out.Hl
  rw [show (backG x q now old).M.length = x.M.length from e8] at hcp
  have HCP := Lib.hid hcp
  clear hcp e8
  obtain ⟨FF, hFF⟩ : ∃ FF, x.F ++ [now] = FF := ⟨_, rfl⟩
  rw [show (backG x q now old).F = FF from hFF] at HCP
  rw [hFF]
  clear hFF HC
  go_wp2_with fail
  refine (HCP.out.mono (fun _ _ h => CpN.nmp h)).mono ?_
  rintro e v ⟨rM, rF, rV, rH, qM, qF, qV, qH, rfl, rv, f⟩
  have HV := Lib.hid rv
  have hzl := HZ.out.lt
  have HBk := Lib.hid rv.blk
  replace HF := Lib.hid (HF.out.trans f)
  obtain ⟨_, z0, z1, z2, z3, zf0, zf1, zf2, zf3⟩ := HZ.out.fr f
  have hst : ∀ a b c d, But [w.heap.size + 1] v ((((v.setCell ⟨w.heap.size + 1, 0, none⟩ a).setCell ⟨w.heap.size + 1, 1, none⟩ b).setCell ⟨w.heap.size + 1, 2, none⟩ c).setCell ⟨w.heap.size + 1, 3, none⟩ d) := fun a b c d => (But.refl _ _).set4 (w.heap.size + 1) a b c d (.inl (by simp))
  have HST := Lib.hid hst
  clear rv f hst
  go_wp2_with fail
  refine bodyPost_ret (v := .agg #[.slice rM (backG x q now old).M.length qM, .slice rF (backG x q now old).F.length qF, .slice rV (backG x q now old).V.length qV, .slice rH (backG x q now old).H.length qH]) (by simp [results, Try.results33, go_sem, World.cell?_setCell_other, World.cell?_setCell_same, z0, z1, z2, z3, freeG, putG, backG, takeG]) rfl ?_
  exact ⟨rM, rF, rV, rH, qM, qF, qV, qH, rfl, (HV.out.mono (by have := HF.out.size; omega)).but (HST.out _ _ _ _) (fun k hk hm => by have := HBk.out k hk; have := List.mem_singleton.1 hm; omega), fr_but HF.out (HST.out _ _ _ _) (fun k hk => by have := List.mem_singleton.1 hk; omega)⟩
theorem spec_NamBack (x : Nm) (aM aF aV aH : Option Addr) (cM cF cV cH : Nat) (d now old : Int) (w : World) (h : SrcN w x aM aF aV aH) (hf : Few6 x) :
    Calls Try.prog 33 #[.agg #[.slice aM x.M.length cM, .slice aF x.F.length cF, .slice aV x.V.length cV, .slice aH x.H.length cH], .int .i64 d, .int .i64 now, .int .i64 old] w (NmP (backA x d now old) w) := by
  cases h1 : okN x
  · rw [show backA x d now old = nm0 by simp [backA, h1]]
    exact spec_NamBack_1 x _ _ _ _ _ _ _ _ d now old w h hf h1
  · cases h2 : decide (1 ≤ d ∧ d ≤ 7)
    · have hr : regB d = false := by simp [regB] at h2 ⊢; omega
      rw [show backA x d now old = nm0 by simp [backA, hr]]
      exact spec_NamBack_2 x _ _ _ _ _ _ _ _ d now old w h hf h1 h2
    · have hr : regB d = true := by have := of_decide_eq_true h2; simp [regB]; omega
      cases h3 : phyB old
      · rw [show backA x d now old = nm0 by simp [backA, looseB, h3]]
        exact spec_NamBack_3 x _ _ _ _ _ _ _ _ d now old w h hf h1 h2 h3
      · by_cases h4 : x.M.getD d.toNat 0 = now
        · have h4' : (x.M.getD d.toNat 0 != now) = false := by rw [h4]; simp
          cases h5 : hasB x.M old
          · cases h6 : hasB x.F old
            · rw [show backA x d now old = backG x d now old by unfold backA looseB; rw [h1, hr, h3, h5, h6, decide_eq_true h4]; rfl]
              exact spec_NamBack_7 x _ _ _ _ _ _ _ _ d now old w h hf h1 h2 h3 h4' h5 h6
            · rw [show backA x d now old = nm0 by unfold backA looseB; rw [h6]; simp]
              exact spec_NamBack_6 x _ _ _ _ _ _ _ _ d now old w h hf h1 h2 h3 h4' h5 h6
          · rw [show backA x d now old = nm0 by unfold backA looseB; rw [h5]; simp]
            exact spec_NamBack_5 x _ _ _ _ _ _ _ _ d now old w h hf h1 h2 h3 h4' h5
        · rw [show backA x d now old = nm0 by unfold backA; rw [decide_eq_false h4]; simp]
          exact spec_NamBack_4 x _ _ _ _ _ _ _ _ d now old w h hf h1 h2 h3 (by rw [bne_iff_ne]; exact h4)
theorem spec_l6Take (B : Nat) (M R V : List Int) (H : List Bool) (p d : Nat) (g1 gF cF g3 g4 c1 c3 c4 : Nat) (w : World) (h : OwC B w ⟨M, (p : Int) :: R, V, H⟩ g1 (some ⟨gF, 0, none⟩) cF g3 g4) (hd : d < M.length) (hp : p < H.length) (hl : R.length ≤ 100) (hB : B ≤ w.heap.size) :
    Calls Try.prog 67 #[.agg #[.slice (some ⟨g1, 0, none⟩) M.length c1, .slice (some ⟨gF, 0, none⟩) (R.length + 1) cF, .slice (some ⟨g3, 0, none⟩) V.length c3, .slice (some ⟨g4, 0, none⟩) H.length c4], .int .i64 d] w fun e w' => ∃ aN cN, e = .returned (.tuple #[.agg #[.slice (some ⟨g1, 0, none⟩) M.length c1, .slice aN R.length cN, .slice (some ⟨g3, 0, none⟩) V.length c3, .slice (some ⟨g4, 0, none⟩) H.length c4], .int .i64 p, .int .i64 (M.getD d 0)]) ∧ SrcN w' ⟨M.set d p, R, V, H.set p false⟩ (some ⟨g1, 0, none⟩) aN (some ⟨g3, 0, none⟩) (some ⟨g4, 0, none⟩) ∧ Below B w w' := by
  by_cases hR : 0 < R.length
  · exact spec_l6Take_a B M R V H p d g1 gF cF g3 g4 c1 c3 c4 w h hd hp hl hR hB
  · by_cases hc : cF = 1
    · exact spec_l6Take_b B M R V H p d g1 gF cF g3 g4 c1 c3 c4 w h hd hp hl (by omega) hc hB
    · exact spec_l6Take_c B M R V H p d g1 gF cF g3 g4 c1 c3 c4 w h hd hp hl (by omega) hc hB
set_option maxRecDepth 8000 in
set_option maxHeartbeats 4000000 in
theorem spec_NamTake_1 (x : Nm) (aM aF aV aH : Option Addr) (cM cF cV cH : Nat) (d : Int) (w : World) (h : SrcN w x aM aF aV aH) (hf : Few6 x) (h1 : okN x = false) :
    Calls Try.prog 27 #[.agg #[.slice aM x.M.length cM, .slice aF x.F.length cF, .slice aV x.V.length cV, .slice aH x.H.length cH], .int .i64 d] w (TkP nm0 0 0 false w) := by
  have F2 : Fr w ((w.alloc (.cells #[.slice aM x.M.length cM, .slice aF x.F.length cF, .slice aV x.V.length cV, .slice aH x.H.length cH] 25)).alloc (.cells #[.slice none 0 0, .slice none 0 0, .slice none 0 0, .slice none 0 0] 25)) := by (repeat' first | (with_reducible exact Below.refl _ _) | (with_reducible assumption) | ((with_reducible refine Below.setCell ?_ ?hb _); (case hb => first | exact Nat.le_refl _ | (simp; done) | (simp; omega) | omega)) | ((with_reducible refine Below.alloc ?_ ?hb _); (case hb => first | exact Nat.le_refl _ | (simp; done) | (simp; omega) | omega)) | (with_reducible refine Below.drew ?_))
  have HF := Lib.hid F2
  have HB := Lib.hid (show Box4 ((w.alloc (.cells #[.slice aM x.M.length cM, .slice aF x.F.length cF, .slice aV x.V.length cV, .slice aH x.H.length cH] 25)).alloc (.cells #[.slice none 0 0, .slice none 0 0, .slice none 0 0, .slice none 0 0] 25)) w.heap.size (.slice aM x.M.length cM) (.slice aF x.F.length cF) (.slice aV x.V.length cV) (.slice aH x.H.length cH) from (Box4.new _ _ _ _ _ _ _ rfl).fr (Fr.alloc _ _))
  have HZ := Lib.hid (show Box4 ((w.alloc (.cells #[.slice aM x.M.length cM, .slice aF x.F.length cF, .slice aV x.V.length cV, .slice aH x.H.length cH] 25)).alloc (.cells #[.slice none 0 0, .slice none 0 0, .slice none 0 0, .slice none 0 0] 25)) (w.heap.size + 1) (.slice none 0 0) (.slice none 0 0) (.slice none 0 0) (.slice none 0 0) from Box4.new _ _ _ _ _ _ _ (by simp))
  have HS := Lib.hid h
  have HW := Lib.hid hf
  have HO := Lib.hid h1
  clear h1
  clear F2 h hf
  go_enter Try.func27, Try.ntmps27
  go_upto_region 1 with fail
  generalize ((w.alloc (.cells #[.slice aM x.M.length cM, .slice aF x.F.length cF, .slice aV x.V.length cV, .slice aH x.H.length cH] 25)).alloc (.cells #[.slice none 0 0, .slice none 0 0, .slice none 0 0, .slice none 0 0] 25)) = u at *
  obtain ⟨_, c0, c1, c2, c3, _, _, _, _⟩ := HB.out
  go_wp2_with fail
  refine (spec_NamOk x _ _ _ _ _ _ _ _ _ (HS.out.fr HF.out) HW.out).mono ?_
  rintro e u1 ⟨rfl, f⟩
  clear c0 c1 c2 c3
  replace HF := Lib.hid (HF.out.trans f)
  replace HB := Lib.hid (HB.out.fr f)
  replace HZ := Lib.hid (HZ.out.fr f)
  clear f
  rw [HO.out]
  obtain ⟨_, z0, z1, z2, z3, zf0, zf1, zf2, zf3⟩ := HZ.out
  go_wp2_with fail
  refine bodyPost_ret (v := .tuple #[.agg #[.slice none 0 0, .slice none 0 0, .slice none 0 0, .slice none 0 0], .int .i64 0, .int .i64 0, .bool false]) (by simp [results, Try.results27, go_sem, World.cell?_setCell_other, World.cell?_setCell_same, z0, z1, z2, z3]) rfl ⟨none, none, none, none, 0, 0, 0, 0, rfl, VcNm.nil _ _ _ _ _ _, ?_⟩
  exact fr_but HF.out ((But.refl _ _).set4 (w.heap.size + 1) _ _ _ _ (.inl (by simp)) : But [w.heap.size + 1] _ _) (fun k hk => by have := List.mem_singleton.1 hk; omega)
set_option maxRecDepth 8000 in
set_option maxHeartbeats 4000000 in
theorem spec_NamTake_2 (x : Nm) (aM aF aV aH : Option Addr) (cM cF cV cH : Nat) (d : Int) (w : World) (h : SrcN w x aM aF aV aH) (hf : Few6 x) (h1 : okN x = true) (h2 : decide (1 ≤ d ∧ d ≤ 7) = false) :
    Calls Try.prog 27 #[.agg #[.slice aM x.M.length cM, .slice aF x.F.length cF, .slice aV x.V.length cV, .slice aH x.H.length cH], .int .i64 d] w (TkP nm0 0 0 false w) := by
  have F2 : Fr w ((w.alloc (.cells #[.slice aM x.M.length cM, .slice aF x.F.length cF, .slice aV x.V.length cV, .slice aH x.H.length cH] 25)).alloc (.cells #[.slice none 0 0, .slice none 0 0, .slice none 0 0, .slice none 0 0] 25)) := by (repeat' first | (with_reducible exact Below.refl _ _) | (with_reducible assumption) | ((with_reducible refine Below.setCell ?_ ?hb _); (case hb => first | exact Nat.le_refl _ | (simp; done) | (simp; omega) | omega)) | ((with_reducible refine Below.alloc ?_ ?hb _); (case hb => first | exact Nat.le_refl _ | (simp; done) | (simp; omega) | omega)) | (with_reducible refine Below.drew ?_))
  have HF := Lib.hid F2
  have HB := Lib.hid (show Box4 ((w.alloc (.cells #[.slice aM x.M.length cM, .slice aF x.F.length cF, .slice aV x.V.length cV, .slice aH x.H.length cH] 25)).alloc (.cells #[.slice none 0 0, .slice none 0 0, .slice none 0 0, .slice none 0 0] 25)) w.heap.size (.slice aM x.M.length cM) (.slice aF x.F.length cF) (.slice aV x.V.length cV) (.slice aH x.H.length cH) from (Box4.new _ _ _ _ _ _ _ rfl).fr (Fr.alloc _ _))
  have HZ := Lib.hid (show Box4 ((w.alloc (.cells #[.slice aM x.M.length cM, .slice aF x.F.length cF, .slice aV x.V.length cV, .slice aH x.H.length cH] 25)).alloc (.cells #[.slice none 0 0, .slice none 0 0, .slice none 0 0, .slice none 0 0] 25)) (w.heap.size + 1) (.slice none 0 0) (.slice none 0 0) (.slice none 0 0) (.slice none 0 0) from Box4.new _ _ _ _ _ _ _ (by simp))
  have HS := Lib.hid h
  have HW := Lib.hid hf
  have HO := Lib.hid h1
  have H2 := Lib.hid h2
  clear h1 h2
  clear F2 h hf
  go_enter Try.func27, Try.ntmps27
  go_upto_region 1 with fail
  generalize ((w.alloc (.cells #[.slice aM x.M.length cM, .slice aF x.F.length cF, .slice aV x.V.length cV, .slice aH x.H.length cH] 25)).alloc (.cells #[.slice none 0 0, .slice none 0 0, .slice none 0 0, .slice none 0 0] 25)) = u at *
  obtain ⟨_, c0, c1, c2, c3, _, _, _, _⟩ := HB.out
  go_wp2_with fail
  refine (spec_NamOk x _ _ _ _ _ _ _ _ _ (HS.out.fr HF.out) HW.out).mono ?_
  rintro e u1 ⟨rfl, f⟩
  clear c0 c1 c2 c3
  replace HF := Lib.hid (HF.out.trans f)
  replace HB := Lib.hid (HB.out.fr f)
  replace HZ := Lib.hid (HZ.out.fr f)
  clear f
  rw [HO.out]
  go_wp2_with fail
  refine (spec_l1In d 1 7 _).mono ?_
  rintro e w' ⟨rfl, rfl⟩
  rw [H2.out]
  obtain ⟨_, z0, z1, z2, z3, zf0, zf1, zf2, zf3⟩ := HZ.out
  go_wp2_with fail
  refine bodyPost_ret (v := .tuple #[.agg #[.slice none 0 0, .slice none 0 0, .slice none 0 0, .slice none 0 0], .int .i64 0, .int .i64 0, .bool false]) (by simp [results, Try.results27, go_sem, World.cell?_setCell_other, World.cell?_setCell_same, z0, z1, z2, z3]) rfl ⟨none, none, none, none, 0, 0, 0, 0, rfl, VcNm.nil _ _ _ _ _ _, ?_⟩
  exact fr_but HF.out ((But.refl _ _).set4 (w.heap.size + 1) _ _ _ _ (.inl (by simp)) : But [w.heap.size + 1] _ _) (fun k hk => by have := List.mem_singleton.1 hk; omega)
set_option maxRecDepth 8000 in
set_option maxHeartbeats 4000000 in
theorem spec_NamTake_3 (x : Nm) (aM aF aV aH : Option Addr) (cM cF cV cH : Nat) (d : Int) (w : World) (h : SrcN w x aM aF aV aH) (hf : Few6 x) (h1 : okN x = true) (h2 : decide (1 ≤ d ∧ d ≤ 7) = true) (h3 : x.F.length = 0) :
    Calls Try.prog 27 #[.agg #[.slice aM x.M.length cM, .slice aF x.F.length cF, .slice aV x.V.length cV, .slice aH x.H.length cH], .int .i64 d] w (TkP x 0 0 false w) := by
  have F2 : Fr w ((w.alloc (.cells #[.slice aM x.M.length cM, .slice aF x.F.length cF, .slice aV x.V.length cV, .slice aH x.H.length cH] 25)).alloc (.cells #[.slice none 0 0, .slice none 0 0, .slice none 0 0, .slice none 0 0] 25)) := by (repeat' first | (with_reducible exact Below.refl _ _) | (with_reducible assumption) | ((with_reducible refine Below.setCell ?_ ?hb _); (case hb => first | exact Nat.le_refl _ | (simp; done) | (simp; omega) | omega)) | ((with_reducible refine Below.alloc ?_ ?hb _); (case hb => first | exact Nat.le_refl _ | (simp; done) | (simp; omega) | omega)) | (with_reducible refine Below.drew ?_))
  have HF := Lib.hid F2
  have HB := Lib.hid (show Box4 ((w.alloc (.cells #[.slice aM x.M.length cM, .slice aF x.F.length cF, .slice aV x.V.length cV, .slice aH x.H.length cH] 25)).alloc (.cells #[.slice none 0 0, .slice none 0 0, .slice none 0 0, .slice none 0 0] 25)) w.heap.size (.slice aM x.M.length cM) (.slice aF x.F.length cF) (.slice aV x.V.length cV) (.slice aH x.H.length cH) from (Box4.new _ _ _ _ _ _ _ rfl).fr (Fr.alloc _ _))
  have HZ := Lib.hid (show Box4 ((w.alloc (.cells #[.slice aM x.M.length cM, .slice aF x.F.length cF, .slice aV x.V.length cV, .slice aH x.H.length cH] 25)).alloc (.cells #[.slice none 0 0, .slice none 0 0, .slice none 0 0, .slice none 0 0] 25)) (w.heap.size + 1) (.slice none 0 0) (.slice none 0 0) (.slice none 0 0) (.slice none 0 0) from Box4.new _ _ _ _ _ _ _ (by simp))
  have HS := Lib.hid h
  have HW := Lib.hid hf
  have HO := Lib.hid h1
  have H2 := Lib.hid h2
  have HK := Lib.hid (okN_ok h1)
  have HDb := Lib.hid (of_decide_eq_true h2)
  have H3 := Lib.hid h3
  clear h3
  clear h1 h2
  clear F2 h hf
  go_enter Try.func27, Try.ntmps27
  go_upto_region 1 with fail
  generalize ((w.alloc (.cells #[.slice aM x.M.length cM, .slice aF x.F.length cF, .slice aV x.V.length cV, .slice aH x.H.length cH] 25)).alloc (.cells #[.slice none 0 0, .slice none 0 0, .slice none 0 0, .slice none 0 0] 25)) = u at *
  obtain ⟨_, c0, c1, c2, c3, _, _, _, _⟩ := HB.out
  go_wp2_with fail
  refine (spec_NamOk x _ _ _ _ _ _ _ _ _ (HS.out.fr HF.out) HW.out).mono ?_
  rintro e u1 ⟨rfl, f⟩
  clear c0 c1 c2 c3
  replace HF := Lib.hid (HF.out.trans f)
  replace HB := Lib.hid (HB.out.fr f)
  replace HZ := Lib.hid (HZ.out.fr f)
  clear f
  rw [HO.out]
  go_wp2_with fail
  refine (spec_l1In d 1 7 _).mono ?_
  rintro e w' ⟨rfl, rfl⟩
  rw [H2.out]
  have he : ((x.F.length : Int) == 0) = true := by rw [H3.out]; rfl
  obtain ⟨_, c0, c1, c2, c3, _, _, _, _⟩ := HB.out
  go_wp2_with fail
  clear he
  have HCP := Lib.hid (spec_l6Copy x _ _ _ _ cM cF cV cH u1 (HS.out.fr HF.out) HK.out.Ml (by have := HK.out.Fl; omega) HK.out.Vl HK.out.Hl)
  refine (HCP.out.mono (fun _ _ h => CpN.nmp h)).mono ?_
  rintro e v ⟨rM, rF, rV, rH, qM, qF, qV, qH, rfl, rv, f⟩
  have HV := Lib.hid rv
  have hzl := HZ.out.lt
  have HBk := Lib.hid rv.blk
  replace HF := Lib.hid (HF.out.trans f)
  obtain ⟨_, z0, z1, z2, z3, zf0, zf1, zf2, zf3⟩ := HZ.out.fr f
  have hst : ∀ a b c d, But [w.heap.size + 1] v ((((v.setCell ⟨w.heap.size + 1, 0, none⟩ a).setCell ⟨w.heap.size + 1, 1, none⟩ b).setCell ⟨w.heap.size + 1, 2, none⟩ c).setCell ⟨w.heap.size + 1, 3, none⟩ d) := fun a b c d => (But.refl _ _).set4 (w.heap.size + 1) a b c d (.inl (by simp))
  have HST := Lib.hid hst
  clear rv f hst
  go_wp2_with fail
  refine bodyPost_ret (v := .tuple #[.agg #[.slice rM (x).M.length qM, .slice rF (x).F.length qF, .slice rV (x).V.length qV, .slice rH (x).H.length qH], .int .i64 0, .int .i64 0, .bool false]) (by simp [results, Try.results27, go_sem, World.cell?_setCell_other, World.cell?_setCell_same, z0, z1, z2, z3, freeG, putG, backG, takeG]) rfl ?_
  exact ⟨rM, rF, rV, rH, qM, qF, qV, qH, rfl, (HV.out.mono (by have := HF.out.size; omega)).but (HST.out _ _ _ _) (fun k hk hm => by have := HBk.out k hk; have := List.mem_singleton.1 hm; omega), fr_but HF.out (HST.out _ _ _ _) (fun k hk => by have := List.mem_singleton.1 hk; omega)⟩
set_option maxRecDepth 8000 in
set_option maxHeartbeats 4000000 in
theorem spec_NamTake_4 (xM R xV : List Int) (xH : List Bool) (p q : Nat) (aM aF aV aH : Option Addr) (cM cF cV cH : Nat) (w : World) (h : SrcN w (Nm.mk xM ((p : Int) :: R) xV xH) aM aF aV aH) (hf : Few6 (Nm.mk xM ((p : Int) :: R) xV xH)) (h1 : okN (Nm.mk xM ((p : Int) :: R) xV xH) = true) (h2 : decide (1 ≤ (q : Int) ∧ (q : Int) ≤ 7) = true) :
    Calls Try.prog 27 #[.agg #[.slice aM xM.length cM, .slice aF (R.length + 1) cF, .slice aV xV.length cV, .slice aH xH.length cH], .int .i64 q] w (TkP (Nm.mk (xM.set q p) R xV (xH.set p false)) p (xM.getD q 0) true w) := by
  have HK := Lib.hid (okN_ok h1)
  have hq : q < 8 := by have := of_decide_eq_true h2; omega
  have hp20 : p < 20 := by have := HK.out.fp 0 (by simp); simp at this; omega
  obtain ⟨mo, hmo⟩ : ∃ mo, xM.getD q 0 = mo := ⟨_, rfl⟩
  have HMO := Lib.hid hmo
  rw [hmo]
  clear hmo
  have F2 : Fr w ((w.alloc (.cells #[.slice aM xM.length cM, .slice aF (R.length + 1) cF, .slice aV xV.length cV, .slice aH xH.length cH] 25)).alloc (.cells #[.slice none 0 0, .slice none 0 0, .slice none 0 0, .slice none 0 0] 25)) := by (repeat' first | (with_reducible exact Below.refl _ _) | (with_reducible assumption) | ((with_reducible refine Below.setCell ?_ ?hb _); (case hb => first | exact Nat.le_refl _ | (simp; done) | (simp; omega) | omega)) | ((with_reducible refine Below.alloc ?_ ?hb _); (case hb => first | exact Nat.le_refl _ | (simp; done) | (simp; omega) | omega)) | (with_reducible refine Below.drew ?_))
  have HF := Lib.hid F2
  have HB := Lib.hid (show Box4 ((w.alloc (.cells #[.slice aM xM.length cM, .slice aF (R.length + 1) cF, .slice aV xV.length cV, .slice aH xH.length cH] 25)).alloc (.cells #[.slice none 0 0, .slice none 0 0, .slice none 0 0, .slice none 0 0] 25)) w.heap.size (.slice aM xM.length cM) (.slice aF (R.length + 1) cF) (.slice aV xV.length cV) (.slice aH xH.length cH) from (Box4.new _ _ _ _ _ _ _ rfl).fr (Fr.alloc _ _))
  have HZ := Lib.hid (show Box4 ((w.alloc (.cells #[.slice aM xM.length cM, .slice aF (R.length + 1) cF, .slice aV xV.length cV, .slice aH xH.length cH] 25)).alloc (.cells #[.slice none 0 0, .slice none 0 0, .slice none 0 0, .slice none 0 0] 25)) (w.heap.size + 1) (.slice none 0 0) (.slice none 0 0) (.slice none 0 0) (.slice none 0 0) from Box4.new _ _ _ _ _ _ _ (by simp))
  have HS := Lib.hid h
  have HW := Lib.hid hf
  have HO := Lib.hid h1
  have H2 := Lib.hid h2
  clear h1 h2
  clear F2 h hf
  go_enter Try.func27, Try.ntmps27
  go_upto_region 1 with fail
  generalize ((w.alloc (.cells #[.slice aM xM.length cM, .slice aF (R.length + 1) cF, .slice aV xV.length cV, .slice aH xH.length cH] 25)).alloc (.cells #[.slice none 0 0, .slice none 0 0, .slice none 0 0, .slice none 0 0] 25)) = u at *
  obtain ⟨_, c0, c1, c2, c3, _, _, _, _⟩ := HB.out
  go_wp2_with fail
  refine (spec_NamOk (Nm.mk xM ((p : Int) :: R) xV xH) _ _ _ _ _ _ _ _ _ (HS.out.fr HF.out) HW.out).mono ?_
  rintro e u1 ⟨rfl, f⟩
  clear c0 c1 c2 c3
  replace HF := Lib.hid (HF.out.trans f)
  replace HB := Lib.hid (HB.out.fr f)
  replace HZ := Lib.hid (HZ.out.fr f)
  clear f
  rw [HO.out]
  go_wp2_with fail
  refine (spec_l1In (q : Int) 1 7 _).mono ?_
  rintro e w' ⟨rfl, rfl⟩
  rw [H2.out]
  have he : (((R.length : Int) + 1) == 0) = false := by rw [beq_eq_false_iff_ne]; omega
  obtain ⟨_, c0, c1, c2, c3, _, _, _, _⟩ := HB.out
  go_wp2_with fail
  refine (spec_l6Copy (Nm.mk xM ((p : Int) :: R) xV xH) _ _ _ _ _ _ _ _ _ (HS.out.fr HF.out) HK.out.Ml (by have := HK.out.Fl; omega) HK.out.Vl HK.out.Hl).mono ?_
  rintro e v ⟨g1, aF5, g3, g4, c1, cF5, c3, c4, rfl, ow, f⟩
  
  have hzl := HZ.out.lt
  have HC := Lib.hid (ow.mono (show w.heap.size + 2 ≤ _ by omega))
  replace HF := Lib.hid (HF.out.trans f)
  replace HZ := Lib.hid (HZ.out.fr f)
  clear HB ow f
  clear he
  obtain ⟨gF, hgF⟩ : ∃ gF, aF5 = some ⟨gF, 0, none⟩ := by
    rcases HC.out.F with ⟨hz, _⟩ | ⟨gF, e, _⟩
    · exact absurd hz (by simp)
    · exact ⟨gF, e⟩
  rw [hgF] at HC ⊢
  clear hgF aF5
  have e8 : xM.length = 8 := HK.out.Ml
  have e20 : xH.length = 20 := HK.out.Hl
  have e12 : R.length + 1 ≤ 12 := HK.out.Fl
  have HT := Lib.hid (spec_l6Take (w.heap.size + 2) xM R xV xH p q g1 gF cF5 g3 g4 c1 c3 c4 v HC.out (by omega) (by omega) (by omega) (by have := HZ.out.lt; omega))
  have HE8 := Lib.hid e8
  have HE20 := Lib.hid e20
  have HE12 := Lib.hid e12
  clear e8 e20 e12
  go_wp2_with fail
  refine HT.out.mono ?_
  rintro e v2 ⟨aN, cN, rfl, sN, f⟩
  rw [HMO.out]
  replace HF := Lib.hid (show Fr w v2 from Below.trans HF.out (f.mono (by omega)))
  replace HZ := Lib.hid (HZ.out.below f (by omega))
  have HSN := Lib.hid sN
  clear sN f hzl HT HC
  go_upto_region 6 with fail
  have f := Fr.alloc v2 (.cells #[.slice (some ⟨g1, 0, none⟩) xM.length c1, .slice aN R.length cN, .slice (some ⟨g3, 0, none⟩) xV.length c3, .slice (some ⟨g4, 0, none⟩) xH.length c4] 25)
  have HX := Lib.hid (Box4.new v2 (.slice (some ⟨g1, 0, none⟩) xM.length c1) (.slice aN R.length cN) (.slice (some ⟨g3, 0, none⟩) xV.length c3) (.slice (some ⟨g4, 0, none⟩) xH.length c4) 25 _ rfl)
  replace HF := Lib.hid (HF.out.trans f)
  replace HZ := Lib.hid (HZ.out.fr f)
  replace HSN := Lib.hid (HSN.out.fr f)
  clear f
  generalize v2.heap.size = b at HX ⊢
  generalize (v2.alloc (.cells #[.slice (some ⟨g1, 0, none⟩) xM.length c1, .slice aN R.length cN, .slice (some ⟨g3, 0, none⟩) xV.length c3, .slice (some ⟨g4, 0, none⟩) xH.length c4] 25)) = v3 at *
  have hcp := spec_l6Copy (Nm.mk (xM.set q p) R xV (xH.set p false)) (some ⟨g1, 0, none⟩) aN (some ⟨g3, 0, none⟩) (some ⟨g4, 0, none⟩) c1 cN c3 c4 v3 HSN.out (by show (xM.set q _).length = 8; rw [List.length_set]; exact HE8.out) (by show R.length ≤ 100; have := HE12.out; omega) HK.out.Vl (by show (xH.set p false).length = 20; rw [List.length_set]; exact HE20.out)
  rw [show (Nm.mk (xM.set q p) R xV (xH.set p false)).M.length = xM.length by show (xM.set q _).length = _; rw [List.length_set], show (Nm.mk (xM.set q p) R xV (xH.set p false)).H.length = xH.length by show (xH.set p _).length = _; rw [List.length_set]] at hcp
  have HCP := Lib.hid hcp
  clear hcp
  obtain ⟨_, y0, y1, y2, y3, _, _, _, _⟩ := HX.out
  go_wp2_with fail
  refine (HCP.out.mono (fun _ _ h => CpN.nmp h)).mono ?_
  rintro e v ⟨rM, rF, rV, rH, qM, qF, qV, qH, rfl, rv, f⟩
  have HV := Lib.hid rv
  have hzl := HZ.out.lt
  have HBk := Lib.hid rv.blk
  replace HF := Lib.hid (HF.out.trans f)
  obtain ⟨_, z0, z1, z2, z3, zf0, zf1, zf2, zf3⟩ := HZ.out.fr f
  have hst : ∀ a b c d, But [w.heap.size + 1] v ((((v.setCell ⟨w.heap.size + 1, 0, none⟩ a).setCell ⟨w.heap.size + 1, 1, none⟩ b).setCell ⟨w.heap.size + 1, 2, none⟩ c).setCell ⟨w.heap.size + 1, 3, none⟩ d) := fun a b c d => (But.refl _ _).set4 (w.heap.size + 1) a b c d (.inl (by simp))
  have HST := Lib.hid hst
  clear rv f hst
  go_wp2_with fail
  refine bodyPost_ret (v := .tuple #[.agg #[.slice rM (Nm.mk (xM.set q p) R xV (xH.set p false)).M.length qM, .slice rF (Nm.mk (xM.set q p) R xV (xH.set p false)).F.length qF, .slice rV (Nm.mk (xM.set q p) R xV (xH.set p false)).V.length qV, .slice rH (Nm.mk (xM.set q p) R xV (xH.set p false)).H.length qH], .int .i64 p, .int .i64 mo, .bool true]) (by simp [results, Try.results27, go_sem, World.cell?_setCell_other, World.cell?_setCell_same, z0, z1, z2, z3, freeG, putG, backG, takeG]) rfl ?_
  exact ⟨rM, rF, rV, rH, qM, qF, qV, qH, rfl, (HV.out.mono (by have := HF.out.size; omega)).but (HST.out _ _ _ _) (fun k hk hm => by have := HBk.out k hk; have := List.mem_singleton.1 hm; omega), fr_but HF.out (HST.out _ _ _ _) (fun k hk => by have := List.mem_singleton.1 hk; omega)⟩

theorem spec_NamTake (x : Nm) (aM aF aV aH : Option Addr) (cM cF cV cH : Nat) (d : Int) (w : World) (h : SrcN w x aM aF aV aH) (hf : Few6 x) :
    Calls Try.prog 27 #[.agg #[.slice aM x.M.length cM, .slice aF x.F.length cF, .slice aV x.V.length cV, .slice aH x.H.length cH], .int .i64 d] w (TkP (takeT x d).1 (takeT x d).2.1 (takeT x d).2.2.1 (takeT x d).2.2.2 w) := by
  cases h1 : okN x
  · rw [show takeT x d = (nm0, 0, 0, false) by simp [takeT, h1]]
    exact spec_NamTake_1 x _ _ _ _ _ _ _ _ d w h hf h1
  · cases h2 : decide (1 ≤ d ∧ d ≤ 7)
    · have hr : regB d = false := by simp [regB] at h2 ⊢; omega
      rw [show takeT x d = (nm0, 0, 0, false) by simp [takeT, hr]]
      exact spec_NamTake_2 x _ _ _ _ _ _ _ _ d w h hf h1 h2
    · have hb := of_decide_eq_true h2
      have hr : regB d = true := by simp [regB]; omega
      by_cases h3 : x.F.length = 0
      · rw [show takeT x d = (x, 0, 0, false) by unfold takeT; rw [h1, hr]; simp [h3]]
        exact spec_NamTake_3 x _ _ _ _ _ _ _ _ d w h hf h1 h2 h3
      · obtain ⟨xM, xF, xV, xH⟩ := x
        obtain ⟨f0, R, rfl⟩ : ∃ f0 R, xF = f0 :: R := by
          cases xF with
          | nil => exact absurd rfl h3
          | cons f0 R => exact ⟨f0, R, rfl⟩
        have hp := (okN_ok h1).fp 0 (by simp)
        simp only [List.getD_cons_zero] at hp
        obtain ⟨p, rfl⟩ : ∃ p : Nat, f0 = p := ⟨f0.toNat, by omega⟩
        obtain ⟨q, rfl⟩ : ∃ q : Nat, d = q := ⟨d.toNat, by omega⟩
        rw [show takeT (Nm.mk xM ((p : Int) :: R) xV xH) q = (Nm.mk (xM.set q p) R xV (xH.set p false), (p : Int), xM.getD q 0, true) by unfold takeT; rw [h1, hr]; simp [takeG]]
        exact spec_NamTake_4 xM R xV xH p q _ _ _ _ _ _ _ _ w h hf h1 h2
set_option maxRecDepth 8000 in
set_option maxHeartbeats 4000000 in
theorem impl_NamTake_1 (x : Nm) (aM aF aV aH : Option Addr) (cM cF cV cH : Nat) (d : Int) (w : World) (h : SrcN w x aM aF aV aH) (hf : Few6 x) (h1 : okN x = false) :
    Calls Try.prog 28 #[.agg #[.slice aM x.M.length cM, .slice aF x.F.length cF, .slice aV x.V.length cV, .slice aH x.H.length cH], .int .i64 d] w (TkP nm0 0 0 false w) := by
  have F2 : Fr w ((w.alloc (.cells #[.slice aM x.M.length cM, .slice aF x.F.length cF, .slice aV x.V.length cV, .slice aH x.H.length cH] 25)).alloc (.cells #[.slice none 0 0, .slice none 0 0, .slice none 0 0, .slice none 0 0] 25)) := by (repeat' first | (with_reducible exact Below.refl _ _) | (with_reducible assumption) | ((with_reducible refine Below.setCell ?_ ?hb _); (case hb => first | exact Nat.le_refl _ | (simp; done) | (simp; omega) | omega)) | ((with_reducible refine Below.alloc ?_ ?hb _); (case hb => first | exact Nat.le_refl _ | (simp; done) | (simp; omega) | omega)) | (with_reducible refine Below.drew ?_))
  have HF := Lib.hid F2
  have HB := Lib.hid (show Box4 ((w.alloc (.cells #[.slice aM x.M.length cM, .slice aF x.F.length cF, .slice aV x.V.length cV, .slice aH x.H.length cH] 25)).alloc (.cells #[.slice none 0 0, .slice none 0 0, .slice none 0 0, .slice none 0 0] 25)) w.heap.size (.slice aM x.M.length cM) (.slice aF x.F.length cF) (.slice aV x.V.length cV) (.slice aH x.H.length cH) from (Box4.new _ _ _ _ _ _ _ rfl).fr (Fr.alloc _ _))
  have HZ := Lib.hid (show Box4 ((w.alloc (.cells #[.slice aM x.M.length cM, .slice aF x.F.length cF, .slice aV x.V.length cV, .slice aH x.H.length cH] 25)).alloc (.cells #[.slice none 0 0, .slice none 0 0, .slice none 0 0, .slice none 0 0] 25)) (w.heap.size + 1) (.slice none 0 0) (.slice none 0 0) (.slice none 0 0) (.slice none 0 0) from Box4.new _ _ _ _ _ _ _ (by simp))
  have HS := Lib.hid h
  have HW := Lib.hid hf
  have HO := Lib.hid h1
  clear h1
  clear F2 h hf
  go_enter Try.func28, Try.ntmps28
  go_upto_region 1 with fail
  generalize ((w.alloc (.cells #[.slice aM x.M.length cM, .slice aF x.F.length cF, .slice aV x.V.length cV, .slice aH x.H.length cH] 25)).alloc (.cells #[.slice none 0 0, .slice none 0 0, .slice none 0 0, .slice none 0 0] 25)) = u at *
  obtain ⟨_, c0, c1, c2, c3, _, _, _, _⟩ := HB.out
  go_wp2_with fail
  refine (impl_NamOk x _ _ _ _ _ _ _ _ _ (HS.out.fr HF.out) HW.out).mono ?_
  rintro e u1 ⟨rfl, f⟩
  clear c0 c1 c2 c3
  replace HF := Lib.hid (HF.out.trans f)
  replace HB := Lib.hid (HB.out.fr f)
  replace HZ := Lib.hid (HZ.out.fr f)
  clear f
  rw [HO.out]
  obtain ⟨_, z0, z1, z2, z3, zf0, zf1, zf2, zf3⟩ := HZ.out
  go_wp2_with fail
  refine bodyPost_ret (v := .tuple #[.agg #[.slice none 0 0, .slice none 0 0, .slice none 0 0, .slice none 0 0], .int .i64 0, .int .i64 0, .bool false]) (by simp [results, Try.results28, go_sem, World.cell?_setCell_other, World.cell?_setCell_same, z0, z1, z2, z3]) rfl ⟨none, none, none, none, 0, 0, 0, 0, rfl, VcNm.nil _ _ _ _ _ _, ?_⟩
  exact fr_but HF.out ((But.refl _ _).set4 (w.heap.size + 1) _ _ _ _ (.inl (by simp)) : But [w.heap.size + 1] _ _) (fun k hk => by have := List.mem_singleton.1 hk; omega)
set_option maxRecDepth 8000 in
set_option maxHeartbeats 4000000 in
theorem impl_NamTake_2 (x : Nm) (aM aF aV aH : Option Addr) (cM cF cV cH : Nat) (d : Int) (w : World) (h : SrcN w x aM aF aV aH) (hf : Few6 x) (h1 : okN x = true) (h2 : (decide (0 ≤ d) && decide (d < 8)) = false) :
    Calls Try.prog 28 #[.agg #[.slice aM x.M.length cM, .slice aF x.F.length cF, .slice aV x.V.length cV, .slice aH x.H.length cH], .int .i64 d] w (TkP nm0 0 0 false w) := by
  have F2 : Fr w ((w.alloc (.cells #[.slice aM x.M.length cM, .slice aF x.F.length cF, .slice aV x.V.length cV, .slice aH x.H.length cH] 25)).alloc (.cells #[.slice none 0 0, .slice none 0 0, .slice none 0 0, .slice none 0 0] 25)) := by (repeat' first | (with_reducible exact Below.refl _ _) | (with_reducible assumption) | ((with_reducible refine Below.setCell ?_ ?hb _); (case hb => first | exact Nat.le_refl _ | (simp; done) | (simp; omega) | omega)) | ((with_reducible refine Below.alloc ?_ ?hb _); (case hb => first | exact Nat.le_refl _ | (simp; done) | (simp; omega) | omega)) | (with_reducible refine Below.drew ?_))
  have HF := Lib.hid F2
  have HB := Lib.hid (show Box4 ((w.alloc (.cells #[.slice aM x.M.length cM, .slice aF x.F.length cF, .slice aV x.V.length cV, .slice aH x.H.length cH] 25)).alloc (.cells #[.slice none 0 0, .slice none 0 0, .slice none 0 0, .slice none 0 0] 25)) w.heap.size (.slice aM x.M.length cM) (.slice aF x.F.length cF) (.slice aV x.V.length cV) (.slice aH x.H.length cH) from (Box4.new _ _ _ _ _ _ _ rfl).fr (Fr.alloc _ _))
  have HZ := Lib.hid (show Box4 ((w.alloc (.cells #[.slice aM x.M.length cM, .slice aF x.F.length cF, .slice aV x.V.length cV, .slice aH x.H.length cH] 25)).alloc (.cells #[.slice none 0 0, .slice none 0 0, .slice none 0 0, .slice none 0 0] 25)) (w.heap.size + 1) (.slice none 0 0) (.slice none 0 0) (.slice none 0 0) (.slice none 0 0) from Box4.new _ _ _ _ _ _ _ (by simp))
  have HS := Lib.hid h
  have HW := Lib.hid hf
  have HO := Lib.hid h1
  have H2 := Lib.hid h2
  clear h1 h2
  clear F2 h hf
  go_enter Try.func28, Try.ntmps28
  go_upto_region 1 with fail
  generalize ((w.alloc (.cells #[.slice aM x.M.length cM, .slice aF x.F.length cF, .slice aV x.V.length cV, .slice aH x.H.length cH] 25)).alloc (.cells #[.slice none 0 0, .slice none 0 0, .slice none 0 0, .slice none 0 0] 25)) = u at *
  obtain ⟨_, c0, c1, c2, c3, _, _, _, _⟩ := HB.out
  go_wp2_with fail
  refine (impl_NamOk x _ _ _ _ _ _ _ _ _ (HS.out.fr HF.out) HW.out).mono ?_
  rintro e u1 ⟨rfl, f⟩
  clear c0 c1 c2 c3
  replace HF := Lib.hid (HF.out.trans f)
  replace HB := Lib.hid (HB.out.fr f)
  replace HZ := Lib.hid (HZ.out.fr f)
  clear f
  rw [HO.out]
  go_wp2_with fail
  refine (impl_isReg d _).mono ?_
  rintro e w' ⟨rfl, rfl⟩
  rw [H2.out]
  obtain ⟨_, z0, z1, z2, z3, zf0, zf1, zf2, zf3⟩ := HZ.out
  go_wp2_with fail
  refine bodyPost_ret (v := .tuple #[.agg #[.slice none 0 0, .slice none 0 0, .slice none 0 0, .slice none 0 0], .int .i64 0, .int .i64 0, .bool false]) (by simp [results, Try.results28, go_sem, World.cell?_setCell_other, World.cell?_setCell_same, z0, z1, z2, z3]) rfl ⟨none, none, none, none, 0, 0, 0, 0, rfl, VcNm.nil _ _ _ _ _ _, ?_⟩
  exact fr_but HF.out ((But.refl _ _).set4 (w.heap.size + 1) _ _ _ _ (.inl (by simp)) : But [w.heap.size + 1] _ _) (fun k hk => by have := List.mem_singleton.1 hk; omega)
set_option maxRecDepth 8000 in
set_option maxHeartbeats 4000000 in
theorem impl_NamTake_3 (x : Nm) (aM aF aV aH : Option Addr) (cM cF cV cH : Nat) (d : Int) (w : World) (h : SrcN w x aM aF aV aH) (hf : Few6 x) (h1 : okN x = true) (h2 : (decide (0 ≤ d) && decide (d < 8)) = true) (h3 : (d == 0) = true) :
    Calls Try.prog 28 #[.agg #[.slice aM x.M.length cM, .slice aF x.F.length cF, .slice aV x.V.length cV, .slice aH x.H.length cH], .int .i64 d] w (TkP nm0 0 0 false w) := by
  have F2 : Fr w ((w.alloc (.cells #[.slice aM x.M.length cM, .slice aF x.F.length cF, .slice aV x.V.length cV, .slice aH x.H.length cH] 25)).alloc (.cells #[.slice none 0 0, .slice none 0 0, .slice none 0 0, .slice none 0 0] 25)) := by (repeat' first | (with_reducible exact Below.refl _ _) | (with_reducible assumption) | ((with_reducible refine Below.setCell ?_ ?hb _); (case hb => first | exact Nat.le_refl _ | (simp; done) | (simp; omega) | omega)) | ((with_reducible refine Below.alloc ?_ ?hb _); (case hb => first | exact Nat.le_refl _ | (simp; done) | (simp; omega) | omega)) | (with_reducible refine Below.drew ?_))
  have HF := Lib.hid F2
  have HB := Lib.hid (show Box4 ((w.alloc (.cells #[.slice aM x.M.length cM, .slice aF x.F.length cF, .slice aV x.V.length cV, .slice aH x.H.length cH] 25)).alloc (.cells #[.slice none 0 0, .slice none 0 0, .slice none 0 0, .slice none 0 0] 25)) w.heap.size (.slice aM x.M.length cM) (.slice aF x.F.length cF) (.slice aV x.V.length cV) (.slice aH x.H.length cH) from (Box4.new _ _ _ _ _ _ _ rfl).fr (Fr.alloc _ _))
  have HZ := Lib.hid (show Box4 ((w.alloc (.cells #[.slice aM x.M.length cM, .slice aF x.F.length cF, .slice aV x.V.length cV, .slice aH x.H.length cH] 25)).alloc (.cells #[.slice none 0 0, .slice none 0 0, .slice none 0 0, .slice none 0 0] 25)) (w.heap.size + 1) (.slice none 0 0) (.slice none 0 0) (.slice none 0 0) (.slice none 0 0) from Box4.new _ _ _ _ _ _ _ (by simp))
  have HS := Lib.hid h
  have HW := Lib.hid hf
  have HO := Lib.hid h1
  have H2 := Lib.hid h2
  clear h1 h2
  clear F2 h hf
  go_enter Try.func28, Try.ntmps28
  go_upto_region 1 with fail
  generalize ((w.alloc (.cells #[.slice aM x.M.length cM, .slice aF x.F.length cF, .slice aV x.V.length cV, .slice aH x.H.length cH] 25)).alloc (.cells #[.slice none 0 0, .slice none 0 0, .slice none 0 0, .slice none 0 0] 25)) = u at *
  obtain ⟨_, c0, c1, c2, c3, _, _, _, _⟩ := HB.out
  go_wp2_with fail
  refine (impl_NamOk x _ _ _ _ _ _ _ _ _ (HS.out.fr HF.out) HW.out).mono ?_
  rintro e u1 ⟨rfl, f⟩
  clear c0 c1 c2 c3
  replace HF := Lib.hid (HF.out.trans f)
  replace HB := Lib.hid (HB.out.fr f)
  replace HZ := Lib.hid (HZ.out.fr f)
  clear f
  rw [HO.out]
  go_wp2_with fail
  refine (impl_isReg d _).mono ?_
  rintro e w' ⟨rfl, rfl⟩
  rw [H2.out]
  obtain ⟨_, c0, c1, c2, c3, _, _, _, _⟩ := HB.out
  obtain ⟨_, z0, z1, z2, z3, zf0, zf1, zf2, zf3⟩ := HZ.out
  go_wp2_with fail
  refine bodyPost_ret (v := .tuple #[.agg #[.slice none 0 0, .slice none 0 0, .slice none 0 0, .slice none 0 0], .int .i64 0, .int .i64 0, .bool false]) (by simp [results, Try.results28, go_sem, World.cell?_setCell_other, World.cell?_setCell_same, z0, z1, z2, z3]) rfl ⟨none, none, none, none, 0, 0, 0, 0, rfl, VcNm.nil _ _ _ _ _ _, ?_⟩
  exact fr_but HF.out ((But.refl _ _).set4 (w.heap.size + 1) _ _ _ _ (.inl (by simp)) : But [w.heap.size + 1] _ _) (fun k hk => by have := List.mem_singleton.1 hk; omega)
set_option maxRecDepth 8000 in
set_option maxHeartbeats 4000000 in
theorem impl_NamTake_4 (x : Nm) (aM aF aV aH : Option Addr) (cM cF cV cH : Nat) (d : Int) (w : World) (h : SrcN w x aM aF aV aH) (hf : Few6 x) (h1 : okN x = true) (h2 : (decide (0 ≤ d) && decide (d < 8)) = true) (h3 : (d == 0) = false) (h4 : x.F.length = 0) :
    Calls Try.prog 28 #[.agg #[.slice aM x.M.length cM, .slice aF x.F.length cF, .slice aV x.V.length cV, .slice aH x.H.length cH], .int .i64 d] w (TkP x 0 0 false w) := by
  have F2 : Fr w ((w.alloc (.cells #[.slice aM x.M.length cM, .slice aF x.F.length cF, .slice aV x.V.length cV, .slice aH x.H.length cH] 25)).alloc (.cells #[.slice none 0 0, .slice none 0 0, .slice none 0 0, .slice none 0 0] 25)) := by (repeat' first | (with_reducible exact Below.refl _ _) | (with_reducible assumption) | ((with_reducible refine Below.setCell ?_ ?hb _); (case hb => first | exact Nat.le_refl _ | (simp; done) | (simp; omega) | omega)) | ((with_reducible refine Below.alloc ?_ ?hb _); (case hb => first | exact Nat.le_refl _ | (simp; done) | (simp; omega) | omega)) | (with_reducible refine Below.drew ?_))
  have HF := Lib.hid F2
  have HB := Lib.hid (show Box4 ((w.alloc (.cells #[.slice aM x.M.length cM, .slice aF x.F.length cF, .slice aV x.V.length cV, .slice aH x.H.length cH] 25)).alloc (.cells #[.slice none 0 0, .slice none 0 0, .slice none 0 0, .slice none 0 0] 25)) w.heap.size (.slice aM x.M.length cM) (.slice aF x.F.length cF) (.slice aV x.V.length cV) (.slice aH x.H.length cH) from (Box4.new _ _ _ _ _ _ _ rfl).fr (Fr.alloc _ _))
  have HZ := Lib.hid (show Box4 ((w.alloc (.cells #[.slice aM x.M.length cM, .slice aF x.F.length cF, .slice aV x.V.length cV, .slice aH x.H.length cH] 25)).alloc (.cells #[.slice none 0 0, .slice none 0 0, .slice none 0 0, .slice none 0 0] 25)) (w.heap.size + 1) (.slice none 0 0) (.slice none 0 0) (.slice none 0 0) (.slice none 0 0) from Box4.new _ _ _ _ _ _ _ (by simp))
  have HS := Lib.hid h
  have HW := Lib.hid hf
  have HO := Lib.hid h1
  have H2 := Lib.hid h2
  have HK := Lib.hid (okN_ok h1)
  have HDb := Lib.hid (reg6_bd h2)
  have H4 := Lib.hid h4
  clear h4
  clear h1 h2
  clear F2 h hf
  go_enter Try.func28, Try.ntmps28
  go_upto_region 1 with fail
  generalize ((w.alloc (.cells #[.slice aM x.M.length cM, .slice aF x.F.length cF, .slice aV x.V.length cV, .slice aH x.H.length cH] 25)).alloc (.cells #[.slice none 0 0, .slice none 0 0, .slice none 0 0, .slice none 0 0] 25)) = u at *
  obtain ⟨_, c0, c1, c2, c3, _, _, _, _⟩ := HB.out
  go_wp2_with fail
  refine (impl_NamOk x _ _ _ _ _ _ _ _ _ (HS.out.fr HF.out) HW.out).mono ?_
  rintro e u1 ⟨rfl, f⟩
  clear c0 c1 c2 c3
  replace HF := Lib.hid (HF.out.trans f)
  replace HB := Lib.hid (HB.out.fr f)
  replace HZ := Lib.hid (HZ.out.fr f)
  clear f
  rw [HO.out]
  go_wp2_with fail
  refine (impl_isReg d _).mono ?_
  rintro e w' ⟨rfl, rfl⟩
  rw [H2.out]
  have hg0 := HZ.out.lt
  obtain ⟨_, c0, c1, c2, c3, _, _, _, _⟩ := HB.out
  go_wp2_with fail
  refine (impl_namesOf x.M x.F x.V x.H _ _ _ _ _ _ _ _ _ (HS.out.fr HF.out) HK.out.Ml HK.out.Fl HK.out.Vl HK.out.Hl).mono ?_
  rintro e un ⟨g, rfl, hg, nb, f⟩
  clear c0 c1 c2 c3
  have hge : w.heap.size + 1 < g := Nat.lt_of_lt_of_le HZ.out.lt hg
  have HN := Lib.hid nb
  replace HF := Lib.hid (HF.out.trans f)
  replace HZ := Lib.hid (HZ.out.fr f)
  clear HB nb f hg
  obtain ⟨q, rfl⟩ : ∃ q : Nat, d = q := ⟨d.toNat, by have := HDb.out; omega⟩
  have hq : q < 8 := by have := HDb.out; omega
  clear h3
  rw [H4.out] at HN
  go_wp2_with fail
  refine (impl_take0 x.M (ringP x.F) 0 x.V x.H g q _ HN.out).mono ?_
  rintro e ut ⟨rfl, f⟩
  replace HN := Lib.hid (HN.out.fr f)
  replace HF := Lib.hid (HF.out.trans f)
  replace HZ := Lib.hid (HZ.out.fr f)
  clear f
  go_upto_region 5 with fail
  have f := Fr.alloc ut (.cells #[.int .i64 0, .int .i64 0, .int .i64 0] 79)
  have HX := Lib.hid (Box3.new ut (.int .i64 0) (.int .i64 0) (.int .i64 0) 79 _ rfl)
  have hul : w.heap.size + 1 < ut.heap.size := HZ.out.lt
  replace HN := Lib.hid (HN.out.fr f)
  replace HF := Lib.hid (HF.out.trans f)
  replace HZ := Lib.hid (HZ.out.fr f)
  have hul2 : w.heap.size + 2 ≤ (ut.alloc (.cells #[.int .i64 0, .int .i64 0, .int .i64 0] 79)).heap.size := by simp; omega
  clear f
  generalize ut.heap.size = b at HX hul ⊢
  generalize (ut.alloc (.cells #[.int .i64 0, .int .i64 0, .int .i64 0] 79)) = u9 at *
  have e : ringL (ringP x.F) 0 0 = x.F := by have := ringL_P x.F (by have := HK.out.Fl; omega); rwa [H4.out] at this
  have HCS := Lib.hid (fun (u : World) (hB : But [] u9 u) => impl_state x.M (ringP x.F) 0 0 x.V x.H g u (HN.out.but hB (by simp)))
  rw [e] at HCS
  clear e
  rw [show Nm.mk x.M x.F x.V x.H = x from rfl] at HCS
  refine wp_region_lots 39 (fun i => if i = 7 then [w.heap.size + 1] else []) (fun _ _ => True) (fun i v u => match i with | 0 => v = .pointer (some ⟨g, 0, none⟩) | 1 => ∃ rM rF rV rH qM qF qV qH, v = .agg #[.slice rM x.M.length qM, .slice rF x.F.length qF, .slice rV x.V.length qV, .slice rH x.H.length qH] ∧ VcNm (w.heap.size + 2) u x rM rF rV rH | 2 => v = .pointer (some ⟨b, 1, none⟩) | 3 => v = .int .i64 0 | 4 => v = .pointer (some ⟨b, 2, none⟩) | 5 => v = .int .i64 0 | 6 => v = .bool false | 7 => ∃ rM rF rV rH qM qF qV qH, Box4 u (w.heap.size + 1) (.slice rM x.M.length qM) (.slice rF x.F.length qF) (.slice rV x.V.length qV) (.slice rH x.H.length qH) ∧ VcNm (w.heap.size + 2) u x rM rF rV rH | 8 => v = .int .i64 0 | 9 => v = .int .i64 0 | 10 => v = .bool false | _ => True) ?mono (by kernel_rfl) (by kernel_rfl) rfl (by kernel_rfl) trivial ?step ?fin
  case mono =>
    intro i j v u u' hij hsz h hB
    rcases j with _ | _ | _ | _ | _ | _ | _ | _ | _ | _ | _ | j
    · exact h
    · obtain ⟨rM, rF, rV, rH, qM, qF, qV, qH, e, V⟩ := h
      have hB2 : But [w.heap.size + 1] u u' := hB.mono (fun k hk _ => by by_cases y : i = 7; rw [if_pos y] at hk; exact hk; rw [if_neg y] at hk; cases hk)
      exact ⟨rM, rF, rV, rH, qM, qF, qV, qH, e, V.but hB2 (fun k hk hm => by have := V.blk k hk; have := List.mem_singleton.1 hm; omega)⟩
    · exact h
    · exact h
    · exact h
    · exact h
    · exact h
    · obtain ⟨rM, rF, rV, rH, qM, qF, qV, qH, B, V⟩ := h
      rw [if_neg hij] at hB
      exact ⟨rM, rF, rV, rH, qM, qF, qV, qH, B.but hB (by simp), V.but hB (fun k _ => by simp)⟩
    · exact h
    · exact h
    · exact h
    · trivial
  case step =>
    intro i o ho
    rcases i with _ | _ | _ | _ | _ | _ | _ | _ | _ | _ | _ | i
    · cases ho
      intro fu act u hW hB hsz hL hdep
      replace hB := hB [w.heap.size + 1] (fun j hj hd k hk => by
        by_cases y7 : j = 7
        · rw [if_pos y7] at hk; simp at hk; simp [hk]
        rw [if_neg y7] at hk
        cases hk)
      obtain ⟨ysl, ha, hy⟩ := hL.puts [32, 33, 34, 35, 36, 37, 38, 5, 6, 7] (by kernel_rfl)
      clear hdep hL hy
      simp only [List.foldl, List.setIfInBounds_toArray, List.set_cons_succ, List.set_cons_zero] at ha
      subst ha
      refine wpOp_step rfl (fun K hK => ?_)
      go_simp
      exact hK _ _ ⟨_, rfl, (fun h => by cases h), rfl, But.refl _ _, trivial⟩
    · cases ho
      intro fu act u hW hB hsz hL hdep
      replace hB := hB [] (fun j hj hd k hk => by
        by_cases x7 : j = 7
        · subst x7; exact (dep_no hd (by kernel_rfl)).elim
        rw [if_neg x7] at hk
        cases hk)
      have d0 := hdep { on := 0, ground := .data } (by simp) rfl _ rfl
      obtain ⟨ysl, ha, hy⟩ := hL.puts [32, 33, 34, 35, 36, 37, 38, 5, 6, 7] (by kernel_rfl)
      have e0 : ysl 32 = _ := (hy 32).symm.trans d0
      clear hdep hL hy d0
      simp only [List.foldl, List.setIfInBounds_toArray, List.set_cons_succ, List.set_cons_zero, e0] at ha
      subst ha
      clear e0
      refine wpOp_step rfl (fun K hK => ?_)
      go_simp
      refine (HCS.out u hB).mono ?_
      rintro e u' ⟨rM, rF, rV, rH, qM, qF, qV, qH, rfl, V, f⟩
      go_simp
      exact hK _ _ ⟨_, rfl, (fun h => by cases h), ⟨rM, rF, rV, rH, qM, qF, qV, qH, rfl, Rws.mono V (by have := hB.size; omega)⟩, But.of f, trivial⟩
    · cases ho
      intro fu act u hW hB hsz hL hdep
      replace hB := hB [w.heap.size + 1] (fun j hj hd k hk => by
        by_cases y7 : j = 7
        · rw [if_pos y7] at hk; simp at hk; simp [hk]
        rw [if_neg y7] at hk
        cases hk)
      obtain ⟨ysl, ha, hy⟩ := hL.puts [32, 33, 34, 35, 36, 37, 38, 5, 6, 7] (by kernel_rfl)
      clear hdep hL hy
      simp only [List.foldl, List.setIfInBounds_toArray, List.set_cons_succ, List.set_cons_zero] at ha
      subst ha
      refine wpOp_step rfl (fun K hK => ?_)
      go_simp
      exact hK _ _ ⟨_, rfl, (fun h => by cases h), rfl, But.refl _ _, trivial⟩
    · cases ho
      intro fu act u hW hB hsz hL hdep
      replace hB := hB [w.heap.size + 1] (fun j hj hd k hk => by
        by_cases y7 : j = 7
        · rw [if_pos y7] at hk; simp at hk; simp [hk]
        rw [if_neg y7] at hk
        cases hk)
      have d2 := hdep { on := 2, ground := .data } (by simp) rfl _ rfl
      obtain ⟨ysl, ha, hy⟩ := hL.puts [32, 33, 34, 35, 36, 37, 38, 5, 6, 7] (by kernel_rfl)
      have e2 : ysl 34 = _ := (hy 34).symm.trans d2
      clear hdep hL hy d2
      simp only [List.foldl, List.setIfInBounds_toArray, List.set_cons_succ, List.set_cons_zero, e2] at ha
      subst ha
      clear e2
      obtain ⟨_, a0, a1, a2, _, _, _⟩ := HX.out.but hB (by simp; omega)
      refine wpOp_step rfl (fun K hK => ?_)
      go_simp
      exact hK _ _ ⟨_, rfl, (fun h => by cases h), rfl, But.refl _ _, trivial⟩
    · cases ho
      intro fu act u hW hB hsz hL hdep
      replace hB := hB [w.heap.size + 1] (fun j hj hd k hk => by
        by_cases y7 : j = 7
        · rw [if_pos y7] at hk; simp at hk; simp [hk]
        rw [if_neg y7] at hk
        cases hk)
      obtain ⟨ysl, ha, hy⟩ := hL.puts [32, 33, 34, 35, 36, 37, 38, 5, 6, 7] (by kernel_rfl)
      clear hdep hL hy
      simp only [List.foldl, List.setIfInBounds_toArray, List.set_cons_succ, List.set_cons_zero] at ha
      subst ha
      refine wpOp_step rfl (fun K hK => ?_)
      go_simp
      exact hK _ _ ⟨_, rfl, (fun h => by cases h), rfl, But.refl _ _, trivial⟩
    · cases ho
      intro fu act u hW hB hsz hL hdep
      replace hB := hB [w.heap.size + 1] (fun j hj hd k hk => by
        by_cases y7 : j = 7
        · rw [if_pos y7] at hk; simp at hk; simp [hk]
        rw [if_neg y7] at hk
        cases hk)
      have d4 := hdep { on := 4, ground := .data } (by simp) rfl _ rfl
      obtain ⟨ysl, ha, hy⟩ := hL.puts [32, 33, 34, 35, 36, 37, 38, 5, 6, 7] (by kernel_rfl)
      have e4 : ysl 36 = _ := (hy 36).symm.trans d4
      clear hdep hL hy d4
      simp only [List.foldl, List.setIfInBounds_toArray, List.set_cons_succ, List.set_cons_zero, e4] at ha
      subst ha
      clear e4
      obtain ⟨_, a0, a1, a2, _, _, _⟩ := HX.out.but hB (by simp; omega)
      refine wpOp_step rfl (fun K hK => ?_)
      go_simp
      exact hK _ _ ⟨_, rfl, (fun h => by cases h), rfl, But.refl _ _, trivial⟩
    · cases ho
      intro fu act u hW hB hsz hL hdep
      replace hB := hB [w.heap.size + 1] (fun j hj hd k hk => by
        by_cases y7 : j = 7
        · rw [if_pos y7] at hk; simp at hk; simp [hk]
        rw [if_neg y7] at hk
        cases hk)
      obtain ⟨ysl, ha, hy⟩ := hL.puts [32, 33, 34, 35, 36, 37, 38, 5, 6, 7] (by kernel_rfl)
      clear hdep hL hy
      simp only [List.foldl, List.setIfInBounds_toArray, List.set_cons_succ, List.set_cons_zero] at ha
      subst ha
      refine wpOp_step rfl (fun K hK => ?_)
      go_simp
      exact hK _ _ ⟨_, rfl, (fun h => by cases h), rfl, But.refl _ _, trivial⟩
    · cases ho
      intro fu act u hW hB hsz hL hdep
      replace hB := hB [] (fun j hj hd k hk => by
        by_cases x7 : j = 7
        · exact absurd x7 hj
        rw [if_neg x7] at hk
        cases hk)
      have d1 := hdep { on := 1, ground := .data } (by simp) rfl _ rfl
      obtain ⟨ysl, ha, hy⟩ := hL.puts [32, 33, 34, 35, 36, 37, 38, 5, 6, 7] (by kernel_rfl)
      obtain ⟨rM, rF, rV, rH, qM, qF, qV, qH, h1, V1⟩ := d1
      have e1 : ysl 33 = .agg #[.slice rM x.M.length qM, .slice rF x.F.length qF, .slice rV x.V.length qV, .slice rH x.H.length qH] := (hy 33).symm.trans h1
      clear hdep hL hy h1
      simp only [List.foldl, List.setIfInBounds_toArray, List.set_cons_succ, List.set_cons_zero, e1] at ha
      subst ha
      clear e1
      have Bz := HZ.out.but hB (by simp)
      obtain ⟨_, z0, z1, z2, z3, zf0, zf1, zf2, zf3⟩ := HZ.out.but hB (by simp)
      refine wpOp_step rfl (fun K hK => ?_)
      go_simp
      have hst : But [w.heap.size + 1] u ((((u.setCell ⟨w.heap.size + 1, 0, none⟩ (.slice rM x.M.length qM)).setCell ⟨w.heap.size + 1, 1, none⟩ (.slice rF x.F.length qF)).setCell ⟨w.heap.size + 1, 2, none⟩ (.slice rV x.V.length qV)).setCell ⟨w.heap.size + 1, 3, none⟩ (.slice rH x.H.length qH)) := (But.refl _ _).set4 _ _ _ _ _ (.inl (by simp))
      exact hK _ _ ⟨_, rfl, (fun _ => rfl), ⟨rM, rF, rV, rH, qM, qF, qV, qH, Bz.set _ _ _ _, V1.but hst (fun k hk hm => by have := V1.blk k hk; have := List.mem_singleton.1 hm; omega)⟩, hst, trivial⟩
    · cases ho
      intro fu act u hW hB hsz hL hdep
      replace hB := hB [w.heap.size + 1] (fun j hj hd k hk => by
        by_cases y7 : j = 7
        · rw [if_pos y7] at hk; simp at hk; simp [hk]
        rw [if_neg y7] at hk
        cases hk)
      have d3 := hdep { on := 3, ground := .data } (by simp) rfl _ rfl
      obtain ⟨ysl, ha, hy⟩ := hL.puts [32, 33, 34, 35, 36, 37, 38, 5, 6, 7] (by kernel_rfl)
      have e3 : ysl 35 = _ := (hy 35).symm.trans d3
      clear hdep hL hy d3
      simp only [List.foldl, List.setIfInBounds_toArray, List.set_cons_succ, List.set_cons_zero, e3] at ha
      subst ha
      clear e3
      refine wpOp_step rfl (fun K hK => ?_)
      go_simp
      exact hK _ _ ⟨_, rfl, (fun h => by cases h), rfl, But.refl _ _, trivial⟩
    · cases ho
      intro fu act u hW hB hsz hL hdep
      replace hB := hB [w.heap.size + 1] (fun j hj hd k hk => by
        by_cases y7 : j = 7
        · rw [if_pos y7] at hk; simp at hk; simp [hk]
        rw [if_neg y7] at hk
        cases hk)
      have d5 := hdep { on := 5, ground := .data } (by simp) rfl _ rfl
      obtain ⟨ysl, ha, hy⟩ := hL.puts [32, 33, 34, 35, 36, 37, 38, 5, 6, 7] (by kernel_rfl)
      have e5 : ysl 37 = _ := (hy 37).symm.trans d5
      clear hdep hL hy d5
      simp only [List.foldl, List.setIfInBounds_toArray, List.set_cons_succ, List.set_cons_zero, e5] at ha
      subst ha
      clear e5
      refine wpOp_step rfl (fun K hK => ?_)
      go_simp
      exact hK _ _ ⟨_, rfl, (fun h => by cases h), rfl, But.refl _ _, trivial⟩
    · cases ho
      intro fu act u hW hB hsz hL hdep
      replace hB := hB [w.heap.size + 1] (fun j hj hd k hk => by
        by_cases y7 : j = 7
        · rw [if_pos y7] at hk; simp at hk; simp [hk]
        rw [if_neg y7] at hk
        cases hk)
      have d6 := hdep { on := 6, ground := .data } (by simp) rfl _ rfl
      obtain ⟨ysl, ha, hy⟩ := hL.puts [32, 33, 34, 35, 36, 37, 38, 5, 6, 7] (by kernel_rfl)
      have e6 : ysl 38 = _ := (hy 38).symm.trans d6
      clear hdep hL hy d6
      simp only [List.foldl, List.setIfInBounds_toArray, List.set_cons_succ, List.set_cons_zero, e6] at ha
      subst ha
      clear e6
      refine wpOp_step rfl (fun K hK => ?_)
      go_simp
      exact hK _ _ ⟨_, rfl, (fun h => by cases h), rfl, But.refl _ _, trivial⟩
    · exact absurd ho (by simp)
  case fin =>
    intro act u hW hsz hB hL hsf
    replace hB := hB [w.heap.size + 1] (fun j k hk => by
      by_cases y7 : j = 7
      · rw [if_pos y7] at hk; simp at hk; simp [hk]
      rw [if_neg y7] at hk
      cases hk)
    have d7 := hsf 7 _ rfl
    have d8 := hsf 8 _ rfl
    have d9 := hsf 9 _ rfl
    have d10 := hsf 10 _ rfl
    obtain ⟨ysl, ha, hy⟩ := hL.puts [32, 33, 34, 35, 36, 37, 38, 5, 6, 7] (by kernel_rfl)
    obtain ⟨rM, rF, rV, rH, qM, qF, qV, qH, B7, V7⟩ := d7
    have e8 : ysl 5 = _ := (hy 5).symm.trans d8
    have e9 : ysl 6 = _ := (hy 6).symm.trans d9
    have e10 : ysl 7 = _ := (hy 7).symm.trans d10
    clear hL hsf hy d8 d9 d10
    simp only [List.foldl, List.setIfInBounds_toArray, List.set_cons_succ, List.set_cons_zero, e8, e9, e10] at ha
    subst ha
    clear e8 e9 e10
    obtain ⟨_, y0, y1, y2, y3, _, _, _, _⟩ := B7
    have HV7 := Lib.hid V7
    have HFe := Lib.hid (show Fr w u from fr_but HF.out hB (fun k hk => by have := List.mem_singleton.1 hk; omega))
    clear hB V7
    go_wp2_with fail
    refine bodyPost_ret (v := .tuple #[.agg #[.slice rM x.M.length qM, .slice rF x.F.length qF, .slice rV x.V.length qV, .slice rH x.H.length qH], .int .i64 0, .int .i64 0, .bool false]) (by simp [results, Try.results28, go_sem, y0, y1, y2, y3]) rfl ⟨rM, rF, rV, rH, qM, qF, qV, qH, rfl, Rws.mono HV7.out (by omega), HFe.out⟩
set_option maxRecDepth 8000 in
set_option maxHeartbeats 4000000 in
theorem impl_NamTake_5 (xM R xV : List Int) (xH : List Bool) (p q : Nat) (TT : Nm) (mo : Int) (aM aF aV aH : Option Addr) (cM cF cV cH : Nat) (w : World) (h : SrcN w (Nm.mk xM ((p : Int) :: R) xV xH) aM aF aV aH) (hf : Few6 (Nm.mk xM ((p : Int) :: R) xV xH)) (h1 : okN (Nm.mk xM ((p : Int) :: R) xV xH) = true) (h2 : (decide (0 ≤ (q : Int)) && decide ((q : Int) < 8)) = true) (h3 : ((q : Int) == 0) = false)  (hTT : Nm.mk (xM.set q p) R xV (xH.set p false) = TT) (hmo : xM.getD q 0 = mo) :
    Calls Try.prog 28 #[.agg #[.slice aM xM.length cM, .slice aF (R.length + 1) cF, .slice aV xV.length cV, .slice aH xH.length cH], .int .i64 q] w (TkP TT p mo true w) := by
  have HK := Lib.hid (okN_ok h1)
  have hq : q < 8 := by have := reg6_bd h2; omega
  have hp20 : p < 20 := by have := HK.out.fp 0 (by simp); simp at this; omega
  have HMO := Lib.hid hmo
  have HTT := Lib.hid hTT
  clear hmo hTT
  have F2 : Fr w ((w.alloc (.cells #[.slice aM xM.length cM, .slice aF (R.length + 1) cF, .slice aV xV.length cV, .slice aH xH.length cH] 25)).alloc (.cells #[.slice none 0 0, .slice none 0 0, .slice none 0 0, .slice none 0 0] 25)) := by (repeat' first | (with_reducible exact Below.refl _ _) | (with_reducible assumption) | ((with_reducible refine Below.setCell ?_ ?hb _); (case hb => first | exact Nat.le_refl _ | (simp; done) | (simp; omega) | omega)) | ((with_reducible refine Below.alloc ?_ ?hb _); (case hb => first | exact Nat.le_refl _ | (simp; done) | (simp; omega) | omega)) | (with_reducible refine Below.drew ?_))
  have HF := Lib.hid F2
  have HB := Lib.hid (show Box4 ((w.alloc (.cells #[.slice aM xM.length cM, .slice aF (R.length + 1) cF, .slice aV xV.length cV, .slice aH xH.length cH] 25)).alloc (.cells #[.slice none 0 0, .slice none 0 0, .slice none 0 0, .slice none 0 0] 25)) w.heap.size (.slice aM xM.length cM) (.slice aF (R.length + 1) cF) (.slice aV xV.length cV) (.slice aH xH.length cH) from (Box4.new _ _ _ _ _ _ _ rfl).fr (Fr.alloc _ _))
  have HZ := Lib.hid (show Box4 ((w.alloc (.cells #[.slice aM xM.length cM, .slice aF (R.length + 1) cF, .slice aV xV.length cV, .slice aH xH.length cH] 25)).alloc (.cells #[.slice none 0 0, .slice none 0 0, .slice none 0 0, .slice none 0 0] 25)) (w.heap.size + 1) (.slice none 0 0) (.slice none 0 0) (.slice none 0 0) (.slice none 0 0) from Box4.new _ _ _ _ _ _ _ (by simp))
  have HS := Lib.hid h
  have HW := Lib.hid hf
  have HO := Lib.hid h1
  have H2 := Lib.hid h2
  clear h1 h2
  clear F2 h hf
  go_enter Try.func28, Try.ntmps28
  go_upto_region 1 with fail
  generalize ((w.alloc (.cells #[.slice aM xM.length cM, .slice aF (R.length + 1) cF, .slice aV xV.length cV, .slice aH xH.length cH] 25)).alloc (.cells #[.slice none 0 0, .slice none 0 0, .slice none 0 0, .slice none 0 0] 25)) = u at *
  obtain ⟨_, c0, c1, c2, c3, _, _, _, _⟩ := HB.out
  go_wp2_with fail
  refine (impl_NamOk (Nm.mk xM ((p : Int) :: R) xV xH) _ _ _ _ _ _ _ _ _ (HS.out.fr HF.out) HW.out).mono ?_
  rintro e u1 ⟨rfl, f⟩
  clear c0 c1 c2 c3
  replace HF := Lib.hid (HF.out.trans f)
  replace HB := Lib.hid (HB.out.fr f)
  replace HZ := Lib.hid (HZ.out.fr f)
  clear f
  rw [HO.out]
  go_wp2_with fail
  refine (impl_isReg (q : Int) _).mono ?_
  rintro e w' ⟨rfl, rfl⟩
  rw [H2.out]
  have hg0 := HZ.out.lt
  obtain ⟨_, c0, c1, c2, c3, _, _, _, _⟩ := HB.out
  go_wp2_with fail
  refine (impl_namesOf (Nm.mk xM ((p : Int) :: R) xV xH).M (Nm.mk xM ((p : Int) :: R) xV xH).F (Nm.mk xM ((p : Int) :: R) xV xH).V (Nm.mk xM ((p : Int) :: R) xV xH).H _ _ _ _ _ _ _ _ _ (HS.out.fr HF.out) HK.out.Ml HK.out.Fl HK.out.Vl HK.out.Hl).mono ?_
  rintro e un ⟨g, rfl, hg, nb, f⟩
  clear c0 c1 c2 c3
  have hge : w.heap.size + 1 < g := Nat.lt_of_lt_of_le HZ.out.lt hg
  have HN := Lib.hid nb
  replace HF := Lib.hid (HF.out.trans f)
  replace HZ := Lib.hid (HZ.out.fr f)
  clear HB nb f hg
  clear h3
  go_wp2_with fail
  refine (impl_take1 xM (ringP ((p : Int) :: R)) 0 R.length xV xH g q p _ HN.out hq hp20 rfl).mono ?_
  rintro e ut ⟨rfl, nb, b⟩
  replace HN := Lib.hid nb
  replace HF := Lib.hid (fr_new HF.out b (by omega))
  replace HZ := Lib.hid (HZ.out.but b (by simp; omega))
  rw [HMO.out]
  clear nb b
  go_upto_region 5 with fail
  have f := Fr.alloc ut (.cells #[.int .i64 q, .int .i64 p, .int .i64 mo] 79)
  have HX := Lib.hid (Box3.new ut (.int .i64 q) (.int .i64 p) (.int .i64 mo) 79 _ rfl)
  have hul : w.heap.size + 1 < ut.heap.size := HZ.out.lt
  replace HN := Lib.hid (HN.out.fr f)
  replace HF := Lib.hid (HF.out.trans f)
  replace HZ := Lib.hid (HZ.out.fr f)
  have hul2 : w.heap.size + 2 ≤ (ut.alloc (.cells #[.int .i64 q, .int .i64 p, .int .i64 mo] 79)).heap.size := by simp; omega
  clear f
  generalize ut.heap.size = b at HX hul ⊢
  generalize (ut.alloc (.cells #[.int .i64 q, .int .i64 p, .int .i64 mo] 79)) = u9 at *
  have e : ringL (ringP ((p : Int) :: R)) ((0 + 1) % 12) R.length = R := by rw [ringL_take]; have := ringL_P ((p : Int) :: R) (by have := HK.out.Fl; simpa using this); simp only [List.length_cons] at this; rw [this]; rfl
  have HCS := Lib.hid (fun (u : World) (hB : But [] u9 u) => impl_state (xM.set q p) (ringP ((p : Int) :: R)) ((0 + 1) % 12) R.length xV (xH.set p false) g u (HN.out.but hB (by simp)))
  rw [e] at HCS
  clear e
  rw [HTT.out] at HCS
  refine wp_region_lots 39 (fun i => if i = 7 then [w.heap.size + 1] else []) (fun _ _ => True) (fun i v u => match i with | 0 => v = .pointer (some ⟨g, 0, none⟩) | 1 => ∃ rM rF rV rH qM qF qV qH, v = .agg #[.slice rM TT.M.length qM, .slice rF TT.F.length qF, .slice rV TT.V.length qV, .slice rH TT.H.length qH] ∧ VcNm (w.heap.size + 2) u TT rM rF rV rH | 2 => v = .pointer (some ⟨b, 1, none⟩) | 3 => v = .int .i64 p | 4 => v = .pointer (some ⟨b, 2, none⟩) | 5 => v = .int .i64 mo | 6 => v = .bool true | 7 => ∃ rM rF rV rH qM qF qV qH, Box4 u (w.heap.size + 1) (.slice rM TT.M.length qM) (.slice rF TT.F.length qF) (.slice rV TT.V.length qV) (.slice rH TT.H.length qH) ∧ VcNm (w.heap.size + 2) u TT rM rF rV rH | 8 => v = .int .i64 p | 9 => v = .int .i64 mo | 10 => v = .bool true | _ => True) ?mono (by kernel_rfl) (by kernel_rfl) rfl (by kernel_rfl) trivial ?step ?fin
  case mono =>
    intro i j v u u' hij hsz h hB
    rcases j with _ | _ | _ | _ | _ | _ | _ | _ | _ | _ | _ | j
    · exact h
    · obtain ⟨rM, rF, rV, rH, qM, qF, qV, qH, e, V⟩ := h
      have hB2 : But [w.heap.size + 1] u u' := hB.mono (fun k hk _ => by by_cases y : i = 7; rw [if_pos y] at hk; exact hk; rw [if_neg y] at hk; cases hk)
      exact ⟨rM, rF, rV, rH, qM, qF, qV, qH, e, V.but hB2 (fun k hk hm => by have := V.blk k hk; have := List.mem_singleton.1 hm; omega)⟩
    · exact h
    · exact h
    · exact h
    · exact h
    · exact h
    · obtain ⟨rM, rF, rV, rH, qM, qF, qV, qH, B, V⟩ := h
      rw [if_neg hij] at hB
      exact ⟨rM, rF, rV, rH, qM, qF, qV, qH, B.but hB (by simp), V.but hB (fun k _ => by simp)⟩
    · exact h
    · exact h
    · exact h
    · trivial
  case step =>
    intro i o ho
    rcases i with _ | _ | _ | _ | _ | _ | _ | _ | _ | _ | _ | i
    · cases ho
      intro fu act u hW hB hsz hL hdep
      replace hB := hB [w.heap.size + 1] (fun j hj hd k hk => by
        by_cases y7 : j = 7
        · rw [if_pos y7] at hk; simp at hk; simp [hk]
        rw [if_neg y7] at hk
        cases hk)
      obtain ⟨ysl, ha, hy⟩ := hL.puts [32, 33, 34, 35, 36, 37, 38, 5, 6, 7] (by kernel_rfl)
      clear hdep hL hy
      simp only [List.foldl, List.setIfInBounds_toArray, List.set_cons_succ, List.set_cons_zero] at ha
      subst ha
      refine wpOp_step rfl (fun K hK => ?_)
      go_simp
      exact hK _ _ ⟨_, rfl, (fun h => by cases h), rfl, But.refl _ _, trivial⟩
    · cases ho
      intro fu act u hW hB hsz hL hdep
      replace hB := hB [] (fun j hj hd k hk => by
        by_cases x7 : j = 7
        · subst x7; exact (dep_no hd (by kernel_rfl)).elim
        rw [if_neg x7] at hk
        cases hk)
      have d0 := hdep { on := 0, ground := .data } (by simp) rfl _ rfl
      obtain ⟨ysl, ha, hy⟩ := hL.puts [32, 33, 34, 35, 36, 37, 38, 5, 6, 7] (by kernel_rfl)
      have e0 : ysl 32 = _ := (hy 32).symm.trans d0
      clear hdep hL hy d0
      simp only [List.foldl, List.setIfInBounds_toArray, List.set_cons_succ, List.set_cons_zero, e0] at ha
      subst ha
      clear e0
      refine wpOp_step rfl (fun K hK => ?_)
      go_simp
      refine (HCS.out u hB).mono ?_
      rintro e u' ⟨rM, rF, rV, rH, qM, qF, qV, qH, rfl, V, f⟩
      go_simp
      exact hK _ _ ⟨_, rfl, (fun h => by cases h), ⟨rM, rF, rV, rH, qM, qF, qV, qH, rfl, Rws.mono V (by have := hB.size; omega)⟩, But.of f, trivial⟩
    · cases ho
      intro fu act u hW hB hsz hL hdep
      replace hB := hB [w.heap.size + 1] (fun j hj hd k hk => by
        by_cases y7 : j = 7
        · rw [if_pos y7] at hk; simp at hk; simp [hk]
        rw [if_neg y7] at hk
        cases hk)
      obtain ⟨ysl, ha, hy⟩ := hL.puts [32, 33, 34, 35, 36, 37, 38, 5, 6, 7] (by kernel_rfl)
      clear hdep hL hy
      simp only [List.foldl, List.setIfInBounds_toArray, List.set_cons_succ, List.set_cons_zero] at ha
      subst ha
      refine wpOp_step rfl (fun K hK => ?_)
      go_simp
      exact hK _ _ ⟨_, rfl, (fun h => by cases h), rfl, But.refl _ _, trivial⟩
    · cases ho
      intro fu act u hW hB hsz hL hdep
      replace hB := hB [w.heap.size + 1] (fun j hj hd k hk => by
        by_cases y7 : j = 7
        · rw [if_pos y7] at hk; simp at hk; simp [hk]
        rw [if_neg y7] at hk
        cases hk)
      have d2 := hdep { on := 2, ground := .data } (by simp) rfl _ rfl
      obtain ⟨ysl, ha, hy⟩ := hL.puts [32, 33, 34, 35, 36, 37, 38, 5, 6, 7] (by kernel_rfl)
      have e2 : ysl 34 = _ := (hy 34).symm.trans d2
      clear hdep hL hy d2
      simp only [List.foldl, List.setIfInBounds_toArray, List.set_cons_succ, List.set_cons_zero, e2] at ha
      subst ha
      clear e2
      obtain ⟨_, a0, a1, a2, _, _, _⟩ := HX.out.but hB (by simp; omega)
      refine wpOp_step rfl (fun K hK => ?_)
      go_simp
      exact hK _ _ ⟨_, rfl, (fun h => by cases h), rfl, But.refl _ _, trivial⟩
    · cases ho
      intro fu act u hW hB hsz hL hdep
      replace hB := hB [w.heap.size + 1] (fun j hj hd k hk => by
        by_cases y7 : j = 7
        · rw [if_pos y7] at hk; simp at hk; simp [hk]
        rw [if_neg y7] at hk
        cases hk)
      obtain ⟨ysl, ha, hy⟩ := hL.puts [32, 33, 34, 35, 36, 37, 38, 5, 6, 7] (by kernel_rfl)
      clear hdep hL hy
      simp only [List.foldl, List.setIfInBounds_toArray, List.set_cons_succ, List.set_cons_zero] at ha
      subst ha
      refine wpOp_step rfl (fun K hK => ?_)
      go_simp
      exact hK _ _ ⟨_, rfl, (fun h => by cases h), rfl, But.refl _ _, trivial⟩
    · cases ho
      intro fu act u hW hB hsz hL hdep
      replace hB := hB [w.heap.size + 1] (fun j hj hd k hk => by
        by_cases y7 : j = 7
        · rw [if_pos y7] at hk; simp at hk; simp [hk]
        rw [if_neg y7] at hk
        cases hk)
      have d4 := hdep { on := 4, ground := .data } (by simp) rfl _ rfl
      obtain ⟨ysl, ha, hy⟩ := hL.puts [32, 33, 34, 35, 36, 37, 38, 5, 6, 7] (by kernel_rfl)
      have e4 : ysl 36 = _ := (hy 36).symm.trans d4
      clear hdep hL hy d4
      simp only [List.foldl, List.setIfInBounds_toArray, List.set_cons_succ, List.set_cons_zero, e4] at ha
      subst ha
      clear e4
      obtain ⟨_, a0, a1, a2, _, _, _⟩ := HX.out.but hB (by simp; omega)
      refine wpOp_step rfl (fun K hK => ?_)
      go_simp
      exact hK _ _ ⟨_, rfl, (fun h => by cases h), rfl, But.refl _ _, trivial⟩
    · cases ho
      intro fu act u hW hB hsz hL hdep
      replace hB := hB [w.heap.size + 1] (fun j hj hd k hk => by
        by_cases y7 : j = 7
        · rw [if_pos y7] at hk; simp at hk; simp [hk]
        rw [if_neg y7] at hk
        cases hk)
      obtain ⟨ysl, ha, hy⟩ := hL.puts [32, 33, 34, 35, 36, 37, 38, 5, 6, 7] (by kernel_rfl)
      clear hdep hL hy
      simp only [List.foldl, List.setIfInBounds_toArray, List.set_cons_succ, List.set_cons_zero] at ha
      subst ha
      refine wpOp_step rfl (fun K hK => ?_)
      go_simp
      exact hK _ _ ⟨_, rfl, (fun h => by cases h), rfl, But.refl _ _, trivial⟩
    · cases ho
      intro fu act u hW hB hsz hL hdep
      replace hB := hB [] (fun j hj hd k hk => by
        by_cases x7 : j = 7
        · exact absurd x7 hj
        rw [if_neg x7] at hk
        cases hk)
      have d1 := hdep { on := 1, ground := .data } (by simp) rfl _ rfl
      obtain ⟨ysl, ha, hy⟩ := hL.puts [32, 33, 34, 35, 36, 37, 38, 5, 6, 7] (by kernel_rfl)
      obtain ⟨rM, rF, rV, rH, qM, qF, qV, qH, h1, V1⟩ := d1
      have e1 : ysl 33 = .agg #[.slice rM TT.M.length qM, .slice rF TT.F.length qF, .slice rV TT.V.length qV, .slice rH TT.H.length qH] := (hy 33).symm.trans h1
      clear hdep hL hy h1
      simp only [List.foldl, List.setIfInBounds_toArray, List.set_cons_succ, List.set_cons_zero, e1] at ha
      subst ha
      clear e1
      have Bz := HZ.out.but hB (by simp)
      obtain ⟨_, z0, z1, z2, z3, zf0, zf1, zf2, zf3⟩ := HZ.out.but hB (by simp)
      refine wpOp_step rfl (fun K hK => ?_)
      go_simp
      have hst : But [w.heap.size + 1] u ((((u.setCell ⟨w.heap.size + 1, 0, none⟩ (.slice rM TT.M.length qM)).setCell ⟨w.heap.size + 1, 1, none⟩ (.slice rF TT.F.length qF)).setCell ⟨w.heap.size + 1, 2, none⟩ (.slice rV TT.V.length qV)).setCell ⟨w.heap.size + 1, 3, none⟩ (.slice rH TT.H.length qH)) := (But.refl _ _).set4 _ _ _ _ _ (.inl (by simp))
      exact hK _ _ ⟨_, rfl, (fun _ => rfl), ⟨rM, rF, rV, rH, qM, qF, qV, qH, Bz.set _ _ _ _, V1.but hst (fun k hk hm => by have := V1.blk k hk; have := List.mem_singleton.1 hm; omega)⟩, hst, trivial⟩
    · cases ho
      intro fu act u hW hB hsz hL hdep
      replace hB := hB [w.heap.size + 1] (fun j hj hd k hk => by
        by_cases y7 : j = 7
        · rw [if_pos y7] at hk; simp at hk; simp [hk]
        rw [if_neg y7] at hk
        cases hk)
      have d3 := hdep { on := 3, ground := .data } (by simp) rfl _ rfl
      obtain ⟨ysl, ha, hy⟩ := hL.puts [32, 33, 34, 35, 36, 37, 38, 5, 6, 7] (by kernel_rfl)
      have e3 : ysl 35 = _ := (hy 35).symm.trans d3
      clear hdep hL hy d3
      simp only [List.foldl, List.setIfInBounds_toArray, List.set_cons_succ, List.set_cons_zero, e3] at ha
      subst ha
      clear e3
      refine wpOp_step rfl (fun K hK => ?_)
      go_simp
      exact hK _ _ ⟨_, rfl, (fun h => by cases h), rfl, But.refl _ _, trivial⟩
    · cases ho
      intro fu act u hW hB hsz hL hdep
      replace hB := hB [w.heap.size + 1] (fun j hj hd k hk => by
        by_cases y7 : j = 7
        · rw [if_pos y7] at hk; simp at hk; simp [hk]
        rw [if_neg y7] at hk
        cases hk)
      have d5 := hdep { on := 5, ground := .data } (by simp) rfl _ rfl
      obtain ⟨ysl, ha, hy⟩ := hL.puts [32, 33, 34, 35, 36, 37, 38, 5, 6, 7] (by kernel_rfl)
      have e5 : ysl 37 = _ := (hy 37).symm.trans d5
      clear hdep hL hy d5
      simp only [List.foldl, List.setIfInBounds_toArray, List.set_cons_succ, List.set_cons_zero, e5] at ha
      subst ha
      clear e5
      refine wpOp_step rfl (fun K hK => ?_)
      go_simp
      exact hK _ _ ⟨_, rfl, (fun h => by cases h), rfl, But.refl _ _, trivial⟩
    · cases ho
      intro fu act u hW hB hsz hL hdep
      replace hB := hB [w.heap.size + 1] (fun j hj hd k hk => by
        by_cases y7 : j = 7
        · rw [if_pos y7] at hk; simp at hk; simp [hk]
        rw [if_neg y7] at hk
        cases hk)
      have d6 := hdep { on := 6, ground := .data } (by simp) rfl _ rfl
      obtain ⟨ysl, ha, hy⟩ := hL.puts [32, 33, 34, 35, 36, 37, 38, 5, 6, 7] (by kernel_rfl)
      have e6 : ysl 38 = _ := (hy 38).symm.trans d6
      clear hdep hL hy d6
      simp only [List.foldl, List.setIfInBounds_toArray, List.set_cons_succ, List.set_cons_zero, e6] at ha
      subst ha
      clear e6
      refine wpOp_step rfl (fun K hK => ?_)
      go_simp
      exact hK _ _ ⟨_, rfl, (fun h => by cases h), rfl, But.refl _ _, trivial⟩
    · exact absurd ho (by simp)
  case fin =>
    intro act u hW hsz hB hL hsf
    replace hB := hB [w.heap.size + 1] (fun j k hk => by
      by_cases y7 : j = 7
      · rw [if_pos y7] at hk; simp at hk; simp [hk]
      rw [if_neg y7] at hk
      cases hk)
    have d7 := hsf 7 _ rfl
    have d8 := hsf 8 _ rfl
    have d9 := hsf 9 _ rfl
    have d10 := hsf 10 _ rfl
    obtain ⟨ysl, ha, hy⟩ := hL.puts [32, 33, 34, 35, 36, 37, 38, 5, 6, 7] (by kernel_rfl)
    obtain ⟨rM, rF, rV, rH, qM, qF, qV, qH, B7, V7⟩ := d7
    have e8 : ysl 5 = _ := (hy 5).symm.trans d8
    have e9 : ysl 6 = _ := (hy 6).symm.trans d9
    have e10 : ysl 7 = _ := (hy 7).symm.trans d10
    clear hL hsf hy d8 d9 d10
    simp only [List.foldl, List.setIfInBounds_toArray, List.set_cons_succ, List.set_cons_zero, e8, e9, e10] at ha
    subst ha
    clear e8 e9 e10
    obtain ⟨_, y0, y1, y2, y3, _, _, _, _⟩ := B7
    have HV7 := Lib.hid V7
    have HFe := Lib.hid (show Fr w u from fr_but HF.out hB (fun k hk => by have := List.mem_singleton.1 hk; omega))
    clear hB V7
    go_wp2_with fail
    refine bodyPost_ret (v := .tuple #[.agg #[.slice rM TT.M.length qM, .slice rF TT.F.length qF, .slice rV TT.V.length qV, .slice rH TT.H.length qH], .int .i64 p, .int .i64 mo, .bool true]) (by simp [results, Try.results28, go_sem, y0, y1, y2, y3]) rfl ⟨rM, rF, rV, rH, qM, qF, qV, qH, rfl, Rws.mono HV7.out (by omega), HFe.out⟩
theorem impl_NamTake (x : Nm) (aM aF aV aH : Option Addr) (cM cF cV cH : Nat) (d : Int) (w : World) (h : SrcN w x aM aF aV aH) (hf : Few6 x) :
    Calls Try.prog 28 #[.agg #[.slice aM x.M.length cM, .slice aF x.F.length cF, .slice aV x.V.length cV, .slice aH x.H.length cH], .int .i64 d] w (TkP (takeT x d).1 (takeT x d).2.1 (takeT x d).2.2.1 (takeT x d).2.2.2 w) := by
  cases h1 : okN x
  · rw [show takeT x d = (nm0, 0, 0, false) by simp [takeT, h1]]
    exact impl_NamTake_1 x _ _ _ _ _ _ _ _ d w h hf h1
  · cases h2 : (decide (0 ≤ d) && decide (d < 8))
    · have hr : regB d = false := by simp [regB] at h2 ⊢; omega
      rw [show takeT x d = (nm0, 0, 0, false) by simp [takeT, hr]]
      exact impl_NamTake_2 x _ _ _ _ _ _ _ _ d w h hf h1 h2
    · by_cases h0 : d = 0
      · have hr : regB d = false := by simp [regB]; omega
        rw [show takeT x d = (nm0, 0, 0, false) by simp [takeT, hr]]
        exact impl_NamTake_3 x _ _ _ _ _ _ _ _ d w h hf h1 h2 (by simpa using h0)
      · have hb := reg6_bd h2
        have hr : regB d = true := by simp [regB]; omega
        have hd0 : (d == 0) = false := by simpa using h0
        by_cases h3 : x.F.length = 0
        · rw [show takeT x d = (x, 0, 0, false) by unfold takeT; rw [h1, hr]; simp [h3]]
          exact impl_NamTake_4 x _ _ _ _ _ _ _ _ d w h hf h1 h2 hd0 h3
        · obtain ⟨xM, xF, xV, xH⟩ := x
          obtain ⟨f0, R, rfl⟩ : ∃ f0 R, xF = f0 :: R := by
            cases xF with
            | nil => exact absurd rfl h3
            | cons f0 R => exact ⟨f0, R, rfl⟩
          have hp := (okN_ok h1).fp 0 (by simp)
          simp only [List.getD_cons_zero] at hp
          obtain ⟨p, rfl⟩ : ∃ p : Nat, f0 = p := ⟨f0.toNat, by omega⟩
          obtain ⟨q, rfl⟩ : ∃ q : Nat, d = q := ⟨d.toNat, by omega⟩
          rw [show takeT (Nm.mk xM ((p : Int) :: R) xV xH) q = (Nm.mk (xM.set q p) R xV (xH.set p false), (p : Int), xM.getD q 0, true) by unfold takeT; rw [h1, hr]; simp [takeG]]
          exact impl_NamTake_5 xM R xV xH p q _ _ _ _ _ _ _ _ _ _ w h hf h1 h2 hd0 rfl rfl

end Go.Proofs.Ytddllgjieccikaa
