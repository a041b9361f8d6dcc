/- Caches copied, of the model. A line written back and let go, of the model. -/
import Derived.Test.YtoacgjjpipdkjaaK6
import Derived.Test.YtoacgjjpipdkjaaNb0
namespace Go.Proofs.Ytoacgjjpipdkjaa
open Go.RowKit
set_option linter.unusedVariables false
set_option linter.unusedSimpArgs false
/-- A line's words have just as much room as their slice says. -/
def Rm (u : World) (l : La) : Prop := (l.n.W.length = 0 ∧ l.c = 0) ∨ ∃ g, l.a = some ⟨g, 0, none⟩ ∧ Ca u g l.n.W.length l.c ∧ 0 < l.n.W.length
theorem Rm.but {L : List Nat} {u u' : World} {l : La} (h : Rm u l) (f : But L u u') (hn : ∀ m, m ∈ wbk l → m ∉ L) : Rm u' l := by
  rcases h with h | ⟨g, e, c, h0⟩
  · exact .inl h
  · exact .inr ⟨g, e, c.but f (hn g (by show g ∈ bkS l.n.W.length l.a; rw [e]; exact bkS_mem (b := ⟨g, 0, none⟩) h0)), h0⟩
theorem Rm.fr {u u' : World} {l : La} (h : Rm u l) (f : Fr u u') : Rm u' l := h.but (L := []) (But.of f) (fun _ _ => by simp)
theorem Rc.rm {B : Nat} {u : World} {l : Ln} {ao : Option Addr} {c : Nat} (h : Rc B u l.W ao c) : Rm u ⟨l, ao, c⟩ := by
  rcases h with h | ⟨g, e, _, _, k, h0⟩
  · exact .inl h
  · exact .inr ⟨g, e, k, h0⟩
/-- A cache's rows have just as much room as their slices say. -/
structure RmC (u : World) (M : List Int) (X : List La) (aM : Option Addr) (cM cL : Nat) : Prop where
  le : M.length ≤ cM
  rM : (M.length = 0 ∧ cM = 0) ∨ ∃ g, aM = some ⟨g, 0, none⟩ ∧ Ca u g M.length cM ∧ 0 < M.length
  rW : ∀ i, i < X.length → Rm u (X.getD i la0)
  lL : X.length ≤ cL
theorem RmC.but {L : List Nat} {u u' : World} {M : List Int} {X : List La} {aM : Option Addr} {cM cL : Nat} (h : RmC u M X aM cM cL) (f : But L u u') (hM : ∀ m, m ∈ bkS M.length aM → m ∉ L) (hW : ∀ i, i < X.length → ∀ m, m ∈ wbk (X.getD i la0) → m ∉ L) : RmC u' M X aM cM cL := by
  refine ⟨h.le, ?_, fun i hi => (h.rW i hi).but f (hW i hi), h.lL⟩
  rcases h.rM with h | ⟨g, e, c, h0⟩
  · exact .inl h
  · exact .inr ⟨g, e, c.but f (hM g (by rw [e]; exact bkS_mem (b := ⟨g, 0, none⟩) h0)), h0⟩
theorem RmC.fr {u u' : World} {M : List Int} {X : List La} {aM : Option Addr} {cM cL : Nat} (h : RmC u M X aM cM cL) (f : Fr u u') : RmC u' M X aM cM cL := h.but (L := []) (But.of f) (fun _ _ => by simp) (fun _ _ _ _ => by simp)
theorem RmC.nil (u : World) : RmC u [] [] none 0 0 := ⟨Nat.le_refl _, .inl ⟨rfl, rfl⟩, fun i hi => absurd hi (Nat.not_lt_zero _), Nat.le_refl _⟩
/-- Behind a copy of a cache: it lies in new rows. -/
def CpK (M : List Int) (L : List Ln) (w : World) (e : Ending) (w' : World) : Prop := ∃ X gM gL cM cL, e = .returned (caV (some ⟨gM, 0, none⟩) (some ⟨gL, 0, none⟩) M X cM cL) ∧ lns X = L ∧ OwK w.heap.size w' M X gM gL ∧ RmC w' M X (some ⟨gM, 0, none⟩) cM cL ∧ Fr w w'
/-- k lines are copied: the box of the new cache is block g3. -/
structure CpL (B g3 : Nat) (m0 : Value) (L : List Ln) (k : Nat) (Y : List La) (aY : Option Addr) (cY : Nat) (wr : World) : Prop where
  len : Y.length = k
  eq : lns Y = L.take k
  box : Box2 wr g3 m0 (.slice aY Y.length cY)
  row : RcL B wr Y aY cY
  wd : WdO B wr Y
  ap : ∀ g, aY = some ⟨g, 0, none⟩ → ∀ i, i < Y.length → g ∉ wbk (Y.getD i la0)
  rm : ∀ i, i < Y.length → Rm wr (Y.getD i la0)
theorem RcL.bk {B : Nat} {u : World} {X : List La} {ao : Option Addr} {c : Nat} (h : RcL B u X ao c) (g : Nat) (e : ao = some ⟨g, 0, none⟩) : B ≤ g ∧ g < u.heap.size := by
  rcases h with ⟨_, _, h⟩ | ⟨g', e', hB, r, _⟩
  · rw [h] at e; cases e
  · rw [e'] at e
    cases e
    exact ⟨hB, r.lt⟩
theorem getD_app (Y : List La) (y : La) (i : Nat) : (Y ++ [y]).getD i la0 = if i < Y.length then Y.getD i la0 else if i = Y.length then y else la0 := by
  simp only [List.getD_eq_getElem?_getD, List.getElem?_append]
  by_cases h : i < Y.length
  · simp [h]
  · rw [if_neg h, if_neg h]
    by_cases e : i = Y.length
    · simp [e]
    · rw [if_neg e, List.getElem?_eq_none (by simp; omega)]
      rfl
/-- One more. -/
theorem CpL.next {B g3 : Nat} {m0 : Value} {L : List Ln} {k : Nat} {Y : List La} {aY : Option Addr} {cY : Nat} {u u' : World} (h : CpL B g3 m0 L k Y aY cY u) (y : La) (hk : k < L.length) (hy : L.getD k ln0 = y.n)
    (g c' : Nat) (hB : g3 < B) (hwy : Vc B u y.n.W.length (ivl y.n.W) y.a) (hry : Rm u y) (hnew : ∀ m, m ∈ wbk y → ∀ i, i < Y.length → m ∉ wbk (Y.getD i la0)) (hnewR : ∀ b, aY = some ⟨b, 0, none⟩ → b ∉ wbk y)
    (r : RoL u' g (Y ++ [y])) (ca : CaL u' g (Y ++ [y]).length c') (hg : B ≤ g) (hgo : aY = some ⟨g, 0, none⟩ ∨ u.heap.size ≤ g) (f : But (bkS Y.length aY) u u') (hB3 : B ≤ u.heap.size) :
    CpL B g3 m0 L (k + 1) (Y ++ [y]) (some ⟨g, 0, none⟩) c' (u'.setCell ⟨g3, 1, none⟩ (.slice (some ⟨g, 0, none⟩) (Y.length + 1) c')) := by
  have f3 : But [g3] u' (u'.setCell ⟨g3, 1, none⟩ (.slice (some ⟨g, 0, none⟩) (Y.length + 1) c')) := (But.refl _ _).set _ _ _ (.inl (by simp))
  have hrb : ∀ m, m ∈ bkS Y.length aY → aY = some ⟨m, 0, none⟩ := fun m hm => by
    obtain ⟨h0, b, e, eb⟩ := mem_bkS hm
    rcases h.row with ⟨z, _⟩ | ⟨g', e', _⟩
    · omega
    · rw [e'] at e
      cases e
      rw [e', ← eb]
  have hlow : ∀ m, m ∈ bkS Y.length aY → B ≤ m := fun m hm => (h.row.bk m (hrb m hm)).1
  have h3 : g3 ∉ bkS Y.length aY := fun hm => by have := hlow _ hm; omega
  have hn1 : (Y ++ [y]).length = Y.length + 1 := by simp
  refine ⟨by rw [hn1, h.len], ?_, ?_, .inr ⟨g, rfl, hg, r.but f3 (by simp; omega), ca.but f3 (by simp; omega), by simp⟩, ⟨fun i hi => ?_, fun i j hi hj hij m h1 h2 => ?_⟩, fun b hb i hi hm => ?_, fun i hi => ?_⟩
  · rw [List.take_add_one, show L[k]? = some y.n by rw [← hy, List.getD_eq_getElem?_getD, List.getElem?_eq_getElem hk]; rfl, ← h.eq]
    simp [lns]
  · have := (h.box.but f h3).s1 (.slice (some ⟨g, 0, none⟩) (Y.length + 1) c')
    rw [hn1]; exact this
  · rw [getD_app]
    split
    · rename_i hi'
      refine ((h.wd.wd i hi').but' f (fun m hm hm' => h.ap m (hrb m hm') i hi' hm)).but' f3 (fun m hm hm' => ?_)
      have := (h.wd.bk i hi' m hm).1
      simp at hm'; omega
    · rw [if_pos (by rw [hn1] at hi; omega)]
      refine (hwy.but' f (fun m hm hm' => hnewR m (hrb m hm') hm)).but' f3 (fun m hm hm' => ?_)
      have := (hwy.bk m hm).1
      simp at hm'; omega
  · rw [hn1] at hi hj
    rw [getD_app] at h1 h2
    split at h1
    · rename_i hi'
      split at h2
      · rename_i hj'
        exact h.wd.ap i j hi' hj' hij m h1 h2
      · rw [if_pos (by omega)] at h2
        exact hnew m h2 i hi' h1
    · rw [if_pos (by omega)] at h1
      split at h2
      · rename_i hj'
        exact hnew m h1 j hj' h2
      · omega
  · cases hb
    rw [hn1] at hi
    rw [getD_app] at hm
    split at hm
    · rename_i hi'
      rcases hgo with e | e
      · exact h.ap _ e i hi' hm
      · have := (h.wd.bk i hi' _ hm).2; omega
    · rw [if_pos (by omega)] at hm
      rcases hgo with e | e
      · exact hnewR _ e hm
      · have := (hwy.bk _ hm).2; omega
  · rw [getD_app]
    split
    · rename_i hi'
      refine ((h.rm i hi').but f (fun m hm hm' => h.ap m (hrb m hm') i hi' hm)).but f3 (fun m hm hm' => ?_)
      have := (h.wd.bk i hi' m hm).1
      simp at hm'; omega
    · rw [if_pos (by rw [hn1] at hi; omega)]
      refine (hry.but f (fun m hm hm' => hnewR m (hrb m hm') hm)).but f3 (fun m hm hm' => ?_)
      have := (hwy.bk m hm).1
      simp at hm'; omega
theorem But.far {L L' : List Nat} {a b c : World} (h : But L a b) (k : But L' b c) (hL : ∀ m, m ∈ L' → a.heap.size ≤ m) : But L a c :=
  ⟨k.os.trans h.os, k.tape.trans h.tape, k.output.trans h.output, Nat.le_trans h.size k.size, fun i hi hn => (k.block i (Nat.lt_of_lt_of_le hi h.size) (fun hm => by have := hL i hm; omega)).trans (h.block i hi hn)⟩
set_option maxRecDepth 100000 in
set_option maxHeartbeats 4000000 in
theorem spec_l7Copy (M : List Int) (X : List La) (aM aL : Option Addr) (cM cL : Nat) (w : World) (h : SrcC w M X aM aL) (hM : M.length = 256) (hX : X.length = 4) (hW : ∀ i, i < 4 → (X.getD i la0).n.W.length ≤ 1000) :
    Calls Try.prog 72 #[caV aM aL M X cM cL] w (CpK M (lns X) w) := by
  have F0 : Fr w ((w.alloc (.cells #[.slice aM M.length cM, .slice aL X.length cL] 30)).alloc (.cells #[.slice none 0 0, .slice none 0 0] 30)) := by (repeat' first | (with_reducible exact Below.refl _ _) | (with_reducible assumption) | ((with_reducible refine Below.setCell ?_ ?hb _); (case hb => first | exact Nat.le_refl _ | (simp; done) | (simp; omega) | omega)) | ((with_reducible refine Below.alloc ?_ ?hb _); (case hb => first | exact Nat.le_refl _ | (simp; done) | (simp; omega) | omega)) | (with_reducible refine Below.drew ?_))
  have HF := Lib.hid F0
  have HX1 := Lib.hid ((Box2.new w (.slice aM M.length cM) (.slice aL X.length cL) 30 _ rfl).fr (Fr.alloc _ (.cells #[.slice none 0 0, .slice none 0 0] 30)))
  have HX2 := Lib.hid (Box2.new (w.alloc (.cells #[.slice aM M.length cM, .slice aL X.length cL] 30)) (.slice none 0 0) (.slice none 0 0) 30 (w.heap.size + 1) (by simp))
  have HS := Lib.hid h
  have HM := Lib.hid hM
  have HXL := Lib.hid hX
  have HW := Lib.hid hW
  have hs0 : w.heap.size + 2 ≤ ((w.alloc (.cells #[.slice aM M.length cM, .slice aL X.length cL] 30)).alloc (.cells #[.slice none 0 0, .slice none 0 0] 30)).heap.size := by simp
  unfold caV
  clear F0 h hM hW hX
  go_enter Try.func72, Try.ntmps72
  go_upto_region 1 with fail
  generalize ((w.alloc (.cells #[.slice aM M.length cM, .slice aL X.length cL] 30)).alloc (.cells #[.slice none 0 0, .slice none 0 0] 30)) = u0 at *
  obtain ⟨_, c0, c1, _, _⟩ := HX1.out
  have hsrc : Hid (Src (u0.alloc (.cells #[] 3)) M.length (ivl M) aM) := Lib.hid ((HS.out.M.fr HF.out).fr (Fr.alloc _ _))
  go_upto_region 2 with (at_builtin; refine wpList_plain rfl fun K hK => wp_append_cp _ _ rfl _ rfl M aM cM rfl hsrc.out (by have := HM.out; omega) ?_; intro ao c u1 hr hcp f1; have HR := Lib.hid hr; have HCap := Lib.hid hcp; have F1 := Lib.hid f1; clear hr hcp f1; refine hK _ _ ?_)
  have hz1 : (u0.alloc (.cells #[] 3)).heap.size = u0.heap.size + 1 := by simp
  rcases HR.out with ⟨hz, _⟩ | ⟨gM, rfl, hgB, roM, hcaM, _⟩
  · exfalso; have := HM.out; omega
  rw [hz1] at hgB
  have hsz1 := F1.out.size
  rw [hz1] at hsz1
  have hgl := roM.lt
  have FA : Fr u1 (u1.alloc (.cells #[.slice (some ⟨gM, 0, none⟩) M.length c, .slice none 0 0] 30)) := Fr.alloc _ _
  have FB := Lib.hid (Fr.trans (Fr.trans (Fr.alloc u0 (.cells #[] 3)) F1.out) FA)
  have HRM := Lib.hid (roM.fr FA)
  have HCaM := Lib.hid (hcaM.but (L := []) (But.of FA) (by simp))
  have HX3 := Lib.hid (Box2.new u1 (.slice (some ⟨gM, 0, none⟩) M.length c) (.slice none 0 0) 30 _ rfl)
  have hz2 : u1.heap.size < (u1.alloc (.cells #[.slice (some ⟨gM, 0, none⟩) M.length c, .slice none 0 0] 30)).heap.size := by simp
  clear HR roM FA hz1 F1 hsrc c0 c1 hcaM
  generalize (u1.alloc (.cells #[.slice (some ⟨gM, 0, none⟩) M.length c, .slice none 0 0] 30)) = u2 at *
  generalize hg3 : u1.heap.size = g3 at *
  clear hg3
  replace HX1 := Lib.hid (HX1.out.fr FB.out)
  replace HX2 := Lib.hid (HX2.out.fr FB.out)
  replace HF := Lib.hid (Fr.trans HF.out FB.out)
  clear FB
  have C0 : Hid (CpL u2.heap.size g3 (.slice (some ⟨gM, 0, none⟩) M.length c) (lns X) 0 [] none 0 u2) := Lib.hid ⟨rfl, rfl, HX3.out, .inl ⟨rfl, rfl, rfl⟩, ⟨fun i hi => absurd hi (Nat.not_lt_zero _), fun i j hi => absurd hi (Nat.not_lt_zero _)⟩, fun g hg => (by cases hg), fun i hi => absurd hi (Nat.not_lt_zero _)⟩
  obtain ⟨B, hB⟩ : ∃ B, B = u2.heap.size := ⟨_, rfl⟩
  have HBz := Lib.hid hB
  rw [← hB] at C0 hz2
  have hB2 : B ≤ u2.heap.size := Nat.le_of_eq hB
  clear hB HX3
  go_wp2_with fail
  go_loopw [4] (fun i wr => ∃ (k : Nat) (Y : List La) (aY : Option Addr) (cY : Nat), k ≤ 4 ∧ i = .int .i64 k ∧ CpL B g3 (.slice (some ⟨gM, 0, none⟩) M.length c) (lns X) k Y aY cY wr ∧ But [g3] u2 wr) (fun i _ => 4 - (intOf i).toNat)
  case atStart => exact ⟨0, [], none, 0, by omega, rfl, C0.out, But.refl _ _⟩
  case round =>
    obtain ⟨k, Y, aY, cY, hk, rfl, hC, hb⟩ := hrel
    have HC := Lib.hid hC
    have HBt := Lib.hid hb
    have hszr := hb.size
    have hf0 : Fr w wr := fr_but HF.out hb (fun m hm => by simp at hm; omega)
    have HF0 := Lib.hid hf0
    have HX1r := Lib.hid (HX1.out.but hb (by simp; omega))
    have HX3r := Lib.hid hC.box
    obtain ⟨_, b0, b1, _, _⟩ := HX1r.out
    by_cases hlt : k < 4
    · have hS := HS.out.fr hf0
      obtain ⟨g, o, rfl, hgl2, hrg⟩ := hS.L.at0 (by rw [HXL.out]; decide)
      obtain ⟨d0, d1, d2, d3⟩ := line_at hrg k (by rw [HXL.out]; exact hlt)
      have HWd := Lib.hid (hS.L.wd k (by rw [HXL.out]; exact hlt))
      have HWn := Lib.hid (HW.out k hlt)
      have HLk := Lib.hid (lns_get X k)
      have hkX : (k : Int) < (X.length : Int) := by have := HXL.out; omega
      have hk0 : (0 : Int) ≤ (k : Int) := Int.natCast_nonneg _
      clear hC hb hS hrg hf0
      generalize hl : X.getD k la0 = l at *
      clear hl
      have X5 : Hid (Box4 (wr.alloc (.cells #[.bool l.n.u, .int .i64 l.n.p, .bool l.n.d, .slice l.a l.n.W.length l.c] 59)) wr.heap.size (.bool l.n.u) (.int .i64 l.n.p) (.bool l.n.d) (.slice l.a l.n.W.length l.c)) := Lib.hid (Box4.new _ _ _ _ _ _ _ rfl)
      have hsrc : Hid (Src ((wr.alloc (.cells #[.bool l.n.u, .int .i64 l.n.p, .bool l.n.d, .slice l.a l.n.W.length l.c] 59)).alloc (.cells #[] 3)) l.n.W.length (ivl l.n.W) l.a) := Lib.hid ((HWd.out.fr (Fr.alloc _ _)).fr (Fr.alloc _ _))
      go_upto_region 7 with (at_builtin; refine wpList_plain rfl fun K hK => wp_append_cp _ _ rfl _ rfl l.n.W l.a l.c rfl hsrc.out (by have := HWn.out; omega) ?_; intro ao' c' u3 hr hcp f1; have HR := Lib.hid hr; have F1 := Lib.hid f1; have X6 := Lib.hid ((X5.out.fr (Fr.alloc _ (.cells #[] 3))).fr f1); obtain ⟨_, y0, y1, y2, y3, q0, q1, q2, q3⟩ := X6.out; clear hr hcp f1; refine hK _ _ ?_)
      clear y0 y1 y2 y3 q0 q1 q2 q3 d0 d1 d2 d3 hsrc b0 b1
      have hz5 : ((wr.alloc (.cells #[.bool l.n.u, .int .i64 l.n.p, .bool l.n.d, .slice l.a l.n.W.length l.c] 59)).alloc (.cells #[] 3)).heap.size = wr.heap.size + 1 + 1 := by simp
      have FA : Fr wr u3 := Fr.trans (Fr.trans (Fr.alloc _ _) (Fr.alloc _ _)) F1.out
      have hs3 := F1.out.size
      rw [hz5] at hs3
      replace HR := Lib.hid (show Rc (wr.heap.size + 1 + 1) u3 l.n.W ao' c' by have := HR.out; rwa [hz5] at this)
      clear hz5 F1 X5 HWd
      have hst : But [wr.heap.size] u3 (u3.setCell ⟨wr.heap.size, 3, none⟩ (.slice ao' l.n.W.length c')) := (But.refl _ _).set _ _ _ (.inl (by simp))
      have X7 := Lib.hid (X6.out.t3 (.slice ao' l.n.W.length c'))
      have RM7 : Hid (Rm (u3.setCell ⟨wr.heap.size, 3, none⟩ (.slice ao' l.n.W.length c')) ⟨l.n, ao', c'⟩) := Lib.hid (Rc.rm (HR.out.but hst (fun k hk => by simp at hk; omega)))
      have V7 : Hid (Vc (wr.heap.size + 1) (u3.setCell ⟨wr.heap.size, 3, none⟩ (.slice ao' l.n.W.length c')) l.n.W.length (ivl l.n.W) ao') := Lib.hid ((HR.out.vc.mono (by omega)).but' hst (fun m hm hx => by have := (HR.out.vc.bk m hm).1; simp at hx; omega))
      have B7 : Hid (But [g3] u2 (u3.setCell ⟨wr.heap.size, 3, none⟩ (.slice ao' l.n.W.length c'))) := Lib.hid ((HBt.out.trans (But.of FA)).set _ _ _ (.inr (by omega)))
      have BW : Hid (But [] wr (u3.setCell ⟨wr.heap.size, 3, none⟩ (.slice ao' l.n.W.length c'))) := Lib.hid ((But.of FA).set _ _ _ (.inr (Nat.le_refl _)))
      have hz4 : wr.heap.size + 1 + 1 ≤ (u3.setCell ⟨wr.heap.size, 3, none⟩ (.slice ao' l.n.W.length c')).heap.size := by simpa using hs3
      clear HR FA hst X6 hs3
      generalize (u3.setCell ⟨wr.heap.size, 3, none⟩ (.slice ao' l.n.W.length c')) = u4 at *
      obtain ⟨y, hy⟩ : ∃ y : La, y = ⟨l.n, ao', c'⟩ := ⟨_, rfl⟩
      have HRow := Lib.hid (show RcL B u4 Y aY cY from HC.out.row.but BW.out (fun g _ => by simp))
      have HB3 := Lib.hid (HC.out.box.but BW.out (by simp))
      obtain ⟨_, x0, x1, x2, x3, _, _, _, _⟩ := X7.out
      obtain ⟨_, b0, b1, q0, q1⟩ := HB3.out
      have hBr : Hid (B ≤ wr.heap.size) := Lib.hid (by omega)
      have hYl : Hid (Y.length ≤ 1000) := Lib.hid (by have := HC.out.len; omega)
      have A8 : Hid (RcL B (u4.alloc (.cells #[.bool l.n.u, .int .i64 l.n.p, .bool l.n.d, .slice ao' l.n.W.length c'] 59)) Y aY cY) := Lib.hid (HRow.out.fr (Fr.alloc _ _))
      have C8 : Hid (∀ j v, (lac ⟨l.n, ao', c'⟩)[j]? = some v → (u4.alloc (.cells #[.bool l.n.u, .int .i64 l.n.p, .bool l.n.d, .slice ao' l.n.W.length c'] 59)).cell? ⟨u4.heap.size, j, none⟩ = some v) := Lib.hid (fun j v hv => by
        rw [(alloc_at u4 _ _ _ rfl j).1]; simpa [lac] using hv)
      have S8 : Hid (B ≤ (u4.alloc (.cells #[.bool l.n.u, .int .i64 l.n.p, .bool l.n.d, .slice ao' l.n.W.length c'] 59)).heap.size) := Lib.hid (by simp; have := hBr.out; omega)
      have N3 : Hid (g3 ∉ bkS Y.length aY) := Lib.hid (fun hm => by
        obtain ⟨h0, b, e, eb⟩ := mem_bkS hm
        rcases HRow.out with ⟨z, _⟩ | ⟨g', e', hB', _⟩
        · omega
        · rw [e'] at e
          cases e
          simp only at eb
          omega)
      go_wp2_with (at_builtin; refine wpList_plain rfl fun K hK => wp_append_rcL _ _ rfl B Y aY cY rfl A8.out ⟨l.n, ao', c'⟩ u4.heap.size rfl C8.out hYl.out S8.out ?_; intro gY cY' u5 hr hca hgB hgo hbt; have R9 := Lib.hid hr; have A9 := Lib.hid hca; have G9 := Lib.hid hgo; have T9 := Lib.hid hbt; have B9 := Lib.hid ((HB3.out.fr (Fr.alloc _ _)).but hbt N3.out); obtain ⟨_, p0, p1, r0, r1⟩ := B9.out; clear hr hca hgo hbt; refine hK _ _ ?_)
      clear p0 p1 r0 r1 b0 b1 q0 q1 x0 x1 x2 x3
      go_roundw
      case rel =>
        have hz8 : (u4.alloc (.cells #[.bool l.n.u, .int .i64 l.n.p, .bool l.n.d, .slice ao' l.n.W.length c'] 59)).heap.size = u4.heap.size + 1 := by simp
        have FA : Fr u4 (u4.alloc (.cells #[.bool l.n.u, .int .i64 l.n.p, .bool l.n.d, .slice ao' l.n.W.length c'] 59)) := Fr.alloc _ _
        have hC8 : CpL B g3 (.slice (some ⟨gM, 0, none⟩) M.length c) (lns X) k Y aY cY (u4.alloc (.cells #[.bool l.n.u, .int .i64 l.n.p, .bool l.n.d, .slice ao' l.n.W.length c'] 59)) :=
          ⟨HC.out.len, HC.out.eq, HB3.out.fr FA, A8.out, (HC.out.wd.but BW.out (fun _ _ _ _ => by simp)).fr FA, HC.out.ap, fun i hi => ((HC.out.rm i hi).but BW.out (fun _ _ => by simp)).fr FA⟩
        refine ⟨k + 1, Y ++ [⟨l.n, ao', c'⟩], some ⟨gY, 0, none⟩, cY', by omega, by go_num, ?_, ?_⟩
        · have hN := hC8.next ⟨l.n, ao', c'⟩ (by simp; have := HXL.out; omega) HLk.out gY cY' hz2 ((V7.out.mono (by have := hBr.out; omega)).fr FA) (RM7.out.fr FA) (fun m hm i hi hm' => ?_) (fun b hb hm => ?_) R9.out A9.out hgB G9.out T9.out S8.out
          · exact hN
          · have h1 := (V7.out.bk m hm).1
            have h2 := (HC.out.wd.bk i hi m hm').2
            omega
          · have h1 := (V7.out.bk b hm).1
            have h2 := (HC.out.row.bk b hb).2
            omega
        · refine But.set (L := [g3]) ((B7.out.trans (But.of FA)).far T9.out (fun m hm => ?_)) _ _ _ (.inl (by simp))
          obtain ⟨h0, b, e, eb⟩ := mem_bkS hm
          rcases HRow.out with ⟨z, _⟩ | ⟨g', e', hB', _⟩
          · omega
          · rw [e'] at e
            cases e
            simp only at eb
            have := HBz.out
            omega
      case measure => simp [intOf]; omega
    · have hge : ¬ (k : Int) < (X.length : Int) := by have := HXL.out; omega
      obtain rfl : k = 4 := by omega
      have HX2r := Lib.hid (HX2.out.but hb (by simp; omega))
      have HRMr := Lib.hid (HRM.out.but hb (by simp; omega))
      have HCar := Lib.hid (HCaM.out.but hb (by simp; omega))
      obtain ⟨_, x0, x1, _, _⟩ := HX3r.out
      obtain ⟨_, z0, z1, q0, q1⟩ := HX2r.out
      have hYl := HC.out.len
      rcases HC.out.row with ⟨hz, _⟩ | ⟨gY, rfl, hgB3, roY, hcaY, _⟩
      · omega
      have HlY := Lib.hid (show Y.length ≤ cY by obtain ⟨_, _, _, h3, _⟩ := hcaY; exact h3)
      clear hcaY
      have HRY := Lib.hid roY
      have HYl := Lib.hid hYl
      clear hC hb hf0 roY hYl
      go_wp2
      have hst : But [w.heap.size + 1] wr ((wr.setCell ⟨w.heap.size + 1, 0, none⟩ (.slice (some ⟨gM, 0, none⟩) M.length c)).setCell ⟨w.heap.size + 1, 1, none⟩ (.slice (some ⟨gY, 0, none⟩) Y.length cY)) := (But.refl _ _).set2 _ _ _ (.inl (by simp))
      have HX2n := HX2r.out.set (.slice (some ⟨gM, 0, none⟩) M.length c) (.slice (some ⟨gY, 0, none⟩) Y.length cY)
      refine bodyPost_ret (v := caV (some ⟨gM, 0, none⟩) (some ⟨gY, 0, none⟩) M Y c cY) (by simp [results, Try.results72, go_sem, HX2n.c0, HX2n.c1]) rfl ?_
      refine ⟨Y, gM, gY, c, cY, rfl, ?_, ⟨by omega, HRMr.out.but hst (by simp; omega), ⟨by omega, HRY.out.but hst (by simp; omega), (HC.out.wd.but hst (fun i hi m hm hx => ?_)).mono (by omega), fun i hi => HC.out.ap gY rfl i hi⟩, by omega, fun i hi hm => ?_⟩, ⟨HCap.out, .inr ⟨gM, rfl, HCar.out.but hst (by simp; omega), by have := HM.out; omega⟩, fun i hi => (HC.out.rm i hi).but hst (fun m hm hx => by have := (HC.out.wd.bk i hi m hm).1; simp at hx; omega), HlY.out⟩, fr_but HF0.out hst (fun m hm => by simp at hm; omega)⟩
      · rw [HC.out.eq, List.take_of_length_le (by simp; have := HXL.out; omega)]
      · have := (HC.out.wd.bk i hi m hm).1
        simp at hx
        omega
      · have := (HC.out.wd.bk i hi gM hm).1
        omega

theorem set_far {w : World} {g b i j : Nat} {v : Value} (h : b ≠ g) : (w.setCell ⟨g, i, none⟩ v).drew.cell? ⟨b, j, none⟩ = w.cell? ⟨b, j, none⟩ := by
  show (w.setCell ⟨g, i, none⟩ v).cell? ⟨b, j, none⟩ = _
  exact World.cell?_setCell_other _ _ _ _ (by simp [h])
/-- m is a block of the cache. -/
def KB (X : List La) (gM gL m : Nat) : Prop := m = gM ∨ m = gL ∨ ∃ i, i < X.length ∧ m ∈ wbk (X.getD i la0)
/-- Behind a call that turns a cache in its place. -/
def TurnK (B gM gL cM cL : Nat) (X0 : List La) (c : Ch) (w : World) (e : Ending) (w' : World) : Prop := ∃ X, e = .returned (caV (some ⟨gM, 0, none⟩) (some ⟨gL, 0, none⟩) c.M X cM cL) ∧ lns X = c.L ∧ OwK B w' c.M X gM gL ∧ But [gM, gL] w w' ∧ ∀ m, KB X gM gL m → KB X0 gM gL m ∨ w.heap.size ≤ m
theorem OwK.lt {B : Nat} {u : World} {M : List Int} {X : List La} {gM gL : Nat} (h : OwK B u M X gM gL) : ∀ m, KB X gM gL m → B ≤ m ∧ m < u.heap.size := fun m hm => by
  rcases hm with rfl | rfl | ⟨i, hi, hm⟩
  · exact ⟨h.b, h.M.lt⟩
  · exact ⟨h.L.b, h.L.r.lt⟩
  · exact h.L.w.bk i hi m hm
theorem OwK.but' {B : Nat} {L : List Nat} {u u' : World} {M : List Int} {X : List La} {gM gL : Nat} (h : OwK B u M X gM gL) (f : But L u u') (hL : ∀ m, KB X gM gL m → m ∉ L) : OwK B u' M X gM gL :=
  ⟨h.b, h.M.but f (hL gM (.inl rfl)), h.L.but f (hL gL (.inr (.inl rfl))) (fun i hi m hm => hL m (.inr (.inr ⟨i, hi, hm⟩))), h.ap, h.aw⟩
theorem kb_zero {X : List La} {gM gL m k : Nat} (h : KB (X.set k la0) gM gL m) : KB X gM gL m := by
  rcases h with h | h | ⟨i, hi, hm⟩
  · exact .inl h
  · exact .inr (.inl h)
  · rw [List.length_set] at hi
    rw [getD_setA] at hm
    split at hm
    · rw [show wbk la0 = [] by simp [bkS]] at hm; cases hm
    · exact .inr (.inr ⟨i, hi, hm⟩)
theorem drew_cell (v : World) (a : Addr) : v.drew.cell? a = v.cell? a := rfl
theorem la0_line : lav la0 = .agg #[.bool false, .int .i64 0, .bool false, .slice none 0 0] := rfl
theorem la0_wbk : wbk la0 = [] := by simp [bkS]
theorem OwK.zero {B : Nat} {u : World} {M : List Int} {X : List La} {gM gL : Nat} (h : OwK B u M X gM gL) (k : Nat) (hk : k < X.length) : OwK B (u.setCells gL (k * 4) (lac la0)) M (X.set k la0) gM gL :=
  h.setL k la0 hk (Vc.nil _ _ _ _) (by rw [la0_wbk]; simp) (by rw [la0_wbk]; simp) (fun i _ _ m hm => by rw [la0_wbk] at hm; cases hm)
set_option maxRecDepth 100000 in
set_option maxHeartbeats 4000000 in
theorem spec_l7Back (B : Nat) (M : List Int) (X : List La) (gM gL cM cL : Nat) (k : Nat) (w : World) (h : OwK B w M X gM gL) (ho : OkC ⟨M, lns X⟩) (hk : k < 4) (hB : B ≤ w.heap.size) :
    Calls Try.prog 99 #[caV (some ⟨gM, 0, none⟩) (some ⟨gL, 0, none⟩) M X cM cL, .int .i64 (k : Int)] w (TurnK B gM gL cM cL X (backC ⟨M, lns X⟩ k) w) := by
  have hXL : X.length = 4 := by have := ho.Ll; simpa using this
  have hgM := h.M.lt
  have hgL := h.L.r.lt
  have F0 : Fr w ((w.alloc (.cells #[.slice (some ⟨gM, 0, none⟩) M.length cM, .slice (some ⟨gL, 0, none⟩) X.length cL] 30)).alloc (.cells #[.slice none 0 0, .slice none 0 0] 30)) := by (repeat' first | (with_reducible exact Below.refl _ _) | (with_reducible assumption) | ((with_reducible refine Below.setCell ?_ ?hb _); (case hb => first | exact Nat.le_refl _ | (simp; done) | (simp; omega) | omega)) | ((with_reducible refine Below.alloc ?_ ?hb _); (case hb => first | exact Nat.le_refl _ | (simp; done) | (simp; omega) | omega)) | (with_reducible refine Below.drew ?_))
  have HF := Lib.hid F0
  have HX1 := Lib.hid ((Box2.new w (.slice (some ⟨gM, 0, none⟩) M.length cM) (.slice (some ⟨gL, 0, none⟩) X.length cL) 30 _ rfl).fr (Fr.alloc _ (.cells #[.slice none 0 0, .slice none 0 0] 30)))
  have HX2 := Lib.hid (Box2.new (w.alloc (.cells #[.slice (some ⟨gM, 0, none⟩) M.length cM, .slice (some ⟨gL, 0, none⟩) X.length cL] 30)) (.slice none 0 0) (.slice none 0 0) 30 (w.heap.size + 1) (by simp))
  have hs0 : w.heap.size + 2 ≤ ((w.alloc (.cells #[.slice (some ⟨gM, 0, none⟩) M.length cM, .slice (some ⟨gL, 0, none⟩) X.length cL] 30)).alloc (.cells #[.slice none 0 0, .slice none 0 0] 30)).heap.size := by simp
  have HO0 := Lib.hid (h.fr F0)
  have HKB := Lib.hid (fun m hm => (h.lt m hm).2)
  have HXL := Lib.hid hXL
  have HOK := Lib.hid ho
  have hkX : (k : Int) < (X.length : Int) := by omega
  have hk0 : (0 : Int) ≤ (k : Int) := Int.natCast_nonneg _
  have hap := h.ap
  have HAp := Lib.hid hap
  unfold caV
  clear F0 h ho hXL
  go_enter Try.func99, Try.ntmps99
  go_upto_region 1 with fail
  generalize ((w.alloc (.cells #[.slice (some ⟨gM, 0, none⟩) M.length cM, .slice (some ⟨gL, 0, none⟩) X.length cL] 30)).alloc (.cells #[.slice none 0 0, .slice none 0 0] 30)) = u0 at *
  obtain ⟨_, c0, c1, _, _⟩ := HX1.out
  obtain ⟨d0, d1, d2, d3⟩ := HO0.out.L.r.slot k (by have := HXL.out; omega)
  have HN := Lib.hid (lns_get X k)
  have hlk := okLns_at HOK.out.L k (by rw [HOK.out.Ll]; exact hk)
  rw [show (Ch.mk M (lns X)).L = lns X from rfl, lns_get] at hlk
  have HLk : Hid (okLn M (k : Int) (X.getD k la0).n = true) := Lib.hid hlk
  have HW := Lib.hid (HO0.out.L.w.wd k (by have := HXL.out; omega))
  have HWg := Lib.hid (HO0.out.aw k (by have := HXL.out; omega))
  clear hlk
  generalize hl : X.getD k la0 = l at *
  have HL := Lib.hid hl
  clear hl
  go_upto_region 2 with fail
  have F2 : Fr u0 (u0.alloc (.cells #[.bool l.n.u, .int .i64 l.n.p, .bool l.n.d, .slice l.a l.n.W.length l.c] 59)) := Fr.alloc _ _
  have X5 : Hid (Box4 (u0.alloc (.cells #[.bool l.n.u, .int .i64 l.n.p, .bool l.n.d, .slice l.a l.n.W.length l.c] 59)) u0.heap.size (.bool l.n.u) (.int .i64 l.n.p) (.bool l.n.d) (.slice l.a l.n.W.length l.c)) := Lib.hid (Box4.new _ _ _ _ _ _ _ rfl)
  replace HX1 := Lib.hid (HX1.out.fr F2)
  replace HX2 := Lib.hid (HX2.out.fr F2)
  replace HF := Lib.hid (Fr.trans HF.out F2)
  replace HO0 := Lib.hid (HO0.out.fr F2)
  replace HW := Lib.hid (HW.out.fr F2)
  have hs2 : u0.heap.size < (u0.alloc (.cells #[.bool l.n.u, .int .i64 l.n.p, .bool l.n.d, .slice l.a l.n.W.length l.c] 59)).heap.size := by simp
  clear F2 c0 c1 d0 d1 d2 d3
  generalize (u0.alloc (.cells #[.bool l.n.u, .int .i64 l.n.p, .bool l.n.d, .slice l.a l.n.W.length l.c] 59)) = u2 at *
  generalize u0.heap.size = g5 at *
  obtain ⟨_, x0, x1, x2, x3, _, _, _, _⟩ := X5.out
  cases hd : l.n.d
  · have EM : Hid ((backC ⟨M, lns X⟩ k).M = M) := Lib.hid (by simp only [backC]; rw [HN.out, hd]; rfl)
    have OV := HO0
    have BV : Hid (But [gM] u2 u2) := Lib.hid (But.refl _ _)
    cases hu : l.n.u
    · go_upto_region 7 with fail
      have TH := Lib.hid (OV.out.L.r.there4 k (by have := HXL.out; omega))
      obtain ⟨v2, hv2⟩ : ∃ v2, u2.setCells gL (k * 4) (lac la0) = v2 := ⟨_, rfl⟩
      have O2 := Lib.hid (hv2 ▸ OV.out.zero k (by have := HXL.out; omega))
      have B2 : Hid (But [gL] u2 v2) := Lib.hid (hv2 ▸ But.setCells gL (.inl (by simp)) _ _ _ (But.refl _ _))
      have HV2 := Lib.hid hv2
      have HX1v := Lib.hid (HX1.out.but BV.out (by simp; omega))
      have HX2v := Lib.hid (HX2.out.but BV.out (by simp; omega))
      obtain ⟨_, c0, c1, _, _⟩ := HX1v.out
      obtain ⟨_, e0, e1, _, _⟩ := HX1v.out.but B2.out (by simp; omega)
      have HX2w := Lib.hid (HX2v.out.but B2.out (by simp; omega))
      obtain ⟨_, z0, z1, q0, q1⟩ := HX2w.out
      clear hv2 HX1v HX2v
      go_wp2_with (refine wpList_store_line rfl _ _ rfl gL (k * 4) la0 rfl rfl TH.out v2 HV2.out ?_)
      have hst : But [w.heap.size + 1] v2 ((v2.setCell ⟨w.heap.size + 1, 0, none⟩ (.slice (some ⟨gM, 0, none⟩) M.length cM)).setCell ⟨w.heap.size + 1, 1, none⟩ (.slice (some ⟨gL, 0, none⟩) X.length cL)) := (But.refl _ _).set2 _ _ _ (.inl (by simp))
      have HX2n := HX2w.out.set (.slice (some ⟨gM, 0, none⟩) M.length cM) (.slice (some ⟨gL, 0, none⟩) X.length cL)
      refine bodyPost_ret (v := .agg #[.slice (some ⟨gM, 0, none⟩) M.length cM, .slice (some ⟨gL, 0, none⟩) X.length cL]) (by simp [results, Try.results99, go_sem, HX2n.c0, HX2n.c1]) rfl ?_
      refine ⟨X.set k la0, by rw [EM.out]; simp only [caV, List.length_set, putN_len], by rw [lns_set]; rfl, ?_, ?_, fun m hm => .inl (kb_zero hm)⟩
      · rw [EM.out]
        exact O2.out.but' hst (fun m hm hx => by have := HKB.out m (kb_zero hm); simp at hx; omega)
      · have hb : But [gM, gL] w v2 := (((But.wide (L := []) (But.of HF.out) (fun _ h => by cases h)).trans (BV.out.wide (fun m hm => by simp at hm; simp [hm]))).trans (B2.out.wide (fun m hm => by simp at hm; simp [hm])))
        exact hb.far hst (fun m hm => by simp at hm; omega)
    · go_upto_region 7 with fail
      have TH := Lib.hid (OV.out.L.r.there4 k (by have := HXL.out; omega))
      obtain ⟨v2, hv2⟩ : ∃ v2, u2.setCells gL (k * 4) (lac la0) = v2 := ⟨_, rfl⟩
      have O2 := Lib.hid (hv2 ▸ OV.out.zero k (by have := HXL.out; omega))
      have B2 : Hid (But [gL] u2 v2) := Lib.hid (hv2 ▸ But.setCells gL (.inl (by simp)) _ _ _ (But.refl _ _))
      have HV2 := Lib.hid hv2
      have HX1v := Lib.hid (HX1.out.but BV.out (by simp; omega))
      have HX2v := Lib.hid (HX2.out.but BV.out (by simp; omega))
      obtain ⟨_, c0, c1, _, _⟩ := HX1v.out
      obtain ⟨_, e0, e1, _, _⟩ := HX1v.out.but B2.out (by simp; omega)
      have HX2w := Lib.hid (HX2v.out.but B2.out (by simp; omega))
      obtain ⟨_, z0, z1, q0, q1⟩ := HX2w.out
      clear hv2 HX1v HX2v
      go_wp2_with (refine wpList_store_line rfl _ _ rfl gL (k * 4) la0 rfl rfl TH.out v2 HV2.out ?_)
      have hst : But [w.heap.size + 1] v2 ((v2.setCell ⟨w.heap.size + 1, 0, none⟩ (.slice (some ⟨gM, 0, none⟩) M.length cM)).setCell ⟨w.heap.size + 1, 1, none⟩ (.slice (some ⟨gL, 0, none⟩) X.length cL)) := (But.refl _ _).set2 _ _ _ (.inl (by simp))
      have HX2n := HX2w.out.set (.slice (some ⟨gM, 0, none⟩) M.length cM) (.slice (some ⟨gL, 0, none⟩) X.length cL)
      refine bodyPost_ret (v := .agg #[.slice (some ⟨gM, 0, none⟩) M.length cM, .slice (some ⟨gL, 0, none⟩) X.length cL]) (by simp [results, Try.results99, go_sem, HX2n.c0, HX2n.c1]) rfl ?_
      refine ⟨X.set k la0, by rw [EM.out]; simp only [caV, List.length_set, putN_len], by rw [lns_set]; rfl, ?_, ?_, fun m hm => .inl (kb_zero hm)⟩
      · rw [EM.out]
        exact O2.out.but' hst (fun m hm hx => by have := HKB.out m (kb_zero hm); simp at hx; omega)
      · have hb : But [gM, gL] w v2 := (((But.wide (L := []) (But.of HF.out) (fun _ h => by cases h)).trans (BV.out.wide (fun m hm => by simp at hm; simp [hm]))).trans (B2.out.wide (fun m hm => by simp at hm; simp [hm])))
        exact hb.far hst (fun m hm => by simp at hm; omega)
  · have hu := okLn_d HLk.out hd
    have hU := okLn_used HLk.out hu
    obtain ⟨N, hN⟩ := Int.eq_ofNat_of_zero_le hU.p0
    have hN2 : N ≤ 252 := by have := hU.p1; omega
    have hWl := hU.Wl
    have EM : Hid ((backC ⟨M, lns X⟩ k).M = putN M N l.n.W 4) := Lib.hid (by simp only [backC]; rw [HN.out, hd, hN]; rfl)
    obtain ⟨gW, hgW, _, hgWl, kW, _⟩ := HW.out.at0 (by omega)
    have HKW := Lib.hid kW
    have HNW : Hid (gM ≠ gW) := Lib.hid (fun e => HWg.out (by show gM ∈ bkS l.n.W.length l.a; rw [hgW, e]; exact bkS_mem (b := ⟨gW, 0, none⟩) (by omega)))
    have HWL := Lib.hid hWl
    have HGW := Lib.hid hgW
    have HNp := Lib.hid hN
    rw [hgW, hN, hd, hu] at X5
    clear x0 x1 x2 x3
    obtain ⟨_, x0, x1, x2, x3, _, _, _, _⟩ := X5.out
    clear hgW kW hU hN hd hu
    have hwl4 : Hid ((l.n.W.length : Int) = 4) := Lib.hid (by omega)
    have hml : Hid ((M.length : Int) = 256) := Lib.hid (by have := HOK.out.Ml; simp only at this; omega)
    clear hWl
    go_wp2_with fail
    go_loopw [6] (fun i wr => ∃ j : Nat, j ≤ 4 ∧ i = .int .i64 j ∧ OwK B wr (putN M N l.n.W j) X gM gL ∧ But [gM] u2 wr) (fun i _ => 4 - (intOf i).toNat)
    case atStart => exact ⟨0, by omega, rfl, HO0.out, But.refl _ _⟩
    case round =>
      obtain ⟨j, hj, rfl, hO, hb⟩ := hrel
      have OV := Lib.hid hO
      have BV := Lib.hid hb
      have hX5 := X5.out.but hb (by simp; omega)
      obtain ⟨_, y0, y1, y2, y3, _, _, _, _⟩ := hX5
      clear x0 x1 x2 x3
      by_cases hjl : j < 4
      · have hj4 : (j : Int) < 4 := by omega
        obtain ⟨_, c0, c1, _, _⟩ := HX1.out.but hb (by simp; omega)
        have kw : wr.cell? ⟨gW, j, none⟩ = some (.int .i64 (l.n.W.getD j 0)) := by
          rw [hb.cell hgWl (by have := HNW.out; simp; omega)]; exact HKW.out j (by have := HWL.out; omega)
        have hlp := putN_len M N l.n.W j
        have km := hO.M.cel (N + j) (by rw [hlp]; have := HOK.out.Ml; simp only at this; omega)
        have kf := hO.M.fro (N + j) (by rw [hlp]; have := HOK.out.Ml; simp only at this; omega)
        have hjw : (j : Int) < (l.n.W.length : Int) := by rw [hwl4.out]; omega
        have hjm : ((N : Int) + (j : Int)) < (M.length : Int) := by rw [hml.out]; omega
        have hj0 : (0 : Int) ≤ (j : Int) := Int.natCast_nonneg _
        have hN0 : (0 : Int) ≤ (N : Int) + (j : Int) := by omega
        have hw1 : IntKind.i64.wrap ((N : Int) + (j : Int)) = (N : Int) + (j : Int) := IntWalk.i64_in _ (by omega)
        have hw2 : ((N : Int) + (j : Int)).toNat = N + j := by omega
        have hNx : putN M N l.n.W (j + 1) = (putN M N l.n.W j).set (N + j) (l.n.W.getD j 0) := rfl
        have HNx := Lib.hid hNx
        have HLp := Lib.hid hlp
        clear hO hb hlp hNx
        generalize (putN M N l.n.W j).getD (N + j) 0 = mv at km
        generalize hz : l.n.W.getD j 0 = z at *
        clear hz
        go_wp2_with fail
        go_still_tail 11, (by kernel_rfl)
        change wpList _ _ _ _ _ wr.drew
        go_wp2
        clear hw1 hw2
        go_roundw
        case rel =>
          refine ⟨j + 1, by omega, by go_num, ?_, ?_⟩
          · rw [HNx.out]
            exact (OV.out.setM (N + j) z (by rw [HLp.out]; have := HOK.out.Ml; simp only at this; omega)).fr (Below.drew (Below.refl _ _))
          · exact (BV.out.set gM (N + j) (.int .i64 z) (.inl (by simp))).drew
        case measure => simp [intOf]; omega
      · have hge : ¬ (j : Int) < 4 := by omega
        obtain rfl : j = 4 := by omega
        clear hO hb
        go_upto_region 7 with fail
        have TH := Lib.hid (OV.out.L.r.there4 k (by have := HXL.out; omega))
        obtain ⟨v2, hv2⟩ : ∃ v2, wr.setCells gL (k * 4) (lac la0) = v2 := ⟨_, rfl⟩
        have O2 := Lib.hid (hv2 ▸ OV.out.zero k (by have := HXL.out; omega))
        have B2 : Hid (But [gL] wr v2) := Lib.hid (hv2 ▸ But.setCells gL (.inl (by simp)) _ _ _ (But.refl _ _))
        have HV2 := Lib.hid hv2
        have HX1v := Lib.hid (HX1.out.but BV.out (by simp; omega))
        have HX2v := Lib.hid (HX2.out.but BV.out (by simp; omega))
        obtain ⟨_, c0, c1, _, _⟩ := HX1v.out
        obtain ⟨_, e0, e1, _, _⟩ := HX1v.out.but B2.out (by simp; omega)
        have HX2w := Lib.hid (HX2v.out.but B2.out (by simp; omega))
        obtain ⟨_, z0, z1, q0, q1⟩ := HX2w.out
        clear hv2 HX1v HX2v
        go_wp2_with (refine wpList_store_line rfl _ _ rfl gL (k * 4) la0 rfl rfl TH.out v2 HV2.out ?_)
        have hst : But [w.heap.size + 1] v2 ((v2.setCell ⟨w.heap.size + 1, 0, none⟩ (.slice (some ⟨gM, 0, none⟩) M.length cM)).setCell ⟨w.heap.size + 1, 1, none⟩ (.slice (some ⟨gL, 0, none⟩) X.length cL)) := (But.refl _ _).set2 _ _ _ (.inl (by simp))
        have HX2n := HX2w.out.set (.slice (some ⟨gM, 0, none⟩) M.length cM) (.slice (some ⟨gL, 0, none⟩) X.length cL)
        refine bodyPost_ret (v := .agg #[.slice (some ⟨gM, 0, none⟩) M.length cM, .slice (some ⟨gL, 0, none⟩) X.length cL]) (by simp [results, Try.results99, go_sem, HX2n.c0, HX2n.c1]) rfl ?_
        refine ⟨X.set k la0, by rw [EM.out]; simp only [caV, List.length_set, putN_len], by rw [lns_set]; rfl, ?_, ?_, fun m hm => .inl (kb_zero hm)⟩
        · rw [EM.out]
          exact O2.out.but' hst (fun m hm hx => by have := HKB.out m (kb_zero hm); simp at hx; omega)
        · have hb : But [gM, gL] w v2 := (((But.wide (L := []) (But.of HF.out) (fun _ h => by cases h)).trans (BV.out.wide (fun m hm => by simp at hm; simp [hm]))).trans (B2.out.wide (fun m hm => by simp at hm; simp [hm])))
          exact hb.far hst (fun m hm => by simp at hm; omega)

end Go.Proofs.Ytoacgjjpipdkjaa
