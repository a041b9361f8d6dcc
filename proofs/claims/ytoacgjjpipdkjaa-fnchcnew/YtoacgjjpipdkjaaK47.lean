/- DrawChcNew: a memory, or one with a word too many. -/
import Derived.Test.YtoacgjjpipdkjaaK44
import Derived.Test.YtoacgjjpipdkjaaK40
namespace Go.Proofs.Ytoacgjjpipdkjaa
open Go.RowKit
set_option linter.unusedVariables false
set_option linter.unusedSimpArgs false
/-- A memory that was drawn, and nothing that was there has turned. -/
def NewM (w : World) (e : Ending) (w' : World) : Prop := ∃ (M : List Int) (aM : Option Addr) (cM : Nat), (M.length = 256 ∨ M.length = 257) ∧ M.all okB = true ∧ e = .returned (.slice aM M.length cM) ∧ Src w' M.length (ivl M) aM ∧ Fr w w'
theorem VcH7.rc {B : Nat} {u : World} {M : List Int} {X : List La} {aM aL : Option Addr} {cM cL : Nat} (h : VcH7 B u M X aM aL) (rm : RmC u M X aM cM cL) : Rc B u M aM cM := by
  rcases rm.rM with h0 | ⟨g, e, hc, h0⟩
  · exact .inl h0
  · obtain ⟨g', e', hB, hlt, hcel, hf⟩ := h.rM.at0 h0
    rw [e] at e'
    cases e'
    exact .inr ⟨g, e, hB, ⟨hlt, hcel, hf⟩, hc, h0⟩
theorem newC7_257 {M : List Int} (h : M.length = 257) : newC7 M = ch0 := by
  have : wordsB M 256 = false := by simp [wordsB, h]
  rw [newC7, this]
  rfl
theorem newC7_256 {M : List Int} (h : M.length = 256) (ho : M.all okB = true) : newC7 M = ⟨M, lns newL⟩ := by
  have : wordsB M 256 = true := by simp only [wordsB, h, ho]; rfl
  rw [newC7, this]
  rfl
theorem lnsnew_get (k : Nat) : (lns newL).getD k ln0 = ln0 := by
  rcases k with _ | _ | _ | _ | k <;> rfl
theorem newX {X : List La} (h : lns newL = lns X) : X.length = 4 ∧ ∀ k, (X.getD k la0).n = ln0 := by
  refine ⟨?_, fun k => by rw [← lns_get, ← h, lnsnew_get]⟩
  have := congrArg List.length h
  simpa [lns, newL] using this.symm
theorem all_new {M : List Int} (h : M.length = 256) : allC ⟨M, lns newL⟩ = M := all_ext (allC_len _) h fun i hi => by
  rw [allC_get _ _ hi, lookC_eq, if_neg]
  rintro ⟨hu, _⟩
  have e : ((lns newL).getD (slotOf (i : Int)) ln0).u = true := hu
  rw [lnsnew_get] at e
  cases e
set_option maxRecDepth 8000 in
set_option maxHeartbeats 2000000 in
theorem DrawChcNew (s : Option Addr) (len cap : Nat) (w : World) (h : Code1 w.heap.size w s len cap) : Calls Try.prog 50 #[.slice s len cap] w (NewM w) := by
  have HC := Lib.hid h
  have hfl : ∀ (w : World) (a b : Option Addr) (l c m d : Nat), Sem.run Try.prog (Instr.field 30 (.agg #[.slice a l c, .slice b m d]) 0) w = .ok (.slice a l c) w := by intro w a b l c m d; kernel_rfl
  clear h
  go_enter Try.func50, Try.ntmps50
  go_wp2_with fail
  refine (opens _ s len cap w HC.out).mono ?_
  rintro e w1 ⟨rfl, r1, b1⟩
  have hs1 := b1.size
  have lb := r1.lt
  go_wp2_with fail
  refine (l20Chc _ _ _ _ w1 r1 (by omega) (by omega) (by omega)).mono ?_
  rintro e w2 ⟨M, X, aM, aL, cM, cL, _, _, rfl, r2, g2, _, hN⟩
  obtain ⟨V, rm, ok⟩ := hN rfl
  have hs2 := g2.size
  have HF2 := Lib.hid (grown_below7 rfl b1 g2)
  have HV2 := Lib.hid (V.rc rm)
  have HML := Lib.hid (show M.length = 256 from ok.Ml)
  have hmo := ok.M
  dsimp only [caV]
  clear V rm ok hN r1 g2
  go_wp2_with fail
  refine (odd7 _ _ _ 4 w2 r2 (by omega) (by omega) (by omega)).mono ?_
  rintro e w3 ⟨v, _, rfl, r3, g3⟩
  have hs3 := g3.size
  have HF3 := Lib.hid (fr_but HF2.out (but_row g3) (fun k m => by simp at m; omega))
  have HV3 := Lib.hid (HV2.out.but (but_row g3) (fun k m => by simp at m; omega))
  clear r2 r3 g3 HF2 HV2
  cases v
  · go_wp2_with fail
    go_ret
    exact ⟨M, aM, cM, .inl HML.out, hmo, rfl, HV3.out.src, HF3.out⟩
  · go_upto_region 4 with fail
    have FA := Fr.alloc w3 (.cells #[.int .i64 0] 3)
    have HR4 := Lib.hid (HV3.out.fr FA)
    have HF4 := Lib.hid (Fr.trans HF3.out FA)
    have hcell := Lib.hid (alloc_at w3 #[.int .i64 0] 3 _ rfl 0).1
    have hBu : Hid (w1.heap.size ≤ (w3.alloc (.cells #[.int .i64 0] 3)).heap.size) := Lib.hid (by simp; omega)
    clear FA HF3
    go_wp2_with (at_builtin; refine wpList_plain rfl fun K hK => wp_append_rc _ _ rfl w1.heap.size M aM cM rfl HR4.out 0 w3.heap.size rfl hcell.out (by have := HML.out; omega) hBu.out ?_; intro g c' w5 hro hca hgB hgo hbt; have H3 := Lib.hid hro; have H5 := Lib.hid hbt; clear hro hca hbt hgo; refine hK _ _ ?_)
    go_ret
    have hlow : ∀ m, m ∈ bkS M.length aM → w1.heap.size ≤ m := fun m hm => by
      obtain ⟨h0, b, e, rfl⟩ := mem_bkS hm
      rcases HV3.out with ⟨z, _⟩ | ⟨g', e', hB', _⟩
      · omega
      · rw [e'] at e; cases e; exact hB'
    refine ⟨M ++ [0], some ⟨g, 0, none⟩, c', .inr (by rw [List.length_append, HML.out]; rfl), by rw [List.all_append, hmo]; rfl, by first | rfl | (rw [List.length_append]; rfl) | (simp [results]; done), H3.out.src, ?_⟩
    exact fr_but HF4.out H5.out (fun m hm => by have := hlow m hm; omega)

end Go.Proofs.Ytoacgjjpipdkjaa
