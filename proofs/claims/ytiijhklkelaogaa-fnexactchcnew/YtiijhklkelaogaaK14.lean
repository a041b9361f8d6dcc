/- All that is seen, of the model; a new cache, of the model and of the program. A new cache, of the model and of the program. -/
import Derived.Test.YtiijhklkelaogaaK13
namespace Go.Proofs.Ytiijhklkelaogaa
open Go.RowKit
set_option linter.unusedVariables false
set_option linter.unusedSimpArgs false
def lookN (c : Ch) (n : Nat) : List Int := (List.range n).map fun i : Nat => lookC c (i : Int)
theorem lookN_len (c : Ch) (n : Nat) : (lookN c n).length = n := by simp [lookN]
theorem lookN_succ (c : Ch) (n : Nat) : lookN c (n + 1) = lookN c n ++ [lookC c (n : Int)] := by simp [lookN, List.range_succ]
theorem allC_eq (c : Ch) : allC c = lookN c 256 := rfl
set_option maxRecDepth 100000 in
set_option maxHeartbeats 4000000 in
theorem spec_l7All (M : List Int) (X : List La) (aM aL : Option Addr) (cM cL : Nat) (w : World) (h : SrcC w M X aM aL) (ho : OkC ⟨M, lns X⟩) :
    Calls Try.prog 73 #[caV aM aL M X cM cL] w (CpC (allC ⟨M, lns X⟩) w) := by
  have F0 : Fr w (w.alloc (.cells #[.slice aM M.length cM, .slice aL X.length cL] 25)) := Fr.alloc _ _
  have HF := Lib.hid F0
  have HX := Lib.hid (Box2.new w (.slice aM M.length cM) (.slice aL X.length cL) 25 _ rfl)
  have HS := Lib.hid h
  have HOK := Lib.hid ho
  rw [allC_eq]
  clear F0 h ho
  unfold caV
  go_enter Try.func73, Try.ntmps73
  go_upto_region 1 with fail
  have hs0 : w.heap.size < (w.alloc (.cells #[.slice aM M.length cM, .slice aL X.length cL] 25)).heap.size := by simp
  generalize (w.alloc (.cells #[.slice aM M.length cM, .slice aL X.length cL] 25)) = u0 at *
  go_upto_region 2 with fail
  have F1 : Fr u0 (u0.alloc (.cells #[] 3)) := Fr.alloc _ _
  have HF1 := Lib.hid (Fr.trans HF.out F1)
  have HX1 := Lib.hid (HX.out.fr F1)
  have hs1 : u0.heap.size < (u0.alloc (.cells #[] 3)).heap.size := by simp
  have hs1' : (u0.alloc (.cells #[] 3)).heap.size = u0.heap.size + 1 := by simp
  clear F1
  generalize (u0.alloc (.cells #[] 3)) = u1 at *
  have HB : Hid (w.heap.size < u1.heap.size) := Lib.hid (by omega)
  obtain ⟨B, hB⟩ : ∃ B, B = u1.heap.size := ⟨_, rfl⟩
  have R0 : Hid (Rc B u1 (lookN ⟨M, lns X⟩ 0) (some ⟨u0.heap.size, 0, none⟩) 0) := Lib.hid (.inl ⟨rfl, rfl⟩)
  have HBw : Hid (w.heap.size < B) := Lib.hid (by rw [hB]; exact HB.out)
  have HBz : Hid (B ≤ u1.heap.size) := Lib.hid (by omega)
  generalize u0.heap.size = g0 at *
  clear hB hs1'
  go_wp2_with fail
  go_loopw [3, 4] (fun s i wr => ∃ (k : Nat) (ao : Option Addr) (c : Nat), k ≤ 256 ∧ i = .int .i64 k ∧ s = .slice ao k c ∧ Rc B wr (lookN ⟨M, lns X⟩ k) ao c ∧ Fr w wr ∧ Box2 wr w.heap.size (.slice aM M.length cM) (.slice aL X.length cL) ∧ B ≤ wr.heap.size) (fun _ i _ => 256 - (intOf i).toNat)
  case atStart => exact ⟨0, _, 0, by omega, rfl, rfl, R0.out, HF1.out, HX1.out, HBz.out⟩
  case round =>
    obtain ⟨k, ao, c, hk, rfl, rfl, hr, hf, hx, hb⟩ := hrel
    have HR := Lib.hid hr
    have HFr := Lib.hid hf
    have HXr := Lib.hid hx
    by_cases hlt : k < 256
    · have hlt' : (k : Int) < 256 := by omega
      have HL := Lib.hid (spec_l7Look M X aM aL cM cL (k : Int) wr (HS.out.fr hf) HOK.out ((plcB_iff _).2 ⟨by omega, by omega⟩))
      obtain ⟨_, c0, c1, _, _⟩ := hx
      clear hr hf
      go_wp2_with fail
      refine HL.out.mono ?_
      rintro e u2 ⟨rfl, f2⟩
      have HF2 := Lib.hid f2
      have hs2 := f2.size
      have HR2 := Lib.hid ((HR.out.fr f2).fr (Fr.alloc u2 (.cells #[.int .i64 (lookC ⟨M, lns X⟩ (k : Int))] 3)))
      have HX2 := Lib.hid (HXr.out.fr f2)
      have hcell : Hid ((u2.alloc (.cells #[.int .i64 (lookC ⟨M, lns X⟩ (k : Int))] 3)).cell? ⟨u2.heap.size, 0, none⟩ = some (.int .i64 (lookC ⟨M, lns X⟩ (k : Int)))) := Lib.hid (alloc_at u2 _ _ _ rfl 0).1
      have hln := lookN_len ⟨M, lns X⟩ k
      have HLn := Lib.hid hln
      have hBu : Hid (B ≤ (u2.alloc (.cells #[.int .i64 (lookC ⟨M, lns X⟩ (k : Int))] 3)).heap.size) := Lib.hid (by simp; omega)
      clear f2 c0 c1 hln HL
      go_wp2_with (at_builtin; refine wpList_plain rfl fun K hK => wp_append_rc _ _ rfl B (lookN ⟨M, lns X⟩ k) ao c (by rw [HLn.out]; rfl) HR2.out (lookC ⟨M, lns X⟩ (k : Int)) u2.heap.size rfl hcell.out (by rw [HLn.out]; omega) hBu.out ?_; intro g c' u3 hro hca hgB hgo hbt; rw [← lookN_succ] at hro hca; rw [← lookN_succ, lookN_len]; have H3 := Lib.hid hro; have H4 := Lib.hid hca; have H5 := Lib.hid hbt; have H6 := Lib.hid hgo; clear hro hca hbt hgo; refine hK _ _ ?_)
      go_roundw
      case rel =>
        have FA : Fr u2 (u2.alloc (.cells #[.int .i64 (lookC ⟨M, lns X⟩ (k : Int))] 3)) := Fr.alloc _ _
        have hlow : ∀ m, m ∈ bkS (lookN ⟨M, lns X⟩ k).length ao → B ≤ m := fun m hm => by
          obtain ⟨h0, b, e, rfl⟩ := mem_bkS hm
          rcases HR2.out with ⟨z, _⟩ | ⟨g', e', hB', _⟩
          · omega
          · rw [e'] at e; cases e; exact hB'
        refine ⟨k + 1, some ⟨g, 0, none⟩, c', by omega, by go_num, rfl, .inr ⟨g, rfl, hgB, H3.out, H4.out, by rw [lookN_len]; omega⟩, ?_, ?_, ?_⟩
        · exact fr_but (Fr.trans (Fr.trans HFr.out HF2.out) FA) H5.out (fun m hm => by have := hlow m hm; have := HBw.out; omega)
        · exact (HX2.out.fr FA).but H5.out (fun hm => by have := hlow _ hm; have := HBw.out; omega)
        · have := H5.out.size; have := hBu.out; omega
      case measure => simp [intOf]; omega
    · have hge : ¬ (k : Int) < 256 := by omega
      obtain rfl : k = 256 := by omega
      clear hr hf hx
      go_wp2
      go_ret
      exact ⟨ao, c, by rw [lookN_len]; rfl, HR.out.mono (by have := HBw.out; omega), HFr.out⟩
set_option maxRecDepth 100000 in
set_option maxHeartbeats 4000000 in
theorem spec_ChcAll (M : List Int) (X : List La) (aM aL : Option Addr) (cM cL : Nat) (w : World) (h : SrcC w M X aM aL) (hf : FewC M X) :
    Calls Try.prog 37 #[caV aM aL M X cM cL] w (CpC (allA ⟨M, lns X⟩) w) := by
  have F0 : Fr w (w.alloc (.cells #[.slice aM M.length cM, .slice aL X.length cL] 25)) := Fr.alloc _ _
  have HF := Lib.hid F0
  have HX := Lib.hid (Box2.new w (.slice aM M.length cM) (.slice aL X.length cL) 25 _ rfl)
  have HS := Lib.hid (h.fr F0)
  have E := spec_ChcOk M X aM aL cM cL _ (h.fr F0) hf
  cases ho : okC ⟨M, lns X⟩
  · rw [ho] at E
    have HE := Lib.hid E
    have HA := Lib.hid (show allA ⟨M, lns X⟩ = [] by simp only [allA, ho]; rfl)
    clear E F0 h ho
    go_enter Try.func37, Try.ntmps37
    go_wp2_with fail
    generalize (w.alloc (.cells #[.slice aM M.length cM, .slice aL X.length cL] 25)) = u0 at *
    obtain ⟨_, c0, c1, _, _⟩ := HX.out
    go_wp2_with (go_at_call 26; refine HE.out.mono ?_; rintro e u1 ⟨rfl, hf2⟩; have HF2 := Lib.hid hf2; clear hf2)
    go_ret
    rw [HA.out]
    exact ⟨_, 0, rfl, .inl ⟨rfl, rfl⟩, Fr.trans (Fr.trans HF.out HF2.out) (Fr.alloc _ _)⟩
  · rw [ho] at E
    have HE := Lib.hid E
    have HA := Lib.hid (show allA ⟨M, lns X⟩ = allC ⟨M, lns X⟩ by simp only [allA, ho]; rfl)
    have HOk := Lib.hid ((okC_iff _).1 ho)
    clear E F0 h ho
    go_enter Try.func37, Try.ntmps37
    go_wp2_with fail
    generalize (w.alloc (.cells #[.slice aM M.length cM, .slice aL X.length cL] 25)) = u0 at *
    obtain ⟨_, c0, c1, _, _⟩ := HX.out
    go_wp2_with fail
    refine HE.out.mono ?_
    rintro e u1 ⟨rfl, hf2⟩
    have HF2 := Lib.hid hf2
    have HL := Lib.hid (spec_l7All M X aM aL cM cL u1 (HS.out.fr hf2) HOk.out)
    obtain ⟨_, x0, x1, _, _⟩ := HX.out.fr hf2
    have hs := HF.out.size
    have hs2 := hf2.size
    clear hf2 c0 c1
    go_wp2_with (go_at_call 73; refine HL.out.mono ?_; rintro e u2 ⟨ao, c, rfl, hr, hf3⟩; have HR := Lib.hid hr; have HF3 := Lib.hid hf3; clear hr hf3)
    go_ret
    rw [HA.out]
    exact ⟨ao, c, rfl, HR.out.mono (by omega), Fr.trans (Fr.trans HF.out HF2.out) HF3.out⟩

def newL : List La := [la0, la0, la0, la0]
def newC7 (M : List Int) : Ch := if wordsB M 256 then ⟨M, lns newL⟩ else ch0
theorem make_lines (w : World) : (Instr.makeSlice 23 (.int .i64 4) (.int .i64 4)).run Try.prog w = .ok (.slice (some ⟨w.heap.size, 0, none⟩) 4 4) (w.alloc (.cells (clL newL).toArray 50)) := by
  kernel_rfl
theorem rol_lines (w : World) : RoL (w.alloc (.cells (clL newL).toArray 50)) w.heap.size newL := rol_block (cur := (clL newL).toArray) (heap_alloc_new w _) (fun j v hv => by simpa using hv)
theorem rol_at (w : World) (g : Nat) (h : w.heap.size = g) : RoL (w.alloc (.cells (clL newL).toArray 50)) g newL := h ▸ rol_lines w
theorem newL_wbk (i : Nat) (hi : i < newL.length) : wbk (newL.getD i la0) = [] := by
  have : i < 4 := hi
  rcases i with _ | _ | _ | _ | i
  · rfl
  · rfl
  · rfl
  · rfl
  · omega
theorem newL_n (i : Nat) (hi : i < newL.length) : (newL.getD i la0).n.W.length = 0 := by
  have : i < 4 := hi
  rcases i with _ | _ | _ | _ | i
  · rfl
  · rfl
  · rfl
  · rfl
  · omega
theorem newK {B : Nat} {u : World} {M : List Int} {ao : Option Addr} {gL : Nat} (hM : Vc B u M.length (ivl M) ao) (hL : RoL u gL newL) (hb : B ≤ gL) (hap : ∀ k, k ∈ bkS M.length ao → k ≠ gL) : VcH7 B u M newL ao (some ⟨gL, 0, none⟩) :=
  ⟨hM, fun _ => ⟨gL, rfl, hb, hL⟩, ⟨fun i hi => by rw [newL_n i hi]; exact Vc.nil _ _ _ _, fun i j hi hj _ k hk => by rw [newL_wbk i hi] at hk; cases hk⟩, fun k hk i hi => by rw [newL_wbk i hi]; simp, fun k hk => ⟨fun hm => hap k hk (bkS_one hm), fun i hi => by rw [newL_wbk i hi]; simp⟩⟩
theorem rc_cap {B : Nat} {u : World} {xs : List Int} {ao : Option Addr} {c : Nat} (h : Rc B u xs ao c) : xs.length ≤ c := by
  rcases h with h | ⟨g, e, hB, r, ⟨cur, h1, h2, h3, h4⟩, h0⟩
  · omega
  · exact h3
set_option maxRecDepth 100000 in
set_option maxHeartbeats 4000000 in
theorem spec_ChcNew (M : List Int) (aM : Option Addr) (cM : Nat) (w : World) (h : Src w M.length (ivl M) aM) (hf : M.length ≤ 1048576) :
    Calls Try.prog 17 #[.slice aM M.length cM] w (ChQ7 (newC7 M) w) := by
  have F0 : Fr w (w.alloc (.cells #[.slice none 0 0, .slice none 0 0] 25)) := Fr.alloc _ _
  have HF := Lib.hid F0
  have HX := Lib.hid (Box2.new w (.slice none 0 0) (.slice none 0 0) 25 _ rfl)
  have P1 := spec_l4Words M aM cM 256 _ (h.fr F0) (by omega)
  have e1 : (M.all okB && decide ((M.length : Int) = 256)) = wordsB M 256 := words_eq M 256
  rw [e1] at P1
  have HS := Lib.hid (fun (v : World) (f : Fr (w.alloc (.cells #[.slice none 0 0, .slice none 0 0] 25)) v) => (h.fr F0).fr f)
  have hmk := make_lines
  clear F0 h e1
  cases h1 : wordsB M 256
  · rw [h1] at P1
    have HP := Lib.hid P1
    have HA := Lib.hid (show newC7 M = ch0 by simp only [newC7, h1]; rfl)
    clear P1 h1 hmk
    go_enter Try.func17, Try.ntmps17
    go_wp2_with fail
    generalize (w.alloc (.cells #[.slice none 0 0, .slice none 0 0] 25)) = u0 at *
    refine HP.out.mono ?_
    rintro e w' ⟨rfl, rfl⟩
    obtain ⟨_, z0, z1, q0, q1⟩ := HX.out
    go_wp2
    have hst : But [w.heap.size] u0 ((u0.setCell ⟨w.heap.size, 0, none⟩ (.slice none 0 0)).setCell ⟨w.heap.size, 1, none⟩ (.slice none 0 0)) := (But.refl _ _).set2 _ _ _ (.inl (by simp))
    have HX2n := HX.out.set (.slice none 0 0) (.slice none 0 0)
    refine bodyPost_ret (v := .agg #[.slice none 0 0, .slice none 0 0]) (by simp [results, Try.results17, go_sem, HX2n.c0, HX2n.c1]) rfl ?_
    exact ⟨[], [], none, none, 0, 0, rfl, HA.out, VcH7.nil _ _, Nat.zero_le _, fr_but HF.out hst (fun m hm => by simp at hm; omega)⟩
  · rw [h1] at P1
    have HP := Lib.hid P1
    have HA := Lib.hid (show newC7 M = ⟨M, lns newL⟩ by simp only [newC7, h1]; rfl)
    have HM := Lib.hid (wordsB_true h1).2
    have hs0 : w.heap.size < (w.alloc (.cells #[.slice none 0 0, .slice none 0 0] 25)).heap.size := by simp
    clear P1 h1
    go_enter Try.func17, Try.ntmps17
    go_upto_region 1 with fail
    generalize (w.alloc (.cells #[.slice none 0 0, .slice none 0 0] 25)) = u0 at *
    go_upto_region 3 with (go_at_call 51; refine HP.out.mono ?_; rintro e w' ⟨rfl, rfl⟩)
    go_region_held3 (fun v => w.heap.size < v.heap.size)
      (first | assumption | (show w.heap.size < _; simp; omega) | (show w.heap.size < _; simp) | (have := F3.out.size; omega))
      (first | (refine wp_append_cp _ _ rfl _ rfl M aM cM rfl (HS.out _ (by (repeat' first | (with_reducible exact Below.refl _ _) | (with_reducible assumption) | ((with_reducible refine Below.setCell ?_ ?hb _); (case hb => first | exact Nat.le_refl _ | (simp; done) | (simp; omega) | omega)) | ((with_reducible refine Below.alloc ?_ ?hb _); (case hb => first | exact Nat.le_refl _ | (simp; done) | (simp; omega) | omega)) | (with_reducible refine Below.drew ?_)))) (by omega) ?_; intro ao c u3 hr hcp f3; have HR := Lib.hid hr; have HCp := Lib.hid hcp; have F3 := Lib.hid (show Fr u0 u3 from Fr.trans (by (repeat' first | (with_reducible exact Below.refl _ _) | (with_reducible assumption) | ((with_reducible refine Below.setCell ?_ ?hb _); (case hb => first | exact Nat.le_refl _ | (simp; done) | (simp; omega) | omega)) | ((with_reducible refine Below.alloc ?_ ?hb _); (case hb => first | exact Nat.le_refl _ | (simp; done) | (simp; omega) | omega)) | (with_reducible refine Below.drew ?_))) f3); have HX3 := Lib.hid (HX.out.fr F3.out); obtain ⟨lt3, z2, z3, q2, q3⟩ := HX3.out; have hz3 := F3.out.size; have F4 := Lib.hid f3; clear hr hcp f3))
    · have hst : But [w.heap.size] u3 ((u3.setCell ⟨w.heap.size, 0, none⟩ (.slice ao M.length c)).setCell ⟨w.heap.size, 1, none⟩ (.slice (some ⟨u3.heap.size, 0, none⟩) 4 4)) := (But.refl _ _).set2 _ _ _ (.inl (by simp))
      have HX2n := HX3.out.set (.slice ao M.length c) (.slice (some ⟨u3.heap.size, 0, none⟩) 4 4)
      have hlow : w.heap.size < u0.heap.size := hs0
      have hWs : u0.heap.size ≤ ((u0.alloc (.cells #[] 3)).drew).heap.size := (show Fr u0 ((u0.alloc (.cells #[] 3)).drew) by (repeat' first | (with_reducible exact Below.refl _ _) | (with_reducible assumption) | ((with_reducible refine Below.setCell ?_ ?hb _); (case hb => first | exact Nat.le_refl _ | (simp; done) | (simp; omega) | omega)) | ((with_reducible refine Below.alloc ?_ ?hb _); (case hb => first | exact Nat.le_refl _ | (simp; done) | (simp; omega) | omega)) | (with_reducible refine Below.drew ?_))).size
      have HXn := HX2n.fr (Fr.alloc _ (.cells (clL newL).toArray 50))
      have hsz : ((u3.setCell ⟨w.heap.size, 0, none⟩ (.slice ao M.length c)).setCell ⟨w.heap.size, 1, none⟩ (.slice (some ⟨u3.heap.size, 0, none⟩) 4 4)).heap.size = u3.heap.size := by simp
      have hL := rol_lines ((u3.setCell ⟨w.heap.size, 0, none⟩ (.slice ao M.length c)).setCell ⟨w.heap.size, 1, none⟩ (.slice (some ⟨u3.heap.size, 0, none⟩) 4 4))
      rw [hsz] at hL
      have hV := ((HR.out.vc.mono (show w.heap.size ≤ _ from Nat.le_trans (Nat.le_of_lt hlow) hWs)).but' hst (fun m hm hx => by have h1 := (HR.out.vc.bk m hm).1; simp at hx; omega)).fr (Fr.alloc _ (.cells (clL newL).toArray 50))
      have hap : ∀ k, k ∈ bkS M.length ao → k ≠ u3.heap.size := fun k hk => by have := (HR.out.vc.bk k hk).2; omega
      have hF := Fr.trans (fr_but (Fr.trans HF.out F3.out) hst (fun m hm => by simp at hm; omega)) (Fr.alloc _ (.cells (clL newL).toArray 50))
      go_wp2
      refine bodyPost_ret (v := .agg #[.slice ao M.length c, .slice (some ⟨u3.heap.size, 0, none⟩) 4 4]) (by simp [results, Try.results17, go_sem, HXn.c0, HXn.c1]) rfl ?_
      exact ⟨M, newL, ao, some ⟨u3.heap.size, 0, none⟩, c, 4, rfl, HA.out, newK hV hL (by omega) hap, HCp.out, hF⟩
    · have hst : But [w.heap.size] u3 ((u3.setCell ⟨w.heap.size, 0, none⟩ (.slice ao M.length c)).setCell ⟨w.heap.size, 1, none⟩ (.slice (some ⟨(u0.heap.size + 1), 0, none⟩) 4 4)) := (But.refl _ _).set2 _ _ _ (.inl (by simp))
      have HX2n := HX3.out.set (.slice ao M.length c) (.slice (some ⟨(u0.heap.size + 1), 0, none⟩) 4 4)
      have hlow : w.heap.size < u0.heap.size := hs0
      have hWs : u0.heap.size ≤ (((u0.alloc (.cells #[] 3)).alloc (.cells (clL newL).toArray 50)).drew).heap.size := (show Fr u0 (((u0.alloc (.cells #[] 3)).alloc (.cells (clL newL).toArray 50)).drew) by (repeat' first | (with_reducible exact Below.refl _ _) | (with_reducible assumption) | ((with_reducible refine Below.setCell ?_ ?hb _); (case hb => first | exact Nat.le_refl _ | (simp; done) | (simp; omega) | omega)) | ((with_reducible refine Below.alloc ?_ ?hb _); (case hb => first | exact Nat.le_refl _ | (simp; done) | (simp; omega) | omega)) | (with_reducible refine Below.drew ?_))).size
      have HXn := HX2n
      have hLW : RoL (((u0.alloc (.cells #[] 3)).alloc (.cells (clL newL).toArray 50)).drew) (u0.heap.size + 1) newL := (rol_at (u0.alloc (.cells #[] 3)) (u0.heap.size + 1) (by simp)).fr (Below.drew (Below.refl _ _))
      have hL : RoL ((u3.setCell ⟨w.heap.size, 0, none⟩ (.slice ao M.length c)).setCell ⟨w.heap.size, 1, none⟩ (.slice (some ⟨(u0.heap.size + 1), 0, none⟩) 4 4)) (u0.heap.size + 1) newL := (hLW.fr F4.out).but hst (by simp; omega)
      have hV := (HR.out.vc.mono (show w.heap.size ≤ _ from Nat.le_trans (Nat.le_of_lt hlow) hWs)).but' hst (fun m hm hx => by have h1 := (HR.out.vc.bk m hm).1; simp at hx; omega)
      have hap : ∀ k, k ∈ bkS M.length ao → k ≠ (u0.heap.size + 1) := fun k hk => by have h1 := (HR.out.vc.bk k hk).1; have h2 := hLW.lt; omega
      have hF := fr_but (Fr.trans HF.out F3.out) hst (fun m hm => by simp at hm; omega)
      go_wp2
      refine bodyPost_ret (v := .agg #[.slice ao M.length c, .slice (some ⟨(u0.heap.size + 1), 0, none⟩) 4 4]) (by simp [results, Try.results17, go_sem, HXn.c0, HXn.c1]) rfl ?_
      exact ⟨M, newL, ao, some ⟨(u0.heap.size + 1), 0, none⟩, c, 4, rfl, HA.out, newK hV hL (by omega) hap, HCp.out, hF⟩
    · have hst : But [w.heap.size] u3 ((u3.setCell ⟨w.heap.size, 0, none⟩ (.slice ao M.length c)).setCell ⟨w.heap.size, 1, none⟩ (.slice (some ⟨u0.heap.size, 0, none⟩) 4 4)) := (But.refl _ _).set2 _ _ _ (.inl (by simp))
      have HX2n := HX3.out.set (.slice ao M.length c) (.slice (some ⟨u0.heap.size, 0, none⟩) 4 4)
      have hlow : w.heap.size < u0.heap.size := hs0
      have hWs : u0.heap.size ≤ (((u0.alloc (.cells (clL newL).toArray 50)).alloc (.cells #[] 3)).drew).heap.size := (show Fr u0 (((u0.alloc (.cells (clL newL).toArray 50)).alloc (.cells #[] 3)).drew) by (repeat' first | (with_reducible exact Below.refl _ _) | (with_reducible assumption) | ((with_reducible refine Below.setCell ?_ ?hb _); (case hb => first | exact Nat.le_refl _ | (simp; done) | (simp; omega) | omega)) | ((with_reducible refine Below.alloc ?_ ?hb _); (case hb => first | exact Nat.le_refl _ | (simp; done) | (simp; omega) | omega)) | (with_reducible refine Below.drew ?_))).size
      have HXn := HX2n
      have hLW : RoL (((u0.alloc (.cells (clL newL).toArray 50)).alloc (.cells #[] 3)).drew) u0.heap.size newL := ((rol_at u0 u0.heap.size rfl).fr (Fr.alloc _ (.cells #[] 3))).fr (Below.drew (Below.refl _ _))
      have hL : RoL ((u3.setCell ⟨w.heap.size, 0, none⟩ (.slice ao M.length c)).setCell ⟨w.heap.size, 1, none⟩ (.slice (some ⟨u0.heap.size, 0, none⟩) 4 4)) u0.heap.size newL := (hLW.fr F4.out).but hst (by simp; omega)
      have hV := (HR.out.vc.mono (show w.heap.size ≤ _ from Nat.le_trans (Nat.le_of_lt hlow) hWs)).but' hst (fun m hm hx => by have h1 := (HR.out.vc.bk m hm).1; simp at hx; omega)
      have hap : ∀ k, k ∈ bkS M.length ao → k ≠ u0.heap.size := fun k hk => by have h1 := (HR.out.vc.bk k hk).1; have h2 := hLW.lt; omega
      have hF := fr_but (Fr.trans HF.out F3.out) hst (fun m hm => by simp at hm; omega)
      go_wp2
      refine bodyPost_ret (v := .agg #[.slice ao M.length c, .slice (some ⟨u0.heap.size, 0, none⟩) 4 4]) (by simp [results, Try.results17, go_sem, HXn.c0, HXn.c1]) rfl ?_
      exact ⟨M, newL, ao, some ⟨u0.heap.size, 0, none⟩, c, 4, rfl, HA.out, newK hV hL (by omega) hap, HCp.out, hF⟩
set_option maxRecDepth 100000 in
set_option maxHeartbeats 4000000 in
theorem impl_ChcNew (M : List Int) (aM : Option Addr) (cM : Nat) (w : World) (h : Src w M.length (ivl M) aM) (hf : M.length ≤ 1048576) :
    Calls Try.prog 19 #[.slice aM M.length cM] w (ChQ7 (newC7 M) w) := by
  have F0 : Fr w (w.alloc (.cells #[.slice none 0 0, .slice none 0 0] 25)) := Fr.alloc _ _
  have HF := Lib.hid F0
  have HX := Lib.hid (Box2.new w (.slice none 0 0) (.slice none 0 0) 25 _ rfl)
  have P1 := impl_areWords M aM cM 256 _ (h.fr F0) (by omega)
  have e1 : (M.all okB && decide ((M.length : Int) = 256)) = wordsB M 256 := words_eq M 256
  rw [e1] at P1
  have HS := Lib.hid (fun (v : World) (f : Fr (w.alloc (.cells #[.slice none 0 0, .slice none 0 0] 25)) v) => (h.fr F0).fr f)
  have hmk := make_lines
  clear F0 h e1
  cases h1 : wordsB M 256
  · rw [h1] at P1
    have HP := Lib.hid P1
    have HA := Lib.hid (show newC7 M = ch0 by simp only [newC7, h1]; rfl)
    clear P1 h1 hmk
    go_enter Try.func19, Try.ntmps19
    go_wp2_with fail
    generalize (w.alloc (.cells #[.slice none 0 0, .slice none 0 0] 25)) = u0 at *
    refine HP.out.mono ?_
    rintro e w' ⟨rfl, rfl⟩
    obtain ⟨_, z0, z1, q0, q1⟩ := HX.out
    go_wp2
    have hst : But [w.heap.size] u0 ((u0.setCell ⟨w.heap.size, 0, none⟩ (.slice none 0 0)).setCell ⟨w.heap.size, 1, none⟩ (.slice none 0 0)) := (But.refl _ _).set2 _ _ _ (.inl (by simp))
    have HX2n := HX.out.set (.slice none 0 0) (.slice none 0 0)
    refine bodyPost_ret (v := .agg #[.slice none 0 0, .slice none 0 0]) (by simp [results, Try.results19, go_sem, HX2n.c0, HX2n.c1]) rfl ?_
    exact ⟨[], [], none, none, 0, 0, rfl, HA.out, VcH7.nil _ _, Nat.zero_le _, fr_but HF.out hst (fun m hm => by simp at hm; omega)⟩
  · rw [h1] at P1
    have HP := Lib.hid P1
    have HA := Lib.hid (show newC7 M = ⟨M, lns newL⟩ by simp only [newC7, h1]; rfl)
    have HM := Lib.hid (wordsB_true h1).2
    have hs0 : w.heap.size < (w.alloc (.cells #[.slice none 0 0, .slice none 0 0] 25)).heap.size := by simp
    clear P1 h1
    go_enter Try.func19, Try.ntmps19
    go_upto_region 1 with fail
    generalize (w.alloc (.cells #[.slice none 0 0, .slice none 0 0] 25)) = u0 at *
    go_upto_region 3 with (go_at_call 52; refine HP.out.mono ?_; rintro e w' ⟨rfl, rfl⟩)
    go_region_held3 (fun v => w.heap.size < v.heap.size)
      (first | assumption | (show w.heap.size < _; simp; omega) | (show w.heap.size < _; simp) | (have := F3.out.size; omega))
      (first | (go_at_call 53; refine (slices_CloneC M aM cM _ (HS.out _ (by (repeat' first | (with_reducible exact Below.refl _ _) | (with_reducible assumption) | ((with_reducible refine Below.setCell ?_ ?hb _); (case hb => first | exact Nat.le_refl _ | (simp; done) | (simp; omega) | omega)) | ((with_reducible refine Below.alloc ?_ ?hb _); (case hb => first | exact Nat.le_refl _ | (simp; done) | (simp; omega) | omega)) | (with_reducible refine Below.drew ?_)))) (by omega)).mono ?_; rintro e u3 ⟨ao, c, rfl, hr, f3⟩; have HR := Lib.hid hr; have HCp := Lib.hid (rc_cap hr); have F3 := Lib.hid (show Fr u0 u3 from Fr.trans (by (repeat' first | (with_reducible exact Below.refl _ _) | (with_reducible assumption) | ((with_reducible refine Below.setCell ?_ ?hb _); (case hb => first | exact Nat.le_refl _ | (simp; done) | (simp; omega) | omega)) | ((with_reducible refine Below.alloc ?_ ?hb _); (case hb => first | exact Nat.le_refl _ | (simp; done) | (simp; omega) | omega)) | (with_reducible refine Below.drew ?_))) f3); have HX3 := Lib.hid (HX.out.fr F3.out); obtain ⟨lt3, z2, z3, q2, q3⟩ := HX3.out; have hz3 := F3.out.size; have F4 := Lib.hid f3; clear hr f3))
    · have hst : But [w.heap.size] u3 ((u3.setCell ⟨w.heap.size, 0, none⟩ (.slice ao M.length c)).setCell ⟨w.heap.size, 1, none⟩ (.slice (some ⟨u3.heap.size, 0, none⟩) 4 4)) := (But.refl _ _).set2 _ _ _ (.inl (by simp))
      have HX2n := HX3.out.set (.slice ao M.length c) (.slice (some ⟨u3.heap.size, 0, none⟩) 4 4)
      have hlow : w.heap.size < u0.heap.size := hs0
      have hWs : u0.heap.size ≤ (u0.drew).heap.size := (show Fr u0 (u0.drew) by (repeat' first | (with_reducible exact Below.refl _ _) | (with_reducible assumption) | ((with_reducible refine Below.setCell ?_ ?hb _); (case hb => first | exact Nat.le_refl _ | (simp; done) | (simp; omega) | omega)) | ((with_reducible refine Below.alloc ?_ ?hb _); (case hb => first | exact Nat.le_refl _ | (simp; done) | (simp; omega) | omega)) | (with_reducible refine Below.drew ?_))).size
      have HXn := HX2n.fr (Fr.alloc _ (.cells (clL newL).toArray 50))
      have hsz : ((u3.setCell ⟨w.heap.size, 0, none⟩ (.slice ao M.length c)).setCell ⟨w.heap.size, 1, none⟩ (.slice (some ⟨u3.heap.size, 0, none⟩) 4 4)).heap.size = u3.heap.size := by simp
      have hL := rol_lines ((u3.setCell ⟨w.heap.size, 0, none⟩ (.slice ao M.length c)).setCell ⟨w.heap.size, 1, none⟩ (.slice (some ⟨u3.heap.size, 0, none⟩) 4 4))
      rw [hsz] at hL
      have hV := ((HR.out.vc.mono (show w.heap.size ≤ _ from Nat.le_trans (Nat.le_of_lt hlow) hWs)).but' hst (fun m hm hx => by have h1 := (HR.out.vc.bk m hm).1; simp at hx; omega)).fr (Fr.alloc _ (.cells (clL newL).toArray 50))
      have hap : ∀ k, k ∈ bkS M.length ao → k ≠ u3.heap.size := fun k hk => by have := (HR.out.vc.bk k hk).2; omega
      have hF := Fr.trans (fr_but (Fr.trans HF.out F3.out) hst (fun m hm => by simp at hm; omega)) (Fr.alloc _ (.cells (clL newL).toArray 50))
      go_wp2
      refine bodyPost_ret (v := .agg #[.slice ao M.length c, .slice (some ⟨u3.heap.size, 0, none⟩) 4 4]) (by simp [results, Try.results19, go_sem, HXn.c0, HXn.c1]) rfl ?_
      exact ⟨M, newL, ao, some ⟨u3.heap.size, 0, none⟩, c, 4, rfl, HA.out, newK hV hL (by omega) hap, HCp.out, hF⟩
    · have hst : But [w.heap.size] u3 ((u3.setCell ⟨w.heap.size, 0, none⟩ (.slice ao M.length c)).setCell ⟨w.heap.size, 1, none⟩ (.slice (some ⟨u0.heap.size, 0, none⟩) 4 4)) := (But.refl _ _).set2 _ _ _ (.inl (by simp))
      have HX2n := HX3.out.set (.slice ao M.length c) (.slice (some ⟨u0.heap.size, 0, none⟩) 4 4)
      have hlow : w.heap.size < u0.heap.size := hs0
      have hWs : u0.heap.size ≤ ((u0.alloc (.cells (clL newL).toArray 50)).drew).heap.size := (show Fr u0 ((u0.alloc (.cells (clL newL).toArray 50)).drew) by (repeat' first | (with_reducible exact Below.refl _ _) | (with_reducible assumption) | ((with_reducible refine Below.setCell ?_ ?hb _); (case hb => first | exact Nat.le_refl _ | (simp; done) | (simp; omega) | omega)) | ((with_reducible refine Below.alloc ?_ ?hb _); (case hb => first | exact Nat.le_refl _ | (simp; done) | (simp; omega) | omega)) | (with_reducible refine Below.drew ?_))).size
      have HXn := HX2n
      have hLW : RoL ((u0.alloc (.cells (clL newL).toArray 50)).drew) u0.heap.size newL := (rol_at u0 u0.heap.size rfl).fr (Below.drew (Below.refl _ _))
      have hL : RoL ((u3.setCell ⟨w.heap.size, 0, none⟩ (.slice ao M.length c)).setCell ⟨w.heap.size, 1, none⟩ (.slice (some ⟨u0.heap.size, 0, none⟩) 4 4)) u0.heap.size newL := (hLW.fr F4.out).but hst (by simp; omega)
      have hV := (HR.out.vc.mono (show w.heap.size ≤ _ from Nat.le_trans (Nat.le_of_lt hlow) hWs)).but' hst (fun m hm hx => by have h1 := (HR.out.vc.bk m hm).1; simp at hx; omega)
      have hap : ∀ k, k ∈ bkS M.length ao → k ≠ u0.heap.size := fun k hk => by have h1 := (HR.out.vc.bk k hk).1; have h2 := hLW.lt; omega
      have hF := fr_but (Fr.trans HF.out F3.out) hst (fun m hm => by simp at hm; omega)
      go_wp2
      refine bodyPost_ret (v := .agg #[.slice ao M.length c, .slice (some ⟨u0.heap.size, 0, none⟩) 4 4]) (by simp [results, Try.results19, go_sem, HXn.c0, HXn.c1]) rfl ?_
      exact ⟨M, newL, ao, some ⟨u0.heap.size, 0, none⟩, c, 4, rfl, HA.out, newK hV hL (by omega) hap, HCp.out, hF⟩

end Go.Proofs.Ytiijhklkelaogaa
