/- What is seen at a place: the model's l7Look, ChcLook. Rows copied by append; rows of lines that grow by append. -/
import Derived.Test.YtoacgjjpipdkjaaK2
import Derived.Test.YtoacgjjpipdkjaaNt
import Derived.Test.YtoacgjjpipdkjaaGs
import Derived.Test.YtoacgjjpipdkjaaPl5
namespace Go.Proofs.Ytoacgjjpipdkjaa
open Go.RowKit
set_option linter.unusedVariables false
set_option linter.unusedSimpArgs false
set_option maxRecDepth 100000 in
set_option maxHeartbeats 4000000 in
theorem spec_l7Look (M : List Int) (X : List La) (aM aL : Option Addr) (cM cL : Nat) (a : Int) (w : World) (h : SrcC w M X aM aL) (ho : OkC ⟨M, lns X⟩) (ha : plcB a = true) :
    Calls Try.prog 64 #[caV aM aL M X cM cL, .int .i64 a] w fun e w' => e = .returned (.int .i64 (lookC ⟨M, lns X⟩ a)) ∧ Fr w w' := by
  obtain ⟨a0, a1⟩ := (plcB_iff a).1 ha
  obtain ⟨k, hk, hk4⟩ : ∃ k : Nat, a / 4 % 4 = (k : Int) ∧ k < 4 := ⟨slotOf a, (slotOf_int a).symm, slotOf_lt a⟩
  have hks : slotOf a = k := by have := slotOf_int a; omega
  have hXL : X.length = 4 := by have := ho.Ll; simpa using this
  have F0 : Fr w (w.alloc (.cells #[.slice aM M.length cM, .slice aL X.length cL] 30)) := Fr.alloc _ _
  have HF := Lib.hid F0
  have HX := Lib.hid (Box2.new w (.slice aM M.length cM) (.slice aL X.length cL) 30 _ rfl)
  have hS := h.fr F0
  have P := fun w => spec_l7Slot a w a0 (by omega)
  rw [hk] at P
  have HP := Lib.hid P
  have HN : Hid (∀ b, holdsL (X.getD k la0).n a = b → lookC ⟨M, lns X⟩ a = if b = true then (X.getD k la0).n.W.getD (a % 4).toNat 0 else M.getD a.toNat 0) := Lib.hid (fun b hb => by
    simp only [lookC, heldC, hks]
    rw [lns_get, hb])
  have hok := okLns_at ho.L k (by rw [ho.Ll]; exact hk4)
  rw [show (Ch.mk M (lns X)).L = lns X from rfl, lns_get] at hok
  have HOK : Hid (okLn M (k : Int) (X.getD k la0).n = true) := Lib.hid hok
  obtain ⟨gM, oM, rfl, hgM, kM⟩ := hS.M (by have := ho.Ml; simp only at this; omega)
  obtain ⟨g, o, rfl, hgl, hrg⟩ := hS.L.at0 (by omega)
  have hwd := Lib.hid (hS.L.wd k (by omega))
  obtain ⟨d0, d1, d2, d3⟩ := line_at hrg k (by omega)
  have km := kM a.toNat (by have := ho.Ml; simp only at this; omega)
  have hlM : (M.length : Int) = 256 := by have := ho.Ml; simp only at this; omega
  have hlX : (X.length : Int) = 4 := by omega
  have HlM := Lib.hid hlM
  have ham : a < (M.length : Int) := by omega
  have hkX : (k : Int) < (X.length : Int) := by omega
  have hk0 : (0 : Int) ≤ (k : Int) := Int.natCast_nonneg _
  clear P hS hrg kM F0 h ho ha hk hks hXL hok hlM hlX
  simp only [ivl] at km
  generalize M.getD a.toNat 0 = z at *
  generalize hl : X.getD k la0 = l at *
  clear hl
  obtain ⟨⟨u, p, d, W⟩, ao, c⟩ := l
  simp only at d0 d1 d2 d3
  unfold WSrc at hwd
  simp only at hwd
  unfold caV
  cases u
  · have H := Lib.hid (HN.out false rfl)
    clear HN
    go_enter Try.func64, Try.ntmps64
    go_wp2_with fail
    generalize (w.alloc (.cells #[.slice (some ⟨gM, oM, none⟩) M.length cM, .slice (some ⟨g, o, none⟩) X.length cL] 30)) = u0 at *
    obtain ⟨_, c0, c1, _, _⟩ := HX.out
    go_region_held3 (fun v => v.cell? ⟨w.heap.size, 1, none⟩ = some (.slice (some ⟨g, o, none⟩) X.length cL) ∧ v.cell? ⟨g, o + k * 4, none⟩ = some (.bool false) ∧ v.cell? ⟨g, o + k * 4 + 1, none⟩ = some (.int .i64 p) ∧ v.cell? ⟨g, o + k * 4 + 2, none⟩ = some (.bool d) ∧ v.cell? ⟨g, o + k * 4 + 3, none⟩ = some (.slice ao W.length c))
      (go_keep)
      (first | (go_at_call 89; refine (HP.out _).mono ?_; rintro e w' ⟨rfl, rfl⟩))
    all_goals (
      go_wp2
      go_ret
      refine ⟨ret_int H.out.symm, ?_⟩
      refine Fr.trans HF.out ?_
      (repeat' first | (with_reducible exact Below.refl _ _) | (with_reducible assumption) | ((with_reducible refine Below.setCell ?_ ?hb _); (case hb => first | exact Nat.le_refl _ | (simp; done) | (simp; omega) | omega)) | ((with_reducible refine Below.alloc ?_ ?hb _); (case hb => first | exact Nat.le_refl _ | (simp; done) | (simp; omega) | omega)) | (with_reducible refine Below.drew ?_)))
  · by_cases hp : p = blkA a
    · have H := Lib.hid (HN.out true (by simp [holdsL, hp]))
      have hu := okLn_used HOK.out rfl
      have hWl : W.length = 4 := hu.Wl
      obtain ⟨gW, oW, rfl, hgW, kW⟩ := hwd.out (by omega)
      have kw := kW (a % 4).toNat (by omega)
      simp only [ivl] at kw
      generalize W.getD (a % 4).toNat 0 = y at *
      have hwl : (a % 4) < (W.length : Int) := by omega
      have hp' : (p == a - a % 4) = true := by simpa [blkA] using hp
      clear HN hwd hu hWl kW hp
      go_enter Try.func64, Try.ntmps64
      go_wp2_with fail
      generalize (w.alloc (.cells #[.slice (some ⟨gM, oM, none⟩) M.length cM, .slice (some ⟨g, o, none⟩) X.length cL] 30)) = u0 at *
      obtain ⟨_, c0, c1, _, _⟩ := HX.out
      go_region_held3 (fun v => v.cell? ⟨w.heap.size, 1, none⟩ = some (.slice (some ⟨g, o, none⟩) X.length cL) ∧ v.cell? ⟨g, o + k * 4, none⟩ = some (.bool true) ∧ v.cell? ⟨g, o + k * 4 + 1, none⟩ = some (.int .i64 p) ∧ v.cell? ⟨g, o + k * 4 + 2, none⟩ = some (.bool d) ∧ v.cell? ⟨g, o + k * 4 + 3, none⟩ = some (.slice (some ⟨gW, oW, none⟩) W.length c))
        (go_keep)
        (first | (go_at_call 89; refine (HP.out _).mono ?_; rintro e w' ⟨rfl, rfl⟩))
      all_goals (
        go_wp2
        go_ret
        refine ⟨ret_int H.out.symm, ?_⟩
        refine Fr.trans HF.out ?_
        (repeat' first | (with_reducible exact Below.refl _ _) | (with_reducible assumption) | ((with_reducible refine Below.setCell ?_ ?hb _); (case hb => first | exact Nat.le_refl _ | (simp; done) | (simp; omega) | omega)) | ((with_reducible refine Below.alloc ?_ ?hb _); (case hb => first | exact Nat.le_refl _ | (simp; done) | (simp; omega) | omega)) | (with_reducible refine Below.drew ?_)))
    · have H := Lib.hid (HN.out false (by simp [holdsL, hp]))
      have hp' : (p == a - a % 4) = false := by simpa [blkA] using hp
      clear HN hwd hp
      go_enter Try.func64, Try.ntmps64
      go_wp2_with fail
      generalize (w.alloc (.cells #[.slice (some ⟨gM, oM, none⟩) M.length cM, .slice (some ⟨g, o, none⟩) X.length cL] 30)) = u0 at *
      obtain ⟨_, c0, c1, _, _⟩ := HX.out
      go_region_held3 (fun v => v.cell? ⟨w.heap.size, 1, none⟩ = some (.slice (some ⟨g, o, none⟩) X.length cL) ∧ v.cell? ⟨g, o + k * 4, none⟩ = some (.bool true) ∧ v.cell? ⟨g, o + k * 4 + 1, none⟩ = some (.int .i64 p) ∧ v.cell? ⟨g, o + k * 4 + 2, none⟩ = some (.bool d) ∧ v.cell? ⟨g, o + k * 4 + 3, none⟩ = some (.slice ao W.length c))
        (go_keep)
        (first | (go_at_call 89; refine (HP.out _).mono ?_; rintro e w' ⟨rfl, rfl⟩))
      all_goals (
        go_wp2
        go_ret
        refine ⟨ret_int H.out.symm, ?_⟩
        refine Fr.trans HF.out ?_
        (repeat' first | (with_reducible exact Below.refl _ _) | (with_reducible assumption) | ((with_reducible refine Below.setCell ?_ ?hb _); (case hb => first | exact Nat.le_refl _ | (simp; done) | (simp; omega) | omega)) | ((with_reducible refine Below.alloc ?_ ?hb _); (case hb => first | exact Nat.le_refl _ | (simp; done) | (simp; omega) | omega)) | (with_reducible refine Below.drew ?_)))

/-- What is seen at a place, whatever the cache. -/
theorem spec_ChcLook (M : List Int) (X : List La) (aM aL : Option Addr) (cM cL : Nat) (a : Int) (w : World) (h : SrcC w M X aM aL) (hf : FewC M X) :
    Calls Try.prog 19 #[caV aM aL M X cM cL, .int .i64 a] w fun e w' => e = .returned (.int .i64 (lookA ⟨M, lns X⟩ a)) ∧ Fr w w' := by
  have F0 : Fr w (w.alloc (.cells #[.slice aM M.length cM, .slice aL X.length cL] 30)) := Fr.alloc _ _
  have HF := Lib.hid F0
  have HX := Lib.hid (Box2.new w (.slice aM M.length cM) (.slice aL X.length cL) 30 _ rfl)
  have HS := Lib.hid (h.fr F0)
  have E := spec_ChcOk M X aM aL cM cL _ (h.fr F0) hf
  have P := fun w => plc_l1In a w
  have hA : lookA ⟨M, lns X⟩ a = if okC ⟨M, lns X⟩ && plcB a then lookC ⟨M, lns X⟩ a else -1 := rfl
  cases ho : okC ⟨M, lns X⟩
  · rw [ho] at hA E
    have H := Lib.hid hA
    have HE := Lib.hid E
    clear hA E F0 h ho P
    go_enter Try.func19, Try.ntmps19
    go_wp2_with fail
    generalize (w.alloc (.cells #[.slice aM M.length cM, .slice aL X.length cL] 30)) = u0 at *
    obtain ⟨_, c0, c1, _, _⟩ := HX.out
    go_wp2_with (go_at_call 48; refine HE.out.mono ?_; rintro e w' ⟨rfl, hf2⟩; have HF2 := Lib.hid hf2; clear hf2)
    go_ret
    exact ⟨ret_int H.out.symm, Fr.trans HF.out HF2.out⟩
  · cases hp : plcB a
    · rw [ho, hp] at hA
      rw [ho] at E
      rw [hp] at P
      have H := Lib.hid hA
      have HE := Lib.hid E
      have HP := Lib.hid P
      clear hA E F0 h ho P hp
      go_enter Try.func19, Try.ntmps19
      go_wp2_with fail
      generalize (w.alloc (.cells #[.slice aM M.length cM, .slice aL X.length cL] 30)) = u0 at *
      obtain ⟨_, c0, c1, _, _⟩ := HX.out
      go_wp2_with (first | (go_at_call 48; refine HE.out.mono ?_; rintro e w' ⟨rfl, hf2⟩; have HF2 := Lib.hid hf2; clear hf2) | (go_at_call 63; refine (HP.out _).mono ?_; rintro e w' ⟨rfl, rfl⟩))
      go_ret
      exact ⟨ret_int H.out.symm, Fr.trans HF.out HF2.out⟩
    · have HOk := Lib.hid ((okC_iff _).1 ho)
      have HPl := Lib.hid hp
      rw [ho, hp] at hA
      rw [ho] at E
      rw [hp] at P
      have H := Lib.hid hA
      have HE := Lib.hid E
      have HP := Lib.hid P
      clear hA E F0 h ho P hp
      go_enter Try.func19, Try.ntmps19
      go_wp2_with fail
      generalize (w.alloc (.cells #[.slice aM M.length cM, .slice aL X.length cL] 30)) = u0 at *
      obtain ⟨_, c0, c1, _, _⟩ := HX.out
      go_wp2_with fail
      refine HE.out.mono ?_
      rintro e u1 ⟨rfl, hf2⟩
      have HF2 := Lib.hid hf2
      have HL := Lib.hid (spec_l7Look M X aM aL cM cL a u1 (HS.out.fr hf2) HOk.out HPl.out)
      obtain ⟨_, x0, x1, _, _⟩ := HX.out.fr hf2
      clear hf2 c0 c1
      go_wp2_with (first | (go_at_call 63; refine (HP.out _).mono ?_; rintro e w' ⟨rfl, rfl⟩) | (go_at_call 64; refine HL.out.mono ?_; rintro e w' ⟨rfl, hf3⟩; have HF3 := Lib.hid hf3; clear hf3))
      go_ret
      exact ⟨ret_int H.out.symm, Fr.trans (Fr.trans HF.out HF2.out) HF3.out⟩

/-- append of a row onto an empty slice: a copy. -/
theorem wp_append_cp {o : Oper} {a : Act} {w : World} {K : Act → World → Prop} {Q : Exit → Act → World → Prop} (s x : Operand) (ho : o.op = .call { callee := .builtin .append, args := #[s, x], argTypes := #[22, 22] })
    (g : Addr) (hs : a.eval s = .slice (some g) 0 0) (W : List Int) (ax : Option Addr) (cx : Nat) (hx : a.eval x = .slice ax W.length cx) (hsrc : Src w W.length (ivl W) ax) (hn : W.length ≤ 100000000)
    (h : ∀ ao c w', Rc w.heap.size w' W ao c → W.length ≤ c → Fr w w' → K (a.put o.dst (.slice ao W.length c)) w') : o.wp Try.prog a w K Q := by
  obtain ⟨i0, hi, hz0, hz1, hz2⟩ := info_parts info_intV
  by_cases h0 : 0 < W.length
  · obtain ⟨gx, ox, rfl, hgx, hc⟩ := hsrc h0
    refine wp_append_new (P := Try.prog) s x 22 ho 3 i0 (.int .i64 0) Try.underlying22 hi hz0 hz1 hz2 g hs ⟨gx, ox, none⟩ W.length cx (W.map (Value.int .i64)) hx (by simp) (cells_of W hc) (ints_one W) h0 hn ?_
    intro cap zs hzs
    have hcap := hzs rfl
    exact h _ cap _ (.inr ⟨w.heap.size, rfl, Nat.le_refl _, ro_new w.drew W zs 3, ca_new w.drew W zs cap hcap, h0⟩) (by omega) ((Below.drew (Below.refl _ _)).alloc (Nat.le_refl _) _)
  · have hz : W.length = 0 := by omega
    refine wp_append_zero (P := Try.prog) s x 22 ho 3 i0 Try.underlying22 hi (some g) 0 0 (Nat.le_refl _) hs ax cx (by rw [hx, hz]) ?_
    have := h (some g) 0 w (.inl ⟨hz, rfl⟩) (by omega) (Below.refl _ _)
    rwa [hz] at this
theorem info_lineV : (Try.prog.info? 59).map (fun i => (i.zero, i.size, i.bytes)) = some (some (lav la0), 4, 48) := by kernel_rfl
/-- A row of lines has just as much room as its slice says. -/
def CaL (u : World) (g n c : Nat) : Prop := ∃ cur, u.heap[g]? = some (.cells cur 59 (0, 0)) ∧ cur.size = c * 4 ∧ n ≤ c ∧ c ≤ maxLen
theorem CaL.but {L : List Nat} {u u' : World} {g n c : Nat} (h : CaL u g n c) (f : But L u u') (hn : g ∉ L) : CaL u' g n c := by
  obtain ⟨cur, h1, h2⟩ := h
  have hg : g < u.heap.size := by
    by_cases hh : g < u.heap.size
    · exact hh
    · rw [Array.getElem?_eq_none (by omega)] at h1; cases h1
  exact ⟨cur, by rw [f.block g hg hn]; exact h1, h2⟩
theorem cal_new (w : World) (X : List La) (zs : Array Value) (c : Nat) (hc : X.length * 4 + zs.size = c * 4 ∧ X.length ≤ c ∧ c ≤ maxLen) : CaL (w.alloc (.cells ((clL X).toArray ++ zs) 59)) w.heap.size X.length c := by
  refine ⟨(clL X).toArray ++ zs, ?_, by simp [clL_len]; omega, hc.2.1, hc.2.2⟩
  show (w.heap.push _)[w.heap.size]? = _
  simp
theorem cal_own {u : World} {B g c : Nat} {X : List La} (h : CaL u g X.length c) (r : RoL u g X) (hB : B ≤ g) : u.ownsRow B 59 4 (.slice (some ⟨g, 0, none⟩) X.length c) X.length (clL X) := by
  obtain ⟨cur, h1, h2, h3, h4⟩ := h
  refine ⟨by rw [clL_len]; omega, .inr ⟨g, c, cur, rfl, hB, h1, h3, h4, h2, ?_⟩⟩
  apply List.ext_getElem?
  intro i
  by_cases hi : i < X.length * 4
  · have hi' : i < (clL X).length := by rw [clL_len]; omega
    have hc := r.rng i _ (List.getElem?_eq_getElem hi')
    rw [Nat.zero_add] at hc
    simp only [World.cell?, h1] at hc
    rw [List.getElem?_take_of_lt hi, List.getElem?_eq_getElem hi', ← hc]
    simp
  · rw [List.getElem?_eq_none (by simp; omega), List.getElem?_eq_none (by rw [clL_len]; omega)]
theorem own_rcl {B : Nat} {u : World} {v : Value} {n : Nat} {X : List La} (h : u.ownsRow B 59 4 v n (clL X)) (hn : n = X.length) (h0 : 0 < X.length) : ∃ g c, v = .slice (some ⟨g, 0, none⟩) X.length c ∧ B ≤ g ∧ RoL u g X ∧ CaL u g X.length c := by
  subst hn
  rcases h.2 with ⟨_, hn⟩ | ⟨g, c, cur, rfl, hB, hg, hc, hm, hs, _⟩
  · omega
  · exact ⟨g, c, rfl, hB, (rol_own h).1, cur, hg, by simpa using hs, hc, hm⟩
/-- A row of lines that the call owns, with the room that its slice says; or an empty one. -/
def RcL (B : Nat) (u : World) (X : List La) (ao : Option Addr) (c : Nat) : Prop := (X.length = 0 ∧ c = 0 ∧ ao = none) ∨ ∃ g, ao = some ⟨g, 0, none⟩ ∧ B ≤ g ∧ RoL u g X ∧ CaL u g X.length c ∧ 0 < X.length
theorem RcL.but {B : Nat} {u u' : World} {X : List La} {ao : Option Addr} {c : Nat} {L : List Nat} (h : RcL B u X ao c) (f : But L u u') (hL : ∀ g, ao = some ⟨g, 0, none⟩ → g ∉ L) : RcL B u' X ao c := by
  rcases h with h | ⟨g, e, hB, r, k, h0⟩
  · exact .inl h
  · exact .inr ⟨g, e, hB, r.but f (hL g e), k.but f (hL g e), h0⟩
theorem RcL.fr {B : Nat} {u u' : World} {X : List La} {ao : Option Addr} {c : Nat} (h : RcL B u X ao c) (f : Fr u u') : RcL B u' X ao c := h.but (L := []) (But.of f) (by simp)
theorem lac_one (y : La) : ∀ v ∈ lac y, v.oneCell' = true := fun v hv => by
  simp [lac] at hv
  rcases hv with rfl | rfl | rfl | rfl <;> rfl
theorem clL_two (X : List La) (y : La) : clL X ++ lac y = clL (X ++ [y]) := by simp [clL]
/-- append of one line onto a row that is owned, or none. -/
theorem wp_append_rcL {o : Oper} {a : Act} {w : World} {K : Act → World → Prop} {Q : Exit → Act → World → Prop} (s x : Operand) (ho : o.op = .call { callee := .builtin .append, args := #[s, x], argTypes := #[28, 28] })
    (B : Nat) (X : List La) (ao : Option Addr) (c : Nat) (hs : a.eval s = .slice ao X.length c) (hr : RcL B w X ao c) (y : La) (gx : Nat) (hx : a.eval x = .slice (some ⟨gx, 0, none⟩) 1 1)
    (hcell : ∀ j v, (lac y)[j]? = some v → w.cell? ⟨gx, j, none⟩ = some v) (hlen : X.length ≤ 1000) (hB : B ≤ w.heap.size)
    (h : ∀ g c' w', RoL w' g (X ++ [y]) → CaL w' g (X ++ [y]).length c' → B ≤ g → (ao = some ⟨g, 0, none⟩ ∨ w.heap.size ≤ g) → But (bkS X.length ao) w w' → K (a.put o.dst (.slice (some ⟨g, 0, none⟩) (X.length + 1) c')) w') : o.wp Try.prog a w K Q := by
  obtain ⟨i0, hi, hz0, hz1, hz2⟩ := info_partsN info_lineV
  have hmx : maxLen = 9223372036854775807 := rfl
  have hcs : ∀ (j : Nat) u, (lac y)[j]? = some u → w.cell? ((⟨gx, 0, none⟩ : Addr).add j) = some u := fun j u hu => by rw [Addr.add_mid, Nat.zero_add]; exact hcell j u hu
  have fromOwn : ∀ (v : Value), v = .slice ao X.length c → w.ownsRow B 59 4 v X.length (clL X) → (∀ k, v.ownBlock = some k → (0 < X.length ∧ ao = some ⟨k, 0, none⟩)) → o.wp Try.prog a w K Q := fun v hv how hbk => by
    refine wp_append_own_at (P := Try.prog) (w := w) s x 28 ho B 59 i0 (lav la0) 4 48 Try.underlying28 hi hz0 hz1 hz2 rfl (by decide) v X.length (clL X) (hs.trans hv.symm) how ⟨gx, 0, none⟩ 1 1 (lac y) hx rfl hcs (lac_one y) (by omega) (by omega) hB ?_
    intro v' w' ho' hg hb
    rw [clL_two] at ho'
    obtain ⟨g, c', rfl, hBg, r, ca⟩ := own_rcl ho' (by simp) (by simp)
    have hbb : v.ownBlock = some g ∨ w.heap.size ≤ g := by
      rcases hb with hb | hb
      · exact .inl hb.symm
      · right; simp only [Value.ownBlock, Option.some.injEq] at hb; omega
    have hK := h g c' w' r ca hBg (hbb.imp (fun hb => (hbk g hb).2) (fun hb => hb)) ?_
    · rwa [show (X ++ [y]).length = X.length + 1 by simp]
    · cases hvb : v.ownBlock with
      | none => rw [hvb] at hg; exact (but_grown0 hg).mono (fun k hk _ => by cases hk)
      | some k =>
        rw [hvb] at hg
        obtain ⟨h0, e⟩ := hbk k hvb
        refine (But.mono (L := [k]) ⟨hg.os, hg.tape, hg.output, hg.size, fun j hj hn => hg.block j hj (fun e => hn (by simp at e; simp [e]))⟩ (fun j hj _ => ?_))
        rw [List.mem_singleton.1 hj, e]
        exact bkS_mem (b := ⟨k, 0, none⟩) h0
  rcases hr with ⟨h0, hc, e⟩ | ⟨g, e, hBg, r, ca, h0⟩
  · exact fromOwn (.slice none 0 0) (by rw [h0, hc, e]) ⟨by rw [clL_len, h0], .inl ⟨rfl, h0⟩⟩ (fun k hk => by simp [Value.ownBlock] at hk)
  · exact fromOwn (.slice (some ⟨g, 0, none⟩) X.length c) (by rw [e]) (cal_own ca r hBg) (fun k hk => by simp only [Value.ownBlock, Option.some.injEq] at hk; subst hk; exact ⟨h0, e⟩)

end Go.Proofs.Ytoacgjjpipdkjaa
