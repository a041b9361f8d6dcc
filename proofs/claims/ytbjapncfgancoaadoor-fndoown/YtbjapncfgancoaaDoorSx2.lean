/- More of what the laws about one instruction lean on: rows that are the same, the C row behind a stop. -/
import Derived.Test.YtbjapncfgancoaaDoorSx
import Derived.Test.YtbjapncfgancoaaDoorSlim
namespace Go.Proofs.YtbjapncfgancoaaDoor
open Go.RowKit
set_option linter.unusedVariables false
set_option linter.unusedSimpArgs false
theorem same_ints {u : World} {g x n cg cx : Nat} {xs : List Int} (h : Ro u g xs) (h' : Ro u x xs) (hl : xs.length = n) (hn : n ≤ 1000) :
    Calls Tryd.prog 42 #[.slice (some ⟨x, 0, none⟩) n cx, .slice (some ⟨g, 0, none⟩) n cg] u fun e u' => e = .returned (.bool true) ∧ Fr u u' := by
  subst hl
  refine (laws_haInts_same 0 0 u xs.length (fun i => xs.getD i 0) _ _ cx cg (h'.vc (Nat.zero_le _)) (h.vc (Nat.zero_le _)) (by omega)).mono ?_
  rintro e u' ⟨rfl, m, rfl⟩
  exact ⟨rfl, ((But.refl [] u).drewN m).below (Nat.le_refl _) (fun k hk => by cases hk)⟩
theorem stopC_0 {s : St} {why : Int} (hl : s.C.length = 5) : (stopC s why).getD 0 0 = s.pc := by
  unfold stopC
  rw [getD_set, if_neg (by omega), getD_set, if_neg (by omega), getD_set, if_pos ⟨rfl, by omega⟩]
theorem stopC_1 {s : St} {why : Int} (hl : s.C.length = 5) : (stopC s why).getD 1 0 = why := by
  unfold stopC
  rw [getD_set, if_neg (by omega), getD_set, if_pos ⟨rfl, by simp [hl]⟩]
theorem stopC_3 {s : St} {why : Int} (hl : s.C.length = 5) : (stopC s why).getD 3 0 = 2 * (s.C.getD 3 0 % 2) := by
  unfold stopC
  rw [getD_set, if_pos ⟨rfl, by simp [hl]⟩]
theorem zS_ok {p : Int} (hp : okB p = true) : OkS ⟨p, zeros 8, zeros 5, zeros 256⟩ :=
  ⟨hp, zeros_ok 8, zeros_len 8, zeros_ok 5, zeros_len 5, zeros_ok 256, zeros_len 256, zeros_get 8 0, by show (zeros 5).getD 3 0 < 4; rw [zeros_get]; decide⟩
theorem new_to (ws : List Int) (ao : Option Addr) (n cap : Nat) (w : World) (h : Src w ws.length (ivl ws) ao) (hn : ws.length = n) (hg : goodW ws = true) :
    Calls Tryd.prog 41 #[.slice ao n cap] w fun e w' =>
      ∃ gr gc gm cr cc cm, e = .returned (.agg #[.int .i64 0, .slice (some ⟨gr, 0, none⟩) 8 cr, .slice (some ⟨gc, 0, none⟩) 5 cc, .slice (some ⟨gm, 0, none⟩) 256 cm]) ∧ Own w' gr gc gm ⟨0, zeros 8, zeros 5, newM ws⟩ ∧ w.heap.size ≤ gr ∧ w.heap.size ≤ gc ∧ w.heap.size ≤ gm ∧ Fr w w' := by
  subst hn
  have hl : ws.length ≤ 100000000 := by
    simp only [goodW, Bool.and_eq_true, decide_eq_true_eq] at hg
    omega
  refine (impl_PlnNew ws ao cap w h hl).mono ?_
  rintro e w' (⟨_, hq⟩ | ⟨hq, _⟩)
  · exact hq
  · rw [hg] at hq; cases hq
theorem src_none (w : World) (ao : Option Addr) : Src w ([] : List Int).length (ivl []) ao := fun h => by cases h
theorem pag_to {s : St} {u : World} {g1 g2 g3 r c m : Nat} {p a v : Int} {save : Bool} (h : Own u g1 g2 g3 s) (hk : OkS s) (hp : s.pc = p) (ha : okB a = true) (hv : see s.C s.M a save = v) :
    Calls Tryd.prog 44 #[.agg #[.int .i64 p, .slice (some ⟨g1, 0, none⟩) 8 r, .slice (some ⟨g2, 0, none⟩) 5 c, .slice (some ⟨g3, 0, none⟩) 256 m], .int .i64 a, .bool save] u fun e w' => e = .returned (.int .i64 v) ∧ Fr u w' := by
  subst hp
  have E := impl_PagSee s (some ⟨g1, 0, none⟩) (some ⟨g2, 0, none⟩) (some ⟨g3, 0, none⟩) r c m a save u h.src (ok_few20 hk).few
  rw [hk.Rl, hk.Cl, hk.Ml, show seeD s a save = v from by unfold seeD; rw [if_pos ⟨(okS_iff s).2 hk, ha⟩, hv]] at E
  exact E
/-- A machine that sees pages by a table at 64: page 0 is page 0, pages 1 and 2 have one frame, of which the first may be saved to. -/
def pgC : List Int := ((zeros 5).set 2 64).set 3 1
def pgM (f w1 w2 w3 : Int) : List Int := ((((((zeros 256).set 64 16).set 65 (48 + f)).set 66 (16 + f)).set 0 w1).set 1 w2).set 2 w3
def pgR (ad b : Int) : List Int := ((zeros 8).set 1 ad).set 2 b
theorem pg_see {M : List Int} {addr x : Int} {save : Bool} (h0 : 0 ≤ addr) (h1 : addr < 256) (hx : M.getD (64 + addr / 16).toNat 0 = x) : see pgC M addr save = frame x addr save := by
  unfold see
  rw [show pgC.getD 3 0 = 1 from rfl, show pgC.getD 2 0 = 64 from rfl, if_neg (by decide), if_neg (by omega), hx]
theorem pg_len (f w1 w2 w3 : Int) : (pgM f w1 w2 w3).length = 256 := by simp only [pgM, List.length_set, zeros_len]
theorem pg_get (f w1 w2 w3 : Int) (j : Nat) (hj : j < 256) : (pgM f w1 w2 w3).getD j 0 = if j = 2 then w3 else if j = 1 then w2 else if j = 0 then w1 else if j = 66 then 16 + f else if j = 65 then 48 + f else if j = 64 then 16 else 0 := by
  unfold pgM
  simp only [getD_set, List.length_set, zeros_len, hj, and_true, zeros_get]
  simp only [eq_comm (a := j)]
theorem pg_ok {f w1 w2 w3 ad b : Int} (f0 : 0 ≤ f) (f1 : f < 16) (h1 : okB w1 = true) (h2 : okB w2 = true) (h3 : okB w3 = true) (ha : okB ad = true) (hb : okB b = true) : OkS ⟨0, pgR ad b, pgC, pgM f w1 w2 w3⟩ :=
  ⟨rfl, ok_set (ok_set (zeros_ok 8) _ ha) _ hb, by simp [pgR, zeros], ok_set (ok_set (zeros_ok 5) _ rfl) _ rfl, by simp [pgC, zeros], ok_set (ok_set (ok_set (ok_set (ok_set (ok_set (zeros_ok 256) _ rfl) _ (okB_mk (by omega) (by omega))) _ (okB_mk (by omega) (by omega))) _ h1) _ h2) _ h3, pg_len _ _ _ _, rfl, by show pgC.getD 3 0 < 4; decide⟩
theorem pg_1 {f c w1 w2 w3 b : Int} (f0 : 10 ≤ f) (f1 : f < 16) (c0 : 0 ≤ c) (c1 : c < 16) (hw1 : worD 4 0 1 2 0 0 = w1) (hi : iok 4 0 1 2 0 0 = true) :
    stepS ⟨0, pgR (16 + c) b, pgC, pgM f w1 w2 w3⟩ false = (⟨1, pgR (16 + c) b, pgC, (pgM f w1 w2 w3).set (f * 16 + c).toNat b⟩, ⟨0, w1, 0, 0, 0, f * 16 + c, b⟩) := by
  have hs : see pgC (pgM f w1 w2 w3) 0 false = 0 := by rw [pg_see (x := 16) (by omega) (by omega) (by rw [pg_get _ _ _ _ _ (by decide)]; rfl)]; rfl
  rw [see_step (s := ⟨0, pgR (16 + c) b, pgC, pgM f w1 w2 w3⟩) hi hs (by omega) (by rw [hw1, pg_get _ _ _ _ _ (by decide)]; rfl), eff_4, hw1]
  have hq : see pgC (pgM f w1 w2 w3) (16 + c) true = f * 16 + c := by
    rw [pg_see (x := 48 + f) (by omega) (by omega) (by rw [show (64 + (16 + c) / 16).toNat = 65 by omega, pg_get _ _ _ _ _ (by decide)]; rfl)]
    unfold frame
    rw [if_neg (by omega)]
    omega
  rw [show (rg ⟨0, pgR (16 + c) b, pgC, pgM f w1 w2 w3⟩ 1 + 0) % 65536 = 16 + c from by show (16 + c + 0) % 65536 = 16 + c; omega]
  simp only [hq]
  rw [if_neg (by omega)]
  rfl
theorem pg_2 {f c w1 w2 w3 b : Int} (f0 : 10 ≤ f) (f1 : f < 16) (c0 : 0 ≤ c) (c1 : c < 16) (hw2 : worD 3 3 1 0 0 16 = w2) (hi : iok 3 3 1 0 0 16 = true) :
    stepS ⟨1, pgR (16 + c) b, pgC, (pgM f w1 w2 w3).set (f * 16 + c).toNat b⟩ false = (⟨2, (pgR (16 + c) b).set 3 b, pgC, (pgM f w1 w2 w3).set (f * 16 + c).toNat b⟩, ⟨1, w2, 0, 3, b, -1, 0⟩) := by
  have hg : ∀ j : Nat, j < 100 → ((pgM f w1 w2 w3).set (f * 16 + c).toNat b).getD j 0 = (pgM f w1 w2 w3).getD j 0 := fun j hj => by rw [getD_set, if_neg (by omega)]
  have hs : see pgC ((pgM f w1 w2 w3).set (f * 16 + c).toNat b) 1 false = 1 := by rw [pg_see (x := 16) (by omega) (by omega) (by rw [hg _ (by decide), pg_get _ _ _ _ _ (by decide)]; rfl)]; rfl
  rw [see_step (s := ⟨1, pgR (16 + c) b, pgC, (pgM f w1 w2 w3).set (f * 16 + c).toNat b⟩) hi hs (by omega) (by rw [hw2, hg _ (by decide), pg_get _ _ _ _ _ (by decide)]; rfl), eff_3, hw2]
  have hq : see pgC ((pgM f w1 w2 w3).set (f * 16 + c).toNat b) (32 + c) false = f * 16 + c := by
    rw [pg_see (x := 16 + f) (by omega) (by omega) (by rw [show (64 + (32 + c) / 16).toNat = 66 by omega, hg _ (by decide), pg_get _ _ _ _ _ (by decide)]; rfl)]
    unfold frame
    rw [if_neg (by simp; omega)]
    omega
  rw [show (rg ⟨1, pgR (16 + c) b, pgC, (pgM f w1 w2 w3).set (f * 16 + c).toNat b⟩ 1 + 16) % 65536 = 32 + c from by show (16 + c + 16) % 65536 = 32 + c; omega]
  simp only [hq]
  rw [if_neg (by omega), show mm ⟨1, pgR (16 + c) b, pgC, (pgM f w1 w2 w3).set (f * 16 + c).toNat b⟩ (f * 16 + c) = b from by show ((pgM f w1 w2 w3).set (f * 16 + c).toNat b).getD (f * 16 + c).toNat 0 = b; rw [getD_set, if_pos ⟨rfl, by rw [pg_len]; omega⟩]]
  rfl
theorem pg_see3 {f c w1 w2 w3 : Int} (f0 : 10 ≤ f) (f1 : f < 16) (c0 : 0 ≤ c) (c1 : c < 16) : see pgC (pgM f w1 w2 w3) (32 + c) true = -1 := by
  rw [pg_see (x := 16 + f) (by omega) (by omega) (by rw [show (64 + (32 + c) / 16).toNat = 66 by omega, pg_get _ _ _ _ _ (by decide)]; rfl)]
  unfold frame
  rw [if_pos (by right; exact ⟨rfl, by omega⟩)]
theorem pg_see1 {f c w1 w2 w3 : Int} (f0 : 10 ≤ f) (f1 : f < 16) (c0 : 0 ≤ c) (c1 : c < 16) : see pgC (pgM f w1 w2 w3) (16 + c) true = f * 16 + c := by
  rw [pg_see (x := 48 + f) (by omega) (by omega) (by rw [show (64 + (16 + c) / 16).toNat = 65 by omega, pg_get _ _ _ _ _ (by decide)]; rfl)]
  unfold frame
  rw [if_neg (by omega)]
  omega
theorem pg_see4 {f w1 w2 w3 : Int} : see pgC (pgM f w1 w2 w3) 48 false = -1 := by
  rw [pg_see (x := 0) (by omega) (by omega) (by rw [pg_get _ _ _ _ _ (by decide)]; rfl)]
  rfl
theorem pg_3 {f c w1 w2 w3 b : Int} (f0 : 10 ≤ f) (f1 : f < 16) (c0 : 0 ≤ c) (c1 : c < 16) (hw3 : worD 4 0 1 2 0 16 = w3) (hi : iok 4 0 1 2 0 16 = true) {R : List Int} (hR : R.getD 1 0 = 16 + c) :
    stepS ⟨2, R, pgC, (pgM f w1 w2 w3).set (f * 16 + c).toNat b⟩ false = (⟨8, R, stopC ⟨2, R, pgC, (pgM f w1 w2 w3).set (f * 16 + c).toNat b⟩ 4, (pgM f w1 w2 w3).set (f * 16 + c).toNat b⟩, ⟨2, w3, 4, 0, 0, -1, 0⟩) := by
  have hg : ∀ j : Nat, j < 100 → ((pgM f w1 w2 w3).set (f * 16 + c).toNat b).getD j 0 = (pgM f w1 w2 w3).getD j 0 := fun j hj => by rw [getD_set, if_neg (by omega)]
  have hs : see pgC ((pgM f w1 w2 w3).set (f * 16 + c).toNat b) 2 false = 2 := by rw [pg_see (x := 16) (by omega) (by omega) (by rw [hg _ (by decide), pg_get _ _ _ _ _ (by decide)]; rfl)]; rfl
  rw [see_step (s := ⟨2, R, pgC, (pgM f w1 w2 w3).set (f * 16 + c).toNat b⟩) hi hs (by omega) (by rw [hw3, hg _ (by decide), pg_get _ _ _ _ _ (by decide)]; rfl), eff_4, hw3]
  have hq : see pgC ((pgM f w1 w2 w3).set (f * 16 + c).toNat b) (32 + c) true = -1 := by
    rw [pg_see (x := 16 + f) (by omega) (by omega) (by rw [show (64 + (32 + c) / 16).toNat = 66 by omega, hg _ (by decide), pg_get _ _ _ _ _ (by decide)]; rfl)]
    unfold frame
    rw [if_pos (by right; exact ⟨rfl, by omega⟩)]
  rw [show (rg ⟨2, R, pgC, (pgM f w1 w2 w3).set (f * 16 + c).toNat b⟩ 1 + 16) % 65536 = 32 + c from by show (R.getD 1 0 + 16) % 65536 = 32 + c; rw [hR]; omega]
  simp only [hq]
  rw [if_pos (by decide)]
  rfl
theorem Cel.ro {u : World} {g : Nat} {xs : List Int} (h : Cel u g (xs.map (Value.int .i64))) : Ro u g xs := by
  refine ⟨h.lt, fun i hi => ?_, fun i hi => h.fro i (by simpa using hi)⟩
  rw [h.cel i (by simpa using hi)]
  simp [List.getD_eq_getElem?_getD, hi]
theorem newM_two (a b : Int) : newM [a, b] = a :: b :: zeros 254 := rfl
theorem nS_ok {a b : Int} (ha : okB a = true) (hb : okB b = true) : OkS ⟨0, zeros 8, zeros 5, newM [a, b]⟩ :=
  ⟨rfl, zeros_ok 8, zeros_len 8, zeros_ok 5, zeros_len 5, by rw [newM_two]; simp only [List.all_cons, ha, hb, zeros_ok, Bool.and_true], by rw [newM_two]; simp only [List.length_cons, zeros_len], zeros_get 8 0, by show (zeros 5).getD 3 0 < 4; rw [zeros_get]; decide⟩
theorem good_two {a b : Int} (ha : okB a = true) (hb : okB b = true) : goodW [a, b] = true := by simp [goodW, ha, hb]
/-- Eight instructions that put something into register 0. -/
def insL (f8 f5 : Int) : List Value := [.int .i64 0, .int .i64 0, .int .i64 1, .int .i64 2, .int .i64 f8, .int .i64 0, .int .i64 1, .int .i64 0, .int .i64 1, .int .i64 0, .int .i64 0, .int .i64 5, .int .i64 2, .int .i64 0, .int .i64 0, .int .i64 0, .int .i64 0, .int .i64 9, .int .i64 3, .int .i64 0, .int .i64 0, .int .i64 0, .int .i64 0, .int .i64 20, .int .i64 7, .int .i64 0, .int .i64 0, .int .i64 0, .int .i64 0, .int .i64 3, .int .i64 8, .int .i64 0, .int .i64 0, .int .i64 0, .int .i64 0, .int .i64 12, .int .i64 9, .int .i64 0, .int .i64 1, .int .i64 2, .int .i64 0, .int .i64 0, .int .i64 14, .int .i64 0, .int .i64 0, .int .i64 0, .int .i64 f5, .int .i64 0]
theorem ins_at (f8 f5 : Int) (h8 : 0 ≤ f8) (h8' : f8 < 8) (h5 : 0 ≤ f5) (h5' : f5 < 5) (k : Nat) (hk : k < 8) :
    ∃ i0 i1 i2 i3 i4 i5 : Int, iok i0 i1 i2 i3 i4 i5 = true ∧ (∀ u g, Cel u g (insL f8 f5) → u.cell? ⟨g, k * 6, none⟩ = some (.int .i64 i0) ∧ u.cell? ⟨g, k * 6 + 1, none⟩ = some (.int .i64 i1) ∧ u.cell? ⟨g, k * 6 + 2, none⟩ = some (.int .i64 i2) ∧ u.cell? ⟨g, k * 6 + 3, none⟩ = some (.int .i64 i3) ∧ u.cell? ⟨g, k * 6 + 4, none⟩ = some (.int .i64 i4) ∧ u.cell? ⟨g, k * 6 + 5, none⟩ = some (.int .i64 i5)) ∧
      ∀ wd a b, okB a = true → okB b = true → worD i0 i1 i2 i3 i4 i5 = wd → ∃ p, okB p = true ∧ stepS (hS 40 wd a b) false = (⟨p, hR a b, zeros 5, hM 40 wd⟩, ⟨40, wd, 0, 0, 0, -1, 0⟩) := by
  have hc : k = 0 ∨ k = 1 ∨ k = 2 ∨ k = 3 ∨ k = 4 ∨ k = 5 ∨ k = 6 ∨ k = 7 := by omega
  rcases hc with rfl | rfl | rfl | rfl | rfl | rfl | rfl | rfl
  · refine ⟨0, 0, 1, 2, f8, 0, by simp [iok, okAt, layN, layL, eL, eG, encL]; omega, fun u g h => ⟨h.cel 0 (by show 0 < 48; decide), h.cel 1 (by show 1 < 48; decide), h.cel 2 (by show 2 < 48; decide), h.cel 3 (by show 3 < 48; decide), h.cel 4 (by show 4 < 48; decide), h.cel 5 (by show 5 < 48; decide)⟩, fun wd a b ha hb hw => ?_⟩
    exact ⟨41, rfl, by rw [sup_eff (hS_sup (by omega) (by omega)) (by simp [iok, okAt, layN, layL, eL, eG, encL]; omega) hw, eff_0]; rfl⟩
  · refine ⟨1, 0, 1, 0, 0, 5, by simp [iok, okAt, layN, layL, eL, eG, encL], fun u g h => ⟨h.cel 6 (by show 6 < 48; decide), h.cel 7 (by show 7 < 48; decide), h.cel 8 (by show 8 < 48; decide), h.cel 9 (by show 9 < 48; decide), h.cel 10 (by show 10 < 48; decide), h.cel 11 (by show 11 < 48; decide)⟩, fun wd a b ha hb hw => ?_⟩
    exact ⟨41, rfl, by rw [sup_eff (hS_sup (by omega) (by omega)) (by simp [iok, okAt, layN, layL, eL, eG, encL]) hw, eff_1]; rfl⟩
  · refine ⟨2, 0, 0, 0, 0, 9, by simp [iok, okAt, layN, layL, eL, eG, encL], fun u g h => ⟨h.cel 12 (by show 12 < 48; decide), h.cel 13 (by show 13 < 48; decide), h.cel 14 (by show 14 < 48; decide), h.cel 15 (by show 15 < 48; decide), h.cel 16 (by show 16 < 48; decide), h.cel 17 (by show 17 < 48; decide)⟩, fun wd a b ha hb hw => ?_⟩
    exact ⟨41, rfl, by rw [sup_eff (hS_sup (by omega) (by omega)) (by simp [iok, okAt, layN, layL, eL, eG, encL]) hw, eff_2]; rfl⟩
  · refine ⟨3, 0, 0, 0, 0, 20, by simp [iok, okAt, layN, layL, eL, eG, encL], fun u g h => ⟨h.cel 18 (by show 18 < 48; decide), h.cel 19 (by show 19 < 48; decide), h.cel 20 (by show 20 < 48; decide), h.cel 21 (by show 21 < 48; decide), h.cel 22 (by show 22 < 48; decide), h.cel 23 (by show 23 < 48; decide)⟩, fun wd a b ha hb hw => ?_⟩
    exact ⟨41, rfl, (sup_load (v := (hM 40 wd).getD 20 0) (q := 20) (hS_sup (by omega) (by omega)) (by simp [iok, okAt, layN, layL, eL, eG, encL]) hw rfl (by omega) (by omega) rfl).trans rfl⟩
  · refine ⟨7, 0, 0, 0, 0, 3, by simp [iok, okAt, layN, layL, eL, eG, encL], fun u g h => ⟨h.cel 24 (by show 24 < 48; decide), h.cel 25 (by show 25 < 48; decide), h.cel 26 (by show 26 < 48; decide), h.cel 27 (by show 27 < 48; decide), h.cel 28 (by show 28 < 48; decide), h.cel 29 (by show 29 < 48; decide)⟩, fun wd a b ha hb hw => ?_⟩
    exact ⟨44, rfl, (sup_jump (hS_sup (by omega) (by omega)) (by simp [iok, okAt, layN, layL, eL, eG, encL]) hw).trans rfl⟩
  · refine ⟨8, 0, 0, 0, 0, 12, by simp [iok, okAt, layN, layL, eL, eG, encL], fun u g h => ⟨h.cel 30 (by show 30 < 48; decide), h.cel 31 (by show 31 < 48; decide), h.cel 32 (by show 32 < 48; decide), h.cel 33 (by show 33 < 48; decide), h.cel 34 (by show 34 < 48; decide), h.cel 35 (by show 35 < 48; decide)⟩, fun wd a b ha hb hw => ?_⟩
    exact ⟨12, rfl, (sup_call (hS_sup (by omega) (by omega)) (by simp [iok, okAt, layN, layL, eL, eG, encL]) hw).trans rfl⟩
  · refine ⟨9, 0, 1, 2, 0, 0, by simp [iok, okAt, layN, layL, eL, eG, encL], fun u g h => ⟨h.cel 36 (by show 36 < 48; decide), h.cel 37 (by show 37 < 48; decide), h.cel 38 (by show 38 < 48; decide), h.cel 39 (by show 39 < 48; decide), h.cel 40 (by show 40 < 48; decide), h.cel 41 (by show 41 < 48; decide)⟩, fun wd a b ha hb hw => ?_⟩
    exact ⟨41, rfl, by rw [sup_eff (hS_sup (by omega) (by omega)) (by simp [iok, okAt, layN, layL, eL, eG, encL]) hw, eff_9]; rfl⟩
  · refine ⟨14, 0, 0, 0, f5, 0, by simp [iok, okAt, layN, layL, eL, eG, encL]; omega, fun u g h => ⟨h.cel 42 (by show 42 < 48; decide), h.cel 43 (by show 43 < 48; decide), h.cel 44 (by show 44 < 48; decide), h.cel 45 (by show 45 < 48; decide), h.cel 46 (by show 46 < 48; decide), h.cel 47 (by show 47 < 48; decide)⟩, fun wd a b ha hb hw => ?_⟩
    exact ⟨41, rfl, (sup_get (hS_sup (by omega) (by omega)) (by simp [iok, okAt, layN, layL, eL, eG, encL]; omega) hw).trans rfl⟩
theorem ok_to {s : St} {u : World} {g1 g2 g3 r c m : Nat} {p : Int} (h : Own u g1 g2 g3 s) (hk : OkS s) (hp : s.pc = p) :
    Calls Tryd.prog 43 #[.agg #[.int .i64 p, .slice (some ⟨g1, 0, none⟩) 8 r, .slice (some ⟨g2, 0, none⟩) 5 c, .slice (some ⟨g3, 0, none⟩) 256 m]] u fun e w' => e = .returned (.bool true) ∧ Fr u w' := by
  subst hp
  have E := impl_PlnOk s (some ⟨g1, 0, none⟩) (some ⟨g2, 0, none⟩) (some ⟨g3, 0, none⟩) r c m u h.src (ok_few20 hk).few
  rw [hk.Rl, hk.Cl, hk.Ml, (okS_iff s).2 hk] at E
  exact E

end Go.Proofs.YtbjapncfgancoaaDoor
