/- What is seen of a cache: reads, writes and lays, place by place. What the functions of chapter 7 answer where all is as it may be. -/
import Derived.Test.YtoacgjjpipdkjaaK0
namespace Go.Proofs.Ytoacgjjpipdkjaa
open Go.RowKit
set_option linter.unusedVariables false
set_option linter.unusedSimpArgs false
theorem lookC_eq (c : Ch) (i : Nat) : lookC c (i : Int) = if ((c.L.getD (slotOf (i : Int)) ln0).u = true ∧ (c.L.getD (slotOf (i : Int)) ln0).p = blkA (i : Int)) then (c.L.getD (slotOf (i : Int)) ln0).W.getD (i % 4) 0 else c.M.getD i 0 := by
  have e : ((i : Int) % 4).toNat = i % 4 := by omega
  simp only [lookC, heldC, holdsL, Bool.and_eq_true, decide_eq_true_eq, e, Int.toNat_natCast]
/-- Behind a line that was let go its places are seen in the memory; all others as they were. -/
theorem backC_seen {c : Ch} (h : OkC c) (k : Nat) (hk : k < 4) (i : Nat) : (backC c k).M.getD i 0 = if slotOf (i : Int) = k then lookC c (i : Int) else c.M.getD i 0 := by
  rw [backC_get h k hk i, lookC_eq]
  have hl := okLns_at h.L k (by rw [h.Ll]; exact hk)
  by_cases hs : slotOf (i : Int) = k
  · rw [if_pos hs, hs]
    cases hu : (c.L.getD k ln0).u
    · have hz := okLn_free hl hu
      rw [if_neg (by rw [hz]; simp), if_neg (by rw [hz]; simp)]
    · have hU := okLn_used hl hu
      have p0 := hU.p0
      have p4 := hU.p4
      have pk := hU.pk
      have hsi := slotOf_int (i : Int)
      obtain ⟨p, hp⟩ := Int.eq_ofNat_of_zero_le p0
      rw [hp] at p4 pk
      have hpt : (c.L.getD k ln0).p.toNat = p := by rw [hp]; simp
      rw [hpt]
      by_cases hb : (c.L.getD k ln0).p = blkA (i : Int)
      · have hpi : p = i - i % 4 := by rw [hp] at hb; unfold blkA at hb; omega
        rw [show ∀ (A B : Int), (if (true = true ∧ (c.L.getD k ln0).p = blkA (i : Int)) then A else B) = A from fun A B => if_pos ⟨rfl, hb⟩]
        by_cases hd : (c.L.getD k ln0).d = true
        · rw [if_pos ⟨hd, by omega, by omega⟩, show i - p = i % 4 by omega]
        · rw [if_neg (fun h => hd h.1)]
          rcases hU.s with h1 | h1
          · exact absurd h1 hd
          · rw [h1 (i % 4) (by omega), hpt, show p + i % 4 = i by omega]
      · rw [show ∀ (A B : Int), (if (true = true ∧ (c.L.getD k ln0).p = blkA (i : Int)) then A else B) = B from fun A B => if_neg (fun h => hb h.2), if_neg]
        rintro ⟨hd, q0, q1⟩
        apply hb
        rw [hp]
        unfold blkA
        omega
  · rw [if_neg hs, if_neg]
    rintro ⟨hd, q0, q1⟩
    have hu := okLn_d hl hd
    have hU := okLn_used hl hu
    have p0 := hU.p0
    have p4 := hU.p4
    have pk := hU.pk
    have hsi := slotOf_int (i : Int)
    obtain ⟨p, hp⟩ := Int.eq_ofNat_of_zero_le p0
    rw [hp] at p4 pk
    have hpt : (c.L.getD k ln0).p.toNat = p := by rw [hp]; simp
    rw [hpt] at q0 q1
    apply hs
    omega
theorem backC_L (c : Ch) (k j : Nat) (hl : c.L.length = 4) (hk : k < 4) : (backC c k).L.getD j ln0 = if k = j then ln0 else c.L.getD j ln0 := by
  show (c.L.set k ln0).getD j ln0 = _
  rw [getD_setN]
  by_cases e : k = j
  · rw [if_pos ⟨e, by omega⟩, if_pos e]
  · rw [if_neg (fun h => e h.1), if_neg e]
/-- To bring a line in turns nothing that is seen. -/
theorem bringC_seen {c : Ch} (h : OkC c) (a : Int) (i : Nat) : lookC (bringC c a) (i : Int) = lookC c (i : Int) := by
  unfold bringC
  split
  · rfl
  · have hk := slotOf_lt a
    generalize slotOf a = k at *
    rw [lookC_eq]
    have hb := backC_seen h k hk i
    have hll : (backC c k).L.length = 4 := by simp [backC, h.Ll]
    have hg : ((backC c k).L.set k ⟨true, blkA a, false, four (backC c k).M (blkA a).toNat⟩).getD (slotOf (i : Int)) ln0 = if k = slotOf (i : Int) then ⟨true, blkA a, false, four (backC c k).M (blkA a).toNat⟩ else c.L.getD (slotOf (i : Int)) ln0 := by
      rw [getD_setN]
      by_cases e : k = slotOf (i : Int)
      · rw [if_pos ⟨e, by rw [hll]; exact slotOf_lt _⟩, if_pos e]
      · rw [if_neg (fun h => e h.1), if_neg e, backC_L c k _ h.Ll hk, if_neg e]
    simp only [hg]
    by_cases e : k = slotOf (i : Int)
    · rw [if_pos e.symm] at hb
      simp only [if_pos e]
      split
      · rename_i hq
        have hqb : blkA a = blkA (i : Int) := hq.2
        rw [four_get _ _ _ (by omega), hqb, show (blkA (i : Int)).toNat + i % 4 = i by unfold blkA; omega]
        exact hb
      · exact hb
    · rw [if_neg (fun h => e h.symm)] at hb
      simp only [if_neg e]
      rw [lookC_eq, hb]
theorem bringC_again {c : Ch} (h : OkC c) {a : Int} (ha : plcB a = true) : bringC (bringC c a) a = bringC c a := by
  rw [bringC, if_pos (bringC_held h ha)]
/-- What is written is seen, and nothing else turned. -/
theorem writeC_seen {c : Ch} (h : OkC c) (a i : Nat) (n : Int) (ha : plcB (a : Int) = true) : lookC (writeC c (a : Int) n) (i : Int) = if a = i then n else lookC c (i : Int) := by
  have hb := bringC_ok h ha
  have hh := bringC_held h ha
  have hs := bringC_seen h (a : Int) i
  unfold writeC
  generalize bringC c (a : Int) = d at *
  have hU := held_used hb hh
  have hk := slotOf_lt (a : Int)
  rw [lookC_eq]
  have hg : (d.L.set (slotOf (a : Int)) (wrL (d.L.getD (slotOf (a : Int)) ln0) (a : Int) n)).getD (slotOf (i : Int)) ln0 = if slotOf (a : Int) = slotOf (i : Int) then wrL (d.L.getD (slotOf (a : Int)) ln0) (a : Int) n else d.L.getD (slotOf (i : Int)) ln0 := by
    rw [getD_setN]
    by_cases e : slotOf (a : Int) = slotOf (i : Int)
    · rw [if_pos ⟨e, by rw [hb.Ll]; exact slotOf_lt _⟩, if_pos e]
    · rw [if_neg (fun h => e h.1), if_neg e]
  rw [hg, ← hs, lookC_eq]
  by_cases e : slotOf (a : Int) = slotOf (i : Int)
  · rw [if_pos e, ← e]
    have hw : (wrL (d.L.getD (slotOf (a : Int)) ln0) (a : Int) n).W.getD (i % 4) 0 = if a % 4 = i % 4 then n else (d.L.getD (slotOf (a : Int)) ln0).W.getD (i % 4) 0 := by
      show ((d.L.getD (slotOf (a : Int)) ln0).W.set ((a : Int) % 4).toNat n).getD (i % 4) 0 = _
      rw [getD_set, show ((a : Int) % 4).toNat = a % 4 by omega]
      have := hU.1.Wl
      by_cases e2 : a % 4 = i % 4
      · rw [if_pos ⟨e2, by omega⟩, if_pos e2]
      · rw [if_neg (fun h => e2 h.1), if_neg e2]
    rw [hw, show (wrL (d.L.getD (slotOf (a : Int)) ln0) (a : Int) n).u = true from hU.1.u, show (wrL (d.L.getD (slotOf (a : Int)) ln0) (a : Int) n).p = blkA (a : Int) from hU.2, hU.1.u, hU.2]
    by_cases hp : blkA (a : Int) = blkA (i : Int)
    · simp only [hp, and_self, if_true]
      by_cases e3 : a = i
      · rw [if_pos e3, if_pos (by rw [e3])]
      · rw [if_neg e3, if_neg (fun h => e3 (by unfold blkA at hp; omega))]
    · have e3 : ¬ a = i := fun h => hp (by rw [h])
      simp only [hp, and_false, if_false, e3]
  · have e3 : ¬ a = i := fun h => e (by rw [h])
    simp only [if_neg e, if_neg e3]
theorem layC_seen {c : Ch} (h : OkC c) (a i : Nat) (n : Int) (ha : plcB (a : Int) = true) : lookC (layC c (a : Int) n) (i : Int) = if a = i then n else lookC c (i : Int) := by
  obtain ⟨a0, a1⟩ := (plcB_iff _).1 ha
  have hk := slotOf_lt (a : Int)
  have main : ∀ x : Ch, x.M.length = 256 → heldC x (a : Int) = false → lookC ⟨x.M.set a n, x.L⟩ (i : Int) = if a = i then n else lookC x (i : Int) := fun x hx hh => by
    rw [lookC_eq, lookC_eq]
    by_cases e : a = i
    · subst e
      have hn : ¬ ((x.L.getD (slotOf (a : Int)) ln0).u = true ∧ (x.L.getD (slotOf (a : Int)) ln0).p = blkA (a : Int)) := fun hq => by
        have : heldC x (a : Int) = true := by unfold heldC holdsL; rw [hq.1, hq.2, decide_eq_true rfl]; rfl
        rw [this] at hh
        cases hh
      rw [if_neg hn, if_pos rfl, getD_set, if_pos ⟨rfl, by omega⟩]
    · rw [if_neg e, getD_set, show ∀ (A B : Int), (if a = i ∧ i < x.M.length then A else B) = B from fun A B => if_neg (fun h => e h.1)]
  unfold layC
  rw [Int.toNat_natCast]
  split
  · have hll : (backC c (slotOf (a : Int))).L.length = 4 := by simp [backC, h.Ll]
    have hs : lookC (backC c (slotOf (a : Int))) (i : Int) = lookC c (i : Int) := by
      rw [lookC_eq, backC_L c _ _ h.Ll hk, backC_seen h _ hk i]
      by_cases e : slotOf (a : Int) = slotOf (i : Int)
      · rw [if_pos e, if_pos e.symm, if_neg (fun h => by cases h.1)]
      · rw [if_neg e, show ∀ (A B : Int), (if slotOf (i : Int) = slotOf (a : Int) then A else B) = B from fun A B => if_neg (fun h => e h.symm), lookC_eq]
    rw [main (backC c (slotOf (a : Int))) (backC_ok h _ hk).Ml (by unfold heldC holdsL; rw [backC_L c _ _ h.Ll hk, if_pos rfl]; rfl), hs]
  · rename_i hh
    exact main c h.Ml (by simpa using hh)
theorem writeC_M {c : Ch} (h : OkC c) {a : Int} (n : Int) (hh : heldC c a = true) : (writeC c a n).M = c.M := by
  unfold writeC
  rw [bringC, if_pos hh]
theorem writeC_held {c : Ch} (h : OkC c) {a : Int} (ha : plcB a = true) (n : Int) : heldC (writeC c a n) a = true := by
  have hb := bringC_ok h ha
  have hh := bringC_held h ha
  have hU := held_used hb hh
  have hk := slotOf_lt a
  simp only [heldC, holdsL, writeC, getD_setN, hb.Ll, hk, and_self, if_true, wrL, hU.1.u, hU.2, Bool.true_and, decide_true]
theorem held_blk {c : Ch} {a b : Int} (e : blkA a = blkA b) (es : slotOf a = slotOf b) (hh : heldC c a = true) : heldC c b = true := by
  rw [heldC, holdsL] at *
  rw [← es, ← e]
  exact hh
/-- All that is seen, as a row. -/
theorem allC_len (c : Ch) : (allC c).length = 256 := by simp [allC]
theorem allC_get (c : Ch) (i : Nat) (hi : i < 256) : (allC c).getD i 0 = lookC c (i : Int) := by simp [allC, List.getD_eq_getElem?_getD, hi]
theorem all_ext {xs ys : List Int} (hx : xs.length = 256) (hy : ys.length = 256) (h : ∀ i, i < 256 → xs.getD i 0 = ys.getD i 0) : xs = ys := by
  apply List.ext_getElem (by omega)
  intro i h1 h2
  have := h i (by omega)
  rw [List.getD_eq_getElem?_getD, List.getElem?_eq_getElem h1, Option.getD_some, List.getD_eq_getElem?_getD, List.getElem?_eq_getElem h2, Option.getD_some] at this
  exact this
theorem allC_bring {c : Ch} (h : OkC c) (a : Int) : allC (bringC c a) = allC c := all_ext (allC_len _) (allC_len _) fun i hi => by rw [allC_get _ _ hi, allC_get _ _ hi, bringC_seen h]
theorem allC_write {c : Ch} (h : OkC c) (a : Nat) (n : Int) (ha : plcB (a : Int) = true) : allC (writeC c (a : Int) n) = (allC c).set a n := by
  have a1 := ((plcB_iff _).1 ha).2
  refine all_ext (allC_len _) (by rw [List.length_set, allC_len]) fun i hi => ?_
  rw [allC_get _ _ hi, writeC_seen h a i n ha, getD_set, allC_get _ _ hi, allC_len]
  by_cases e : a = i
  · rw [if_pos e, if_pos ⟨e, by omega⟩]
  · rw [if_neg e, if_neg (fun h => e h.1)]
theorem allC_lay {c : Ch} (h : OkC c) (a : Nat) (n : Int) (ha : plcB (a : Int) = true) : allC (layC c (a : Int) n) = (allC c).set a n := by
  have a1 := ((plcB_iff _).1 ha).2
  refine all_ext (allC_len _) (by rw [List.length_set, allC_len]) fun i hi => ?_
  rw [allC_get _ _ hi, layC_seen h a i n ha, getD_set, allC_get _ _ hi, allC_len]
  by_cases e : a = i
  · rw [if_pos e, if_pos ⟨e, by omega⟩]
  · rw [if_neg e, if_neg (fun h => e h.1)]
theorem layC_M {c : Ch} (h : OkC c) (a : Nat) (n : Int) (ha : plcB (a : Int) = true) : (layC c (a : Int) n).M.getD a 0 = n := by
  have a1 := ((plcB_iff _).1 ha).2
  unfold layC
  rw [Int.toNat_natCast]
  split
  · have := (backC_M h _ (slotOf_lt (a : Int))).2
    rw [getD_set, if_pos ⟨rfl, by omega⟩]
  · rw [getD_set, if_pos ⟨rfl, by have := h.Ml; omega⟩]

theorem okC_of {c : Ch} (h : OkC c) : okC c = true := (okC_iff c).2 h
theorem writeA_eq {c : Ch} (h : OkC c) {a n : Int} (ha : plcB a = true) (hn : okB n = true) : writeA c a n = writeC c a n := by
  simp only [writeA, okC_of h, ha, hn, Bool.and_self, if_true]
theorem allA_eq {c : Ch} (h : OkC c) : allA c = allC c := if_pos (okC_of h)
theorem lookA_eq {c : Ch} (h : OkC c) {a : Int} (ha : plcB a = true) : lookA c a = lookC c a := by
  simp only [lookA, okC_of h, ha, Bool.and_self, if_true]
theorem plcB_nat {a : Nat} (h : a < 256) : plcB (a : Int) = true := (plcB_iff _).2 ⟨Int.natCast_nonneg _, by omega⟩
theorem lookA_out {c : Ch} {a : Int} (ha : plcB a = false) : lookA c a = -1 := by
  unfold lookA
  rw [ha, Bool.and_false]
  rfl
theorem lookA_not {c : Ch} (h : okC c = false) (a : Int) : lookA c a = -1 := by
  unfold lookA
  rw [h]
  rfl
theorem allA_get {c : Ch} (h : OkC c) (i : Nat) (hi : i < 256) : lookA c (i : Int) = (allC c).getD i 0 := by
  rw [lookA_eq h (plcB_nat hi), allC_get c i hi]
/-- Two words at two places. -/
theorem write_two {c : Ch} (h : OkC c) {a b : Nat} (n m : Int) (ha : plcB (a : Int) = true) (hb : plcB (b : Int) = true) (hn : okB n = true) (hm : okB m = true) (hab : ¬ a = b) :
    allC (writeC (writeC c (a : Int) n) (b : Int) m) = allC (writeC (writeC c (b : Int) m) (a : Int) n) := by
  rw [allC_write (writeC_ok h ha hn) b m hb, allC_write h a n ha, allC_write (writeC_ok h hb hm) a n ha, allC_write h b m hb]
  exact List.set_comm n m hab
theorem write_look {c : Ch} (h : OkC c) (a : Nat) (n : Int) (ha : plcB (a : Int) = true) : lookC (writeC c (a : Int) n) (a : Int) = n := by
  rw [writeC_seen h a a n ha, if_pos rfl]
theorem write_look2 {c : Ch} (h : OkC c) {a b : Nat} (n m : Int) (ha : plcB (a : Int) = true) (hb : plcB (b : Int) = true) (hn : okB n = true) (hab : ¬ a = b) : lookC (writeC (writeC c (a : Int) n) (b : Int) m) (a : Int) = n := by
  rw [writeC_seen (writeC_ok h ha hn) b a m hb, if_neg (fun e => hab e.symm), write_look h a n ha]
/-- An answer that is a cache, or nothing. -/
theorem writeA_cases (c : Ch) (a n : Int) : (OkC c ∧ plcB a = true ∧ okB n = true) ∨ writeA c a n = ch0 := by
  unfold writeA
  split
  · rename_i h
    simp only [Bool.and_eq_true] at h
    exact .inl ⟨(okC_iff c).1 h.1.1, h.1.2, h.2⟩
  · exact .inr rfl

end Go.Proofs.Ytoacgjjpipdkjaa
