/- Chapter 3: the model reads registers, numbers and names. Chapter 3: the model reads names, labels, words. Chapter 3: the model cuts a line into words. -/
import Derived.BigRegion
import Derived.Test.YtpdlcjjmhcfkjaaDoorTx
import Derived.Test.YtpdlcjjmhcfkjaaDoorTxt
namespace Go.Proofs.YtpdlcjjmhcfkjaaDoor
open Go.RowKit
set_option linter.unusedVariables false

theorem bs_get (l : List UInt8) (i : Nat) (h : i < (bs l).size) : (bs l)[i]'h = l.getD i 0 := by
  have h' : i < l.length := h
  rw [List.getD_eq_getElem?_getD, List.getElem?_eq_getElem h']
  rfl
theorem regS_two (c0 c1 : UInt8) : regS [c0, c1] = if (c0.toNat : Int) = 114 ∧ 48 ≤ (c1.toNat : Int) ∧ (c1.toNat : Int) ≤ 55 then (c1.toNat : Int) - 48 else -1 := by
  have e : (c0 = 114) ↔ ((c0.toNat : Int) = 114) := by
    constructor
    · intro h; rw [h]; rfl
    · intro h; apply UInt8.toNat_inj.1; simp; omega
  unfold regS
  simp only [e]
  congr 1
  simp only [eq_iff_iff]
  omega
theorem regS_no {l : List UInt8} (h : ¬ l.length = 2) : regS l = -1 := by
  unfold regS
  split
  · simp at h
  · rfl
/-- What a number is, as the model reads it. -/
def NumP (l : List UInt8) (w : World) (e : Ending) (w' : World) : Prop :=
  ∃ v ok, e = .returned (.tuple #[.int .i64 v, .bool ok]) ∧ Fr w w' ∧ (ok = true → num5 l = some v) ∧ (ok = false → num5 l = none)
/-- The loop over digits, from a text of at most five bytes on. -/
theorem dig_app {t : List UInt8} {i : Nat} (hi : i < t.length) : dval 0 (t.take (i + 1)) = dval 0 (t.take i) * 10 + ((t.getD i 0).toNat - 48) := by
  rw [List.take_add_one, List.getElem?_eq_getElem hi]
  simp only [Option.toList_some]
  rw [dval_app, List.getD_eq_getElem?_getD, List.getElem?_eq_getElem hi]
  rfl
theorem all_app {t : List UInt8} {i : Nat} (hi : i < t.length) : (t.take (i + 1)).all dig = ((t.take i).all dig && dig (t.getD i 0)) := by
  rw [List.take_add_one, List.getElem?_eq_getElem hi]
  simp only [Option.toList_some, List.all_append, List.all_cons, List.all_nil, Bool.and_true]
  rw [List.getD_eq_getElem?_getD, List.getElem?_eq_getElem hi]
  rfl
theorem ndig {c : UInt8} (h : dig c = false) : (c.toNat : Int) < 48 ∨ 57 < (c.toNat : Int) := by
  simp only [dig, decide_eq_false_iff_not] at h
  omega
theorem ydig {c : UInt8} (h : dig c = true) : 48 ≤ (c.toNat : Int) ∧ (c.toNat : Int) ≤ 57 := by
  simp only [dig, decide_eq_true_eq] at h
  omega
theorem num_tail (T : List UInt8) : (bs (45 :: T)).extract 1 (T.length + 1) = bs T := by
  apply ByteArray.ext
  simp
def KindP (l : List UInt8) (w : World) (e : Ending) (w' : World) : Prop :=
  ∃ kk ff ok, e = .returned (.tuple #[.int .i64 kk, .int .i64 ff, .bool ok]) ∧ Fr w w' ∧ (ok = true → ∃ i, kindOf l = some i ∧ kk = mk i ∧ ff = mf i) ∧ (ok = false → kindOf l = none)
theorem kindOf_of {l : List UInt8} {i : Nat} (hi : i < 23) (h : nmL.getD i [] = l) : kindOf l = some i := by rw [← h]; exact kindOf_nm i hi
theorem kindOf_not {l : List UInt8} (h : ∀ j, j < 23 → nmL.getD j [] ≠ l) : kindOf l = none := by
  unfold kindOf
  apply List.findIdx?_eq_none_iff.2
  intro x hx
  obtain ⟨j, hj, rfl⟩ := List.mem_iff_getElem.1 hx
  have := h j hj
  rw [List.getD_eq_getElem?_getD, List.getElem?_eq_getElem hj] at this
  simpa using this
/-- Labels in memory. -/
def Labs (u : World) (v : Value) (ls : List (List UInt8 × Int)) : Prop :=
  ∃ ao cap, v = .slice ao ls.length cap ∧ (0 < ls.length → ∃ g, ao = some ⟨g, 0, none⟩ ∧ g < u.heap.size ∧ ∀ i, i < ls.length → u.cell? ⟨g, i * 2, none⟩ = some (.string (bs (ls.getD i ([], 0)).1)) ∧ u.cell? ⟨g, i * 2 + 1, none⟩ = some (.int .i64 (ls.getD i ([], 0)).2))
theorem Labs.fr {u u' : World} {v : Value} {ls : List (List UInt8 × Int)} (h : Labs u v ls) (f : Fr u u') : Labs u' v ls := by
  obtain ⟨ao, cap, e, h⟩ := h
  refine ⟨ao, cap, e, fun h0 => ?_⟩
  obtain ⟨g, e2, hg, hc⟩ := h h0
  exact ⟨g, e2, Nat.lt_of_lt_of_le hg f.size, fun i hi => by rw [f.cell (show g < u.heap.size from hg), f.cell (show g < u.heap.size from hg)]; exact hc i hi⟩
/-- Where a label stands, or -1. -/
def findD (ls : List (List UInt8 × Int)) (x : List UInt8) : Int := (look ls x).getD (-1)
theorem look_at {ls : List (List UInt8 × Int)} {x : List UInt8} {i : Nat} (hi : i < ls.length) (h : (ls.getD i ([], 0)).1 = x) (hno : ∀ j, j < i → (ls.getD j ([], 0)).1 ≠ x) : look ls x = some (ls.getD i ([], 0)).2 := by
  unfold look
  have : ls.find? (fun e => e.1 == x) = some (ls.getD i ([], 0)) := by
    apply List.find?_eq_some_iff_getElem.2
    refine ⟨by simpa using h, i, hi, ?_, fun j hj => ?_⟩
    · rw [List.getD_eq_getElem?_getD, List.getElem?_eq_getElem hi]; rfl
    · have := hno j hj
      rw [List.getD_eq_getElem?_getD, List.getElem?_eq_getElem (by omega)] at this
      simpa using this
  rw [this]; rfl
theorem look_none {ls : List (List UInt8 × Int)} {x : List UInt8} (hno : ∀ j, j < ls.length → (ls.getD j ([], 0)).1 ≠ x) : look ls x = none := by
  unfold look
  have : ls.find? (fun e => e.1 == x) = none := by
    apply List.find?_eq_none.2
    intro e he
    obtain ⟨j, hj, rfl⟩ := List.mem_iff_getElem.1 he
    have := hno j hj
    rw [List.getD_eq_getElem?_getD, List.getElem?_eq_getElem hj] at this
    simpa using this
  rw [this]; rfl
def LastP (k at' : Int) (ls : List (List UInt8 × Int)) (l : List UInt8) (w : World) (e : Ending) (w' : World) : Prop :=
  ∃ v ok, e = .returned (.tuple #[.int .i64 v, .bool ok]) ∧ Fr w w' ∧ (ok = true → lastS k at' (look ls) l = some v) ∧ (ok = false → lastS k at' (look ls) l = none)
theorem info_str : (Tryd.prog.info? 9).map (fun i => (i.zero, i.size, i.bytes)) = some (some (.string ByteArray.empty), 1, 16) := by kernel_rfl
/-- A slice that the call made, of texts. -/
def OwnsT (B : Nat) (u : World) (v : Value) (L : List (List UInt8)) : Prop := u.ownsRow B 9 1 v L.length (L.map (fun x => Value.string (bs x)))
theorem ownsT_empty (B : Nat) (w : World) (hB : B ≤ w.heap.size) : OwnsT B (w.alloc (.cells #[] 9)) (.slice (some ⟨w.heap.size, 0, none⟩) 0 0) [] := by
  refine ⟨rfl, .inr ⟨w.heap.size, 0, #[], rfl, hB, ?_, Nat.le_refl _, Nat.zero_le _, rfl, rfl⟩⟩
  show (w.heap.push _)[w.heap.size]? = _
  simp
theorem OwnsT.fr {B : Nat} {u u' : World} {v : Value} {L : List (List UInt8)} (h : OwnsT B u v L) (f : Fr u u') : OwnsT B u' v L := by
  obtain ⟨h1, h2⟩ := h
  refine ⟨h1, ?_⟩
  rcases h2 with h2 | ⟨g, cap, cur, hv, hB, hg, h3⟩
  · exact .inl h2
  · refine .inr ⟨g, cap, cur, hv, hB, ?_, h3⟩
    have hlt : g < u.heap.size := by
      by_cases hh : g < u.heap.size
      · exact hh
      · rw [Array.getElem?_eq_none (by omega)] at hg; cases hg
    rw [f.block g hlt]; exact hg
/-- Words in memory, from some place of a block on. -/
def Wds (u : World) (v : Value) (ws : List (List UInt8)) : Prop :=
  ∃ ao cap, v = .slice ao ws.length cap ∧ ws.length ≤ cap ∧ cap ≤ maxLen ∧ (0 < ws.length → ∃ g off, ao = some ⟨g, off, none⟩ ∧ g < u.heap.size ∧ ∀ i, i < ws.length → u.cell? ⟨g, off + i, none⟩ = some (.string (bs (ws.getD i []))))
theorem Wds.fr {u u' : World} {v : Value} {ws : List (List UInt8)} (h : Wds u v ws) (f : Fr u u') : Wds u' v ws := by
  obtain ⟨ao, cap, e, h1, h2, h⟩ := h
  refine ⟨ao, cap, e, h1, h2, fun h0 => ?_⟩
  obtain ⟨g, off, e2, hg, hc⟩ := h h0
  exact ⟨g, off, e2, Nat.lt_of_lt_of_le hg f.size, fun i hi => by rw [f.cell (show g < u.heap.size from hg)]; exact hc i hi⟩
theorem OwnsT.wds {B : Nat} {u : World} {v : Value} {L : List (List UInt8)} (h : OwnsT B u v L) : Wds u v L := by
  rcases h.2 with ⟨hv, hn⟩ | ⟨g, cap, cur, hv, hB, hg, hcap, hmx, hcs, hxs⟩
  · exact ⟨none, 0, by rw [hn]; exact hv, by omega, by decide, fun h0 => by omega⟩
  · refine ⟨_, cap, hv, by omega, by omega, fun _ => ⟨g, 0, rfl, ?_, fun i hi => ?_⟩⟩
    · by_cases hh : g < u.heap.size
      · exact hh
      · rw [Array.getElem?_eq_none (by omega)] at hg; cases hg
    · simp only [World.cell?, hg]
      have h1 : (cur.toList.take (L.length * 1))[i]? = (L.map (fun x => Value.string (bs x)))[i]? := by rw [hxs]
      rw [List.getElem?_take_of_lt (by omega), List.getElem?_map, List.getElem?_eq_getElem hi] at h1
      simpa [List.getD, List.getElem?_eq_getElem hi] using h1

theorem cell_str_at (w : World) (x : Value) (t : TypeId) (g : Nat) (hg : w.heap.size = g) : ∀ j u, [x][j]? = some u → (w.alloc (.cells #[x] t)).cell? ((⟨g, 0, none⟩ : Addr).add j) = some u := by
  subst hg
  intro j u hj
  match j, hj with
  | 0, hj => simp at hj; subst hj; simp [Addr.add]
def WordsP (l : List UInt8) (w : World) (e : Ending) (w' : World) : Prop := ∃ v, e = .returned v ∧ OwnsT w.heap.size w' v (sp l) ∧ Fr w w'
theorem ownsT_app {B : Nat} {u : World} {v : Value} {L : List (List UInt8)} {x : List UInt8} (h : u.ownsRow B 9 1 v (L.length + 1) (L.map (fun x => Value.string (bs x)) ++ [Value.string (bs x)])) : OwnsT B u v (L ++ [x]) := by
  unfold OwnsT
  simpa using h
theorem own_lt {B : Nat} {u : World} {v : Value} {L : List (List UInt8)} (h : OwnsT B u v L) : ∀ q, v.ownBlock = some q → B ≤ q := fun q hq => (World.ownsRow.lt h q hq).1
theorem ext_one (l : List UInt8) (q : Nat) (hq : q < l.length) : (bs l).extract q (q + 1) = bs [l.getD q 0] := by
  apply ByteArray.ext
  have h : (l.drop q).take 1 = [l.getD q 0] := by
    rw [List.drop_eq_getElem_cons hq, List.take_succ_cons, List.take_zero, List.getD_eq_getElem?_getD, List.getElem?_eq_getElem hq]
    rfl
  rw [← h]
  simp
end Go.Proofs.YtpdlcjjmhcfkjaaDoor
