/- Rows of numbers in memory; machines in memory; what is ok, of the program and of the model. -/
import Derived.Deep.QuietTactic
import Derived.BigQuiet
import Derived.OwnWalk
import Derived.Test.YtoacgjjpipdkjaaPl0
import Derived.Test.YtoacgjjpipdkjaaRegion3
import Derived.Test.YtoacgjjpipdkjaaVec
namespace Go.Proofs.Ytoacgjjpipdkjaa
open Go.RowKit
set_option linter.unusedVariables false
set_option linter.unusedSimpArgs false

/-- Numbers lie in block g, and may be written. -/
structure Ro (u : World) (g : Nat) (xs : List Int) : Prop where
  lt : g < u.heap.size
  cel : ∀ i, i < xs.length → u.cell? ⟨g, i, none⟩ = some (.int .i64 (xs.getD i 0))
  fro : ∀ i, i < xs.length → u.frozen? ⟨g, i, none⟩ = false
theorem Ro.but {L : List Nat} {u u' : World} {g : Nat} {xs : List Int} (h : Ro u g xs) (f : But L u u') (hn : g ∉ L) : Ro u' g xs :=
  ⟨Nat.lt_of_lt_of_le h.lt f.size, fun i hi => by rw [f.cell h.lt hn]; exact h.cel i hi, fun i hi => by rw [f.frozen h.lt hn]; exact h.fro i hi⟩
theorem Ro.fr {u u' : World} {g : Nat} {xs : List Int} (h : Ro u g xs) (f : Fr u u') : Ro u' g xs := h.but (L := []) (But.of f) (by simp)
theorem Ro.other {u : World} {g : Nat} {xs : List Int} (h : Ro u g xs) (Z j : Nat) (v : Value) (hz : ¬ Z = g) : Ro (u.setCell ⟨Z, j, none⟩ v) g xs :=
  h.but (L := [Z]) ((But.refl _ _).set Z j v (.inl (by simp))) (by simp; try omega)
theorem Ro.set {u : World} {g : Nat} {xs : List Int} (h : Ro u g xs) (i : Nat) (v : Int) (hi : i < xs.length) : Ro (u.setCell ⟨g, i, none⟩ (.int .i64 v)) g (xs.set i v) := by
  refine ⟨by have := h.lt; simpa [World.setCell] using this, fun j hj => ?_, fun j hj => by rw [World.frozen?_setCell]; exact h.fro j (by simpa using hj)⟩
  rw [List.length_set] at hj
  rw [getD_set]
  by_cases e : i = j
  · subst e
    rw [World.cell?_setCell_same _ _ _ (h.cel i hi), if_pos ⟨rfl, hi⟩]
  · rw [World.cell?_setCell_other _ _ _ _ (by simp; try omega), if_neg (fun h => e h.1)]
    exact h.cel j hj
theorem Ro.alloc {u : World} {g : Nat} {xs : List Int} (h : Ro u g xs) (o : Obj) : Ro (u.alloc o) g xs := h.fr (Fr.alloc _ _)
theorem Ro.drew {u : World} {g : Nat} {xs : List Int} (h : Ro u g xs) : Ro u.drew g xs := ⟨h.lt, h.cel, h.fro⟩
theorem Ro.drewN {u : World} {g : Nat} {xs : List Int} (h : Ro u g xs) (n : Nat) : Ro (u.drewN n) g xs := h.but (L := []) ((But.refl _ _).drewN n) (by simp)
/-- A machine's rows, three blocks apart. -/
structure Own (u : World) (gr gc gm : Nat) (s : St) : Prop where
  R : Ro u gr s.R
  C : Ro u gc s.C
  M : Ro u gm s.M
  rc : gr ≠ gc
  rm : gr ≠ gm
  cm : gc ≠ gm
theorem Own.but {L : List Nat} {u u' : World} {gr gc gm : Nat} {s : St} (h : Own u gr gc gm s) (f : But L u u') (h1 : gr ∉ L) (h2 : gc ∉ L) (h3 : gm ∉ L) : Own u' gr gc gm s :=
  ⟨h.R.but f h1, h.C.but f h2, h.M.but f h3, h.rc, h.rm, h.cm⟩
theorem Own.fr {u u' : World} {gr gc gm : Nat} {s : St} (h : Own u gr gc gm s) (f : Fr u u') : Own u' gr gc gm s := h.but (L := []) (But.of f) (by simp) (by simp) (by simp)
theorem Own.other {u : World} {gr gc gm : Nat} {s : St} (h : Own u gr gc gm s) (Z j : Nat) (v : Value) (h1 : ¬ Z = gr) (h2 : ¬ Z = gc) (h3 : ¬ Z = gm) : Own (u.setCell ⟨Z, j, none⟩ v) gr gc gm s :=
  ⟨h.R.other Z j v h1, h.C.other Z j v h2, h.M.other Z j v h3, h.rc, h.rm, h.cm⟩
theorem Own.alloc {u : World} {gr gc gm : Nat} {s : St} (h : Own u gr gc gm s) (o : Obj) : Own (u.alloc o) gr gc gm s := h.fr (Fr.alloc _ _)
theorem Own.drew {u : World} {gr gc gm : Nat} {s : St} (h : Own u gr gc gm s) : Own u.drew gr gc gm s := h.but (L := []) (But.refl _ _).drew (by simp) (by simp) (by simp)
theorem Own.drewN {u : World} {gr gc gm : Nat} {s : St} (h : Own u gr gc gm s) (n : Nat) : Own (u.drewN n) gr gc gm s := h.but (L := []) ((But.refl _ _).drewN n) (by simp) (by simp) (by simp)
theorem Own.setM {u : World} {gr gc gm : Nat} {s : St} (h : Own u gr gc gm s) (i : Nat) (v : Int) (hi : i < s.M.length) (pc : Int) : Own (u.setCell ⟨gm, i, none⟩ (.int .i64 v)) gr gc gm ⟨pc, s.R, s.C, s.M.set i v⟩ :=
  ⟨h.R.other _ _ _ h.rm.symm, h.C.other _ _ _ h.cm.symm, h.M.set i v hi, h.rc, h.rm, h.cm⟩
theorem Own.pc {u : World} {gr gc gm : Nat} {s : St} (h : Own u gr gc gm s) (pc : Int) : Own u gr gc gm { s with pc := pc } := ⟨h.R, h.C, h.M, h.rc, h.rm, h.cm⟩
/-- A list as the values of a row. -/
abbrev ivl (l : List Int) : Nat → Value := fun i => .int .i64 (l.getD i 0)
/-- A machine, as it is read somewhere. -/
structure SrcS (u : World) (s : St) (aR aC aM : Option Addr) : Prop where
  R : Src u s.R.length (ivl s.R) aR
  C : Src u s.C.length (ivl s.C) aC
  M : Src u s.M.length (ivl s.M) aM
theorem SrcS.fr {u u' : World} {s : St} {aR aC aM : Option Addr} (h : SrcS u s aR aC aM) (f : Fr u u') : SrcS u' s aR aC aM := ⟨h.R.fr f, h.C.fr f, h.M.fr f⟩
theorem Ro.src {u : World} {g : Nat} {xs : List Int} (h : Ro u g xs) : Src u xs.length (ivl xs) (some ⟨g, 0, none⟩) := fun _ => ⟨g, 0, rfl, h.lt, fun i hi => by rw [Nat.zero_add]; exact h.cel i hi⟩
theorem Own.src {u : World} {gr gc gm : Nat} {s : St} (h : Own u gr gc gm s) : SrcS u s (some ⟨gr, 0, none⟩) (some ⟨gc, 0, none⟩) (some ⟨gm, 0, none⟩) := ⟨h.R.src, h.C.src, h.M.src⟩
theorem all_take {l : List Int} {p : Nat} (h : ∀ i, i < p → okB (l.getD i 0) = true) (hp : l.length ≤ p) : l.all okB = true := by
  rw [List.all_eq_true]
  intro x hx
  obtain ⟨i, hi, rfl⟩ := List.mem_iff_getElem.1 hx
  have := h i (by omega)
  rwa [List.getD_eq_getElem?_getD, List.getElem?_eq_getElem hi, Option.getD_some] at this
theorem all_not {l : List Int} {p : Nat} (hp : p < l.length) (h : okB (l.getD p 0) = false) : l.all okB = false := by
  rw [List.all_eq_false]
  refine ⟨l[p], List.getElem_mem hp, ?_⟩
  rw [List.getD_eq_getElem?_getD, List.getElem?_eq_getElem hp, Option.getD_some] at h
  simp [h]

set_option maxHeartbeats 1000000 in
theorem spec_l4Words (xs : List Int) (ao : Option Addr) (cap : Nat) (m : Int) (w : World) (h : Src w xs.length (ivl xs) ao) (hn : xs.length ≤ 100000000) :
    Calls Try.prog 88 #[.slice ao xs.length cap, .int .i64 m] w fun e w' => e = .returned (.bool (xs.all okB && decide ((xs.length : Int) = m))) ∧ w = w' := by
  go_enter Try.func88, Try.ntmps88
  go_wp2_with fail
  have HS := Lib.hid h
  clear h
  go_loopw [5] (fun i wr => ∃ p : Nat, p ≤ xs.length ∧ i = .int .i64 p ∧ (∀ i, i < p → okB (xs.getD i 0) = true) ∧ w = wr) (fun i _ => xs.length - (intOf i).toNat)
  case atStart => exact ⟨0, Nat.zero_le _, rfl, fun i hi => absurd hi (Nat.not_lt_zero _), rfl⟩
  case round =>
    obtain ⟨p, hp, rfl, hok, rfl⟩ := hrel
    have HO := Lib.hid hok
    clear hok
    by_cases hlt : p < xs.length
    · have hlt' : (p : Int) < (xs.length : Int) := by omega
      obtain ⟨g, o, rfl, hgl, hc⟩ := HS.out (by omega)
      have d0 := hc p hlt
      simp only [ivl] at d0
      clear hc
      cases hk : okB (xs.getD p 0)
      · have H := Lib.hid (all_not hlt hk)
        generalize xs.getD p 0 = z at d0 hk
        go_wp2_with (go_at_call 57; refine (spec_WrdOk _ _).mono ?_; rintro e w' ⟨rfl, rfl⟩)
        go_ret
        exact ⟨by rw [H.out]; rfl, rfl⟩
      · have HO2 := Lib.hid (show ∀ i, i < p + 1 → okB (xs.getD i 0) = true from fun i hi => by
          rcases Nat.lt_succ_iff_lt_or_eq.1 hi with h | h
          · exact HO.out i h
          · rw [h]; exact hk)
        generalize xs.getD p 0 = z at d0 hk
        go_wp2_with (go_at_call 57; refine (spec_WrdOk _ _).mono ?_; rintro e w' ⟨rfl, rfl⟩)
        go_roundw
        case rel => exact ⟨p + 1, by omega, by go_num, HO2.out, by trivial⟩
        case measure => simp [intOf]; omega
    · have hge : ¬ (p : Int) < (xs.length : Int) := by omega
      have H := Lib.hid (all_take HO.out (by omega : xs.length ≤ p))
      go_wp2
      go_ret
      refine ⟨ret_bool ?_, rfl⟩
      rw [H.out, Bool.true_and]
      simp [BEq.beq]
theorem impl_areWords (xs : List Int) (ao : Option Addr) (cap : Nat) (m : Int) (w : World) (h : Src w xs.length (ivl xs) ao) (hn : xs.length ≤ 100000000) :
    Calls Try.prog 86 #[.slice ao xs.length cap, .int .i64 m] w fun e w' => e = .returned (.bool (xs.all okB && decide ((xs.length : Int) = m))) ∧ w = w' := by
  go_enter Try.func86, Try.ntmps86
  go_wp2_with fail
  have HS := Lib.hid h
  clear h
  go_loopw [9] (fun i wr => ∃ p : Nat, p ≤ xs.length ∧ i = .int .i64 p ∧ (∀ i, i < p → okB (xs.getD i 0) = true) ∧ w = wr) (fun i _ => xs.length - (intOf i).toNat)
  case atStart => exact ⟨0, Nat.zero_le _, rfl, fun i hi => absurd hi (Nat.not_lt_zero _), rfl⟩
  case round =>
    obtain ⟨p, hp, rfl, hok, rfl⟩ := hrel
    have HO := Lib.hid hok
    clear hok
    by_cases hlt : p < xs.length
    · have hlt' : (p : Int) < (xs.length : Int) := by omega
      obtain ⟨g, o, rfl, hgl, hc⟩ := HS.out (by omega)
      have d0 := hc p hlt
      simp only [ivl] at d0
      clear hc
      cases hk : okB (xs.getD p 0)
      · have H := Lib.hid (all_not hlt hk)
        generalize xs.getD p 0 = z at d0 hk
        go_wp2_with (go_at_call 77; refine (impl_WrdOk _ _).mono ?_; rintro e w' ⟨rfl, rfl⟩)
        go_ret
        exact ⟨by rw [H.out]; rfl, rfl⟩
      · have HO2 := Lib.hid (show ∀ i, i < p + 1 → okB (xs.getD i 0) = true from fun i hi => by
          rcases Nat.lt_succ_iff_lt_or_eq.1 hi with h | h
          · exact HO.out i h
          · rw [h]; exact hk)
        generalize xs.getD p 0 = z at d0 hk
        go_wp2_with (go_at_call 77; refine (impl_WrdOk _ _).mono ?_; rintro e w' ⟨rfl, rfl⟩)
        go_roundw
        case rel => exact ⟨p + 1, by omega, by go_num, HO2.out, by trivial⟩
        case measure => simp [intOf]; omega
    · have hge : ¬ (p : Int) < (xs.length : Int) := by omega
      have H := Lib.hid (all_take HO.out (by omega : xs.length ≤ p))
      go_wp2
      go_ret
      refine ⟨ret_bool ?_, rfl⟩
      rw [H.out, Bool.true_and]
      simp [BEq.beq]
theorem words_eq (xs : List Int) (m : Nat) : (xs.all okB && decide ((xs.length : Int) = (m : Int))) = wordsB xs m := by
  unfold wordsB
  congr 1
  rw [decide_eq_decide]
  omega
theorem wordsB_true {xs : List Int} {m : Nat} (h : wordsB xs m = true) : xs.all okB = true ∧ xs.length = m := by
  simpa [wordsB] using h
/-- How many numbers a machine has, at most. -/
structure Few (s : St) : Prop where
  R : s.R.length ≤ 100000000
  C : s.C.length ≤ 100000000
  M : s.M.length ≤ 100000000
end Go.Proofs.Ytoacgjjpipdkjaa
