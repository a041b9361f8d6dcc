/- The plain machine, as a plain function of numbers: what is ok, what is seen, what a step does. Rows of numbers in memory; machines in memory; what is ok, of the program and of the model. The program's PlnOk. New rows: copies of rows and machines, of the program and of the model. A machine, copied: of the program and of the model. -/
import Derived.Deep.QuietTactic
import Derived.BigQuiet
import Derived.OwnWalk
import Derived.Deep.AppendSrc
import Derived.Laws.CopyOwn
import Derived.Test.YtoacgjjpipdkjaaCodSd
import Derived.Test.YtoacgjjpipdkjaaWords
import Derived.Test.YtoacgjjpipdkjaaRegion
import Derived.Test.YtoacgjjpipdkjaaVec
namespace Go.Proofs.Ytoacgjjpipdkjaa
open Go.RowKit
set_option linter.unusedVariables false
set_option linter.unusedSimpArgs false

/-- A machine: where it is, its registers, what it has of its own, its memory. -/
structure St where
  pc : Int
  R : List Int
  C : List Int
  M : List Int
/-- What was done. -/
structure Ev where
  pc : Int
  w : Int
  why : Int
  d : Int
  v : Int
  ad : Int
  dt : Int
def wordsB (l : List Int) (n : Nat) : Bool := l.all okB && decide (l.length = n)
theorem ok_get {l : List Int} (h : l.all okB = true) (i : Nat) : 0 ≤ l.getD i 0 ∧ l.getD i 0 < 65536 := by
  by_cases hi : i < l.length
  · have := List.all_eq_true.1 h (l.getD i 0) (by rw [List.getD_eq_getElem?_getD, List.getElem?_eq_getElem hi]; exact List.getElem_mem hi)
    exact okB_true this
  · rw [List.getD_eq_getElem?_getD, List.getElem?_eq_none (by omega)]
    simp
theorem ok_set {l : List Int} (h : l.all okB = true) (i : Nat) {v : Int} (hv : okB v = true) : (l.set i v).all okB = true := by
  rw [List.all_eq_true] at *
  intro x hx
  rcases List.mem_or_eq_of_mem_set hx with h1 | h1
  · exact h x h1
  · rw [h1]; exact hv
theorem getD_set {l : List Int} {i j : Nat} {v : Int} : (l.set i v).getD j 0 = if i = j ∧ j < l.length then v else l.getD j 0 := by
  simp only [List.getD_eq_getElem?_getD, List.getElem?_set]
  by_cases h : i = j
  · subst h
    by_cases h2 : i < l.length
    · simp [h2]
    · simp [h2]
  · simp [h]
/-- The place that a word of a table of pages tells. -/
def frame (x addr : Int) (save : Bool) : Int := if x / 16 % 2 = 0 ∨ (save = true ∧ x / 32 % 2 = 0) then -1 else x % 16 * 16 + addr % 16
def stopC (s : St) (why : Int) : List Int := ((s.C.set 0 s.pc).set 1 why).set 3 (2 * (s.C.getD 3 0 % 2))
/-- A machine that stops. -/
def stopS (s : St) (why : Int) : St := ⟨8, s.R, stopC s why, s.M⟩
/-- What an instruction does: it stops, or the machine goes on. -/
inductive Out where
  | stop (why : Int)
  | go (s : St) (e : Ev)
def Out.fin (s : St) (e : Ev) : Out → St × Ev
  | .stop why => (stopS s why, { e with why := why })
  | .go s' e' => (s', e')
def putR (R : List Int) (d v : Int) : List Int := if d = 0 then R else R.set d.toNat v
def putE (e : Ev) (d v : Int) : Ev := if d = 0 then e else { e with d := d, v := v }
/-- A word goes into a register, and the machine is elsewhere. -/
def put (s : St) (e : Ev) (d v pc : Int) : Out := .go ⟨pc, putR s.R d v, s.C, s.M⟩ (putE e d v)
/-- Numbers lie in block g, and may be written. -/
structure Ro (u : World) (g : Nat) (xs : List Int) : Prop where
  lt : g < u.heap.size
  cel : ∀ i, i < xs.length → u.cell? ⟨g, i, none⟩ = some (.int .i64 (xs.getD i 0))
  fro : ∀ i, i < xs.length → u.frozen? ⟨g, i, none⟩ = false
theorem Ro.but {L : List Nat} {u u' : World} {g : Nat} {xs : List Int} (h : Ro u g xs) (f : But L u u') (hn : g ∉ L) : Ro u' g xs :=
  ⟨Nat.lt_of_lt_of_le h.lt f.size, fun i hi => by rw [f.cell h.lt hn]; exact h.cel i hi, fun i hi => by rw [f.frozen h.lt hn]; exact h.fro i hi⟩
theorem Ro.fr {u u' : World} {g : Nat} {xs : List Int} (h : Ro u g xs) (f : Fr u u') : Ro u' g xs := h.but (L := []) (But.of f) (by simp)
theorem Ro.other {u : World} {g : Nat} {xs : List Int} (h : Ro u g xs) (Z j : Nat) (v : Value) (hz : ¬ Z = g) : Ro (u.setCell ⟨Z, j, none⟩ v) g xs :=
  h.but (L := [Z]) ((But.refl _ _).set Z j v (.inl (by simp))) (by simp; try omega)
theorem Ro.set {u : World} {g : Nat} {xs : List Int} (h : Ro u g xs) (i : Nat) (v : Int) (hi : i < xs.length) : Ro (u.setCell ⟨g, i, none⟩ (.int .i64 v)) g (xs.set i v) := by
  refine ⟨by have := h.lt; simpa [World.setCell] using this, fun j hj => ?_, fun j hj => by rw [World.frozen?_setCell]; exact h.fro j (by simpa using hj)⟩
  rw [List.length_set] at hj
  rw [getD_set]
  by_cases e : i = j
  · subst e
    rw [World.cell?_setCell_same _ _ _ (h.cel i hi), if_pos ⟨rfl, hi⟩]
  · rw [World.cell?_setCell_other _ _ _ _ (by simp; try omega), if_neg (fun h => e h.1)]
    exact h.cel j hj
theorem Ro.alloc {u : World} {g : Nat} {xs : List Int} (h : Ro u g xs) (o : Obj) : Ro (u.alloc o) g xs := h.fr (Fr.alloc _ _)
theorem Ro.drew {u : World} {g : Nat} {xs : List Int} (h : Ro u g xs) : Ro u.drew g xs := ⟨h.lt, h.cel, h.fro⟩
theorem Ro.drewN {u : World} {g : Nat} {xs : List Int} (h : Ro u g xs) (n : Nat) : Ro (u.drewN n) g xs := h.but (L := []) ((But.refl _ _).drewN n) (by simp)
/-- A machine's rows, three blocks apart. -/
structure Own (u : World) (gr gc gm : Nat) (s : St) : Prop where
  R : Ro u gr s.R
  C : Ro u gc s.C
  M : Ro u gm s.M
  rc : gr ≠ gc
  rm : gr ≠ gm
  cm : gc ≠ gm
theorem Own.but {L : List Nat} {u u' : World} {gr gc gm : Nat} {s : St} (h : Own u gr gc gm s) (f : But L u u') (h1 : gr ∉ L) (h2 : gc ∉ L) (h3 : gm ∉ L) : Own u' gr gc gm s :=
  ⟨h.R.but f h1, h.C.but f h2, h.M.but f h3, h.rc, h.rm, h.cm⟩
theorem Own.fr {u u' : World} {gr gc gm : Nat} {s : St} (h : Own u gr gc gm s) (f : Fr u u') : Own u' gr gc gm s := h.but (L := []) (But.of f) (by simp) (by simp) (by simp)
theorem Own.other {u : World} {gr gc gm : Nat} {s : St} (h : Own u gr gc gm s) (Z j : Nat) (v : Value) (h1 : ¬ Z = gr) (h2 : ¬ Z = gc) (h3 : ¬ Z = gm) : Own (u.setCell ⟨Z, j, none⟩ v) gr gc gm s :=
  ⟨h.R.other Z j v h1, h.C.other Z j v h2, h.M.other Z j v h3, h.rc, h.rm, h.cm⟩
theorem Own.alloc {u : World} {gr gc gm : Nat} {s : St} (h : Own u gr gc gm s) (o : Obj) : Own (u.alloc o) gr gc gm s := h.fr (Fr.alloc _ _)
theorem Own.drew {u : World} {gr gc gm : Nat} {s : St} (h : Own u gr gc gm s) : Own u.drew gr gc gm s := h.but (L := []) (But.refl _ _).drew (by simp) (by simp) (by simp)
theorem Own.drewN {u : World} {gr gc gm : Nat} {s : St} (h : Own u gr gc gm s) (n : Nat) : Own (u.drewN n) gr gc gm s := h.but (L := []) ((But.refl _ _).drewN n) (by simp) (by simp) (by simp)
theorem Own.setM {u : World} {gr gc gm : Nat} {s : St} (h : Own u gr gc gm s) (i : Nat) (v : Int) (hi : i < s.M.length) (pc : Int) : Own (u.setCell ⟨gm, i, none⟩ (.int .i64 v)) gr gc gm ⟨pc, s.R, s.C, s.M.set i v⟩ :=
  ⟨h.R.other _ _ _ h.rm.symm, h.C.other _ _ _ h.cm.symm, h.M.set i v hi, h.rc, h.rm, h.cm⟩
theorem Own.pc {u : World} {gr gc gm : Nat} {s : St} (h : Own u gr gc gm s) (pc : Int) : Own u gr gc gm { s with pc := pc } := ⟨h.R, h.C, h.M, h.rc, h.rm, h.cm⟩
/-- A list as the values of a row. -/
abbrev ivl (l : List Int) : Nat → Value := fun i => .int .i64 (l.getD i 0)
/-- A machine, as it is read somewhere. -/
structure SrcS (u : World) (s : St) (aR aC aM : Option Addr) : Prop where
  R : Src u s.R.length (ivl s.R) aR
  C : Src u s.C.length (ivl s.C) aC
  M : Src u s.M.length (ivl s.M) aM
theorem SrcS.fr {u u' : World} {s : St} {aR aC aM : Option Addr} (h : SrcS u s aR aC aM) (f : Fr u u') : SrcS u' s aR aC aM := ⟨h.R.fr f, h.C.fr f, h.M.fr f⟩
theorem Ro.src {u : World} {g : Nat} {xs : List Int} (h : Ro u g xs) : Src u xs.length (ivl xs) (some ⟨g, 0, none⟩) := fun _ => ⟨g, 0, rfl, h.lt, fun i hi => by rw [Nat.zero_add]; exact h.cel i hi⟩
theorem Own.src {u : World} {gr gc gm : Nat} {s : St} (h : Own u gr gc gm s) : SrcS u s (some ⟨gr, 0, none⟩) (some ⟨gc, 0, none⟩) (some ⟨gm, 0, none⟩) := ⟨h.R.src, h.C.src, h.M.src⟩
theorem all_take {l : List Int} {p : Nat} (h : ∀ i, i < p → okB (l.getD i 0) = true) (hp : l.length ≤ p) : l.all okB = true := by
  rw [List.all_eq_true]
  intro x hx
  obtain ⟨i, hi, rfl⟩ := List.mem_iff_getElem.1 hx
  have := h i (by omega)
  rwa [List.getD_eq_getElem?_getD, List.getElem?_eq_getElem hi, Option.getD_some] at this
theorem all_not {l : List Int} {p : Nat} (hp : p < l.length) (h : okB (l.getD p 0) = false) : l.all okB = false := by
  rw [List.all_eq_false]
  refine ⟨l[p], List.getElem_mem hp, ?_⟩
  rw [List.getD_eq_getElem?_getD, List.getElem?_eq_getElem hp, Option.getD_some] at h
  simp [h]

set_option maxHeartbeats 1000000 in
theorem spec_l4Words (xs : List Int) (ao : Option Addr) (cap : Nat) (m : Int) (w : World) (h : Src w xs.length (ivl xs) ao) (hn : xs.length ≤ 100000000) :
    Calls Try.prog 88 #[.slice ao xs.length cap, .int .i64 m] w fun e w' => e = .returned (.bool (xs.all okB && decide ((xs.length : Int) = m))) ∧ w = w' := by
  go_enter Try.func88, Try.ntmps88
  go_wp2_with fail
  have HS := Lib.hid h
  clear h
  go_loopw [5] (fun i wr => ∃ p : Nat, p ≤ xs.length ∧ i = .int .i64 p ∧ (∀ i, i < p → okB (xs.getD i 0) = true) ∧ w = wr) (fun i _ => xs.length - (intOf i).toNat)
  case atStart => exact ⟨0, Nat.zero_le _, rfl, fun i hi => absurd hi (Nat.not_lt_zero _), rfl⟩
  case round =>
    obtain ⟨p, hp, rfl, hok, rfl⟩ := hrel
    have HO := Lib.hid hok
    clear hok
    by_cases hlt : p < xs.length
    · have hlt' : (p : Int) < (xs.length : Int) := by omega
      obtain ⟨g, o, rfl, hgl, hc⟩ := HS.out (by omega)
      have d0 := hc p hlt
      simp only [ivl] at d0
      clear hc
      cases hk : okB (xs.getD p 0)
      · have H := Lib.hid (all_not hlt hk)
        generalize xs.getD p 0 = z at d0 hk
        go_wp2_with (go_at_call 57; refine (spec_WrdOk _ _).mono ?_; rintro e w' ⟨rfl, rfl⟩)
        go_ret
        exact ⟨by rw [H.out]; rfl, rfl⟩
      · have HO2 := Lib.hid (show ∀ i, i < p + 1 → okB (xs.getD i 0) = true from fun i hi => by
          rcases Nat.lt_succ_iff_lt_or_eq.1 hi with h | h
          · exact HO.out i h
          · rw [h]; exact hk)
        generalize xs.getD p 0 = z at d0 hk
        go_wp2_with (go_at_call 57; refine (spec_WrdOk _ _).mono ?_; rintro e w' ⟨rfl, rfl⟩)
        go_roundw
        case rel => exact ⟨p + 1, by omega, by go_num, HO2.out, by trivial⟩
        case measure => simp [intOf]; omega
    · have hge : ¬ (p : Int) < (xs.length : Int) := by omega
      have H := Lib.hid (all_take HO.out (by omega : xs.length ≤ p))
      go_wp2
      go_ret
      refine ⟨ret_bool ?_, rfl⟩
      rw [H.out, Bool.true_and]
      simp [BEq.beq]
theorem impl_areWords (xs : List Int) (ao : Option Addr) (cap : Nat) (m : Int) (w : World) (h : Src w xs.length (ivl xs) ao) (hn : xs.length ≤ 100000000) :
    Calls Try.prog 86 #[.slice ao xs.length cap, .int .i64 m] w fun e w' => e = .returned (.bool (xs.all okB && decide ((xs.length : Int) = m))) ∧ w = w' := by
  go_enter Try.func86, Try.ntmps86
  go_wp2_with fail
  have HS := Lib.hid h
  clear h
  go_loopw [9] (fun i wr => ∃ p : Nat, p ≤ xs.length ∧ i = .int .i64 p ∧ (∀ i, i < p → okB (xs.getD i 0) = true) ∧ w = wr) (fun i _ => xs.length - (intOf i).toNat)
  case atStart => exact ⟨0, Nat.zero_le _, rfl, fun i hi => absurd hi (Nat.not_lt_zero _), rfl⟩
  case round =>
    obtain ⟨p, hp, rfl, hok, rfl⟩ := hrel
    have HO := Lib.hid hok
    clear hok
    by_cases hlt : p < xs.length
    · have hlt' : (p : Int) < (xs.length : Int) := by omega
      obtain ⟨g, o, rfl, hgl, hc⟩ := HS.out (by omega)
      have d0 := hc p hlt
      simp only [ivl] at d0
      clear hc
      cases hk : okB (xs.getD p 0)
      · have H := Lib.hid (all_not hlt hk)
        generalize xs.getD p 0 = z at d0 hk
        go_wp2_with (go_at_call 77; refine (impl_WrdOk _ _).mono ?_; rintro e w' ⟨rfl, rfl⟩)
        go_ret
        exact ⟨by rw [H.out]; rfl, rfl⟩
      · have HO2 := Lib.hid (show ∀ i, i < p + 1 → okB (xs.getD i 0) = true from fun i hi => by
          rcases Nat.lt_succ_iff_lt_or_eq.1 hi with h | h
          · exact HO.out i h
          · rw [h]; exact hk)
        generalize xs.getD p 0 = z at d0 hk
        go_wp2_with (go_at_call 77; refine (impl_WrdOk _ _).mono ?_; rintro e w' ⟨rfl, rfl⟩)
        go_roundw
        case rel => exact ⟨p + 1, by omega, by go_num, HO2.out, by trivial⟩
        case measure => simp [intOf]; omega
    · have hge : ¬ (p : Int) < (xs.length : Int) := by omega
      have H := Lib.hid (all_take HO.out (by omega : xs.length ≤ p))
      go_wp2
      go_ret
      refine ⟨ret_bool ?_, rfl⟩
      rw [H.out, Bool.true_and]
      simp [BEq.beq]
theorem words_eq (xs : List Int) (m : Nat) : (xs.all okB && decide ((xs.length : Int) = (m : Int))) = wordsB xs m := by
  unfold wordsB
  congr 1
  rw [decide_eq_decide]
  omega
theorem wordsB_true {xs : List Int} {m : Nat} (h : wordsB xs m = true) : xs.all okB = true ∧ xs.length = m := by
  simpa [wordsB] using h
/-- How many numbers a machine has, at most. -/
structure Few (s : St) : Prop where
  R : s.R.length ≤ 100000000
  C : s.C.length ≤ 100000000
  M : s.M.length ≤ 100000000
section
variable {P : Program} {Q : Exit → Act → World → Prop}
/-- append onto an empty slice without room: a new row. -/
theorem wp_append_new {o : Oper} {a : Act} {w : World} {K : Act → World → Prop} (s x : Operand) (t : TypeId) (ho : o.op = .call { callee := .builtin .append, args := #[s, x], argTypes := #[t, t] })
    (e : TypeId) (ti : TypeInfo) (z : Value) (ht : P.underlying t = some (.slice e)) (hi : P.info? e = some ti) (hz : ti.zero = some z) (hsize : ti.size = 1) (hby : ti.bytes = 8)
    (g : Addr) (hs : a.eval s = .slice (some g) 0 0) (ad : Addr) (m c : Nat) (news : List Value) (hx : a.eval x = .slice (some ad) m c) (hl : news.length = m)
    (hnews : ∀ j u, news[j]? = some u → w.cell? (ad.add j) = some u) (h1 : ∀ u ∈ news, u.oneCell' = true) (h0 : 0 < m) (hm : m ≤ 100000000)
    (h : ∀ (cap : Nat) (zs : Array Value), (z.cells.size = 1 → m + zs.size = cap ∧ cap ≤ maxLen) → K (a.put o.dst (.slice (some ⟨w.heap.size, 0, none⟩) m cap)) (w.drew.alloc (.cells (news.toArray ++ zs) e))) : o.wp P a w K Q := by
  have hrun := run_append_grow_src (P := P) w t t o.type e ti z ht hi hz (some g) 0 0 [] (run_firstCells_some w.drew ti.size 0 g 0 0 [] (by simp) (fun j u h => by simp at h)) (.slice (some ad) m c) m news
    (_root_.Go.Src.ofSlice w ht ad m c news (by rw [hsize, hl, Nat.mul_one]) hnews h1) (by omega) (by omega) (growslice_fits (by omega) (by rw [hby]; omega))
  simp only [Nat.zero_add, List.nil_append] at hrun
  unfold Oper.wp execOp
  simp only [ho, resolve, invoke, builtin, Sem.run_bind, Sem.run_pure, Result.andThen_ok, List.map_toArray, List.map_cons, List.map_nil, hs, hx, hrun]
  refine h _ _ (fun hz1 => ?_)
  have := grownCap_ge w m 0 e
  refine ⟨?_, grownCap_le_maxLen w m 0 e (by unfold maxLen; omega)⟩
  simp only [Builtin.zeroCells, Array.size_map, Array.size_range, hz1, Nat.mul_one]
  omega
end
theorem ro_new (w : World) (xs : List Int) (zs : Array Value) (e : TypeId) : Ro (w.alloc (.cells ((xs.map (Value.int .i64)).toArray ++ zs) e)) w.heap.size xs := by
  refine ⟨by simp, fun i hi => ?_, fun i hi => (alloc_at w _ e _ rfl i).2⟩
  rw [(alloc_at w _ e _ rfl i).1, Array.getElem?_append_left (by simpa using hi)]
  simp [hi]
/-- A row of numbers has just as much room as its slice says. -/
def Ca (u : World) (g n c : Nat) : Prop := ∃ cur, u.heap[g]? = some (.cells cur 3 (0, 0)) ∧ cur.size = c ∧ n ≤ c ∧ c ≤ maxLen
theorem Ca.but {L : List Nat} {u u' : World} {g n c : Nat} (h : Ca u g n c) (f : But L u u') (hn : g ∉ L) : Ca u' g n c := by
  obtain ⟨cur, h1, h2⟩ := h
  have hg : g < u.heap.size := by
    by_cases hh : g < u.heap.size
    · exact hh
    · rw [Array.getElem?_eq_none (by omega)] at h1; cases h1
  exact ⟨cur, by rw [f.block g hg hn]; exact h1, h2⟩
theorem Ca.set {u : World} {g n c : Nat} (h : Ca u g n c) (Z j : Nat) (v : Value) : Ca (u.setCell ⟨Z, j, none⟩ v) g n c := by
  obtain ⟨cur, h1, h2, h3⟩ := h
  by_cases e : Z = g
  · subst e
    refine ⟨cur.setIfInBounds j v, ?_, by simpa using h2, h3⟩
    simp [World.setCell, Array.getElem?_modify, h1]
  · exact ⟨cur, by rw [Below.heap_setCell _ _ _ _ (by show g ≠ Z; omega)]; exact h1, h2, h3⟩
theorem ca_new (w : World) (xs : List Int) (zs : Array Value) (c : Nat) (hc : xs.length + zs.size = c ∧ c ≤ maxLen) : Ca (w.alloc (.cells ((xs.map (Value.int .i64)).toArray ++ zs) 3)) w.heap.size xs.length c := by
  refine ⟨(xs.map (Value.int .i64)).toArray ++ zs, ?_, by simp [hc.1], by omega, hc.2⟩
  show (w.heap.push _)[w.heap.size]? = _
  simp
theorem ca_own {u : World} {B g c : Nat} {xs : List Int} (h : Ca u g xs.length c) (r : Ro u g xs) (hB : B ≤ g) : u.ownsRow B 3 1 (.slice (some ⟨g, 0, none⟩) xs.length c) xs.length (xs.map (Value.int .i64)) := by
  obtain ⟨cur, h1, h2, h3, h4⟩ := h
  refine ⟨by simp, .inr ⟨g, c, cur, rfl, hB, h1, h3, h4, by simpa using h2, ?_⟩⟩
  rw [Nat.mul_one]
  apply List.ext_getElem?
  intro i
  by_cases hi : i < xs.length
  · have hc := r.cel i hi
    simp only [World.cell?, h1] at hc
    rw [List.getElem?_take_of_lt hi, List.getElem?_map, List.getElem?_eq_getElem hi]
    simpa [List.getD, List.getElem?_eq_getElem hi] using hc
  · rw [List.getElem?_eq_none (by simp; omega), List.getElem?_eq_none (by simp; omega)]
theorem ro_own {u : World} {B g n c : Nat} {e : TypeId} {xs : List Int} (h : u.ownsRow B e 1 (.slice (some ⟨g, 0, none⟩) n c) n (xs.map (Value.int .i64))) : Ro u g xs ∧ B ≤ g ∧ xs.length = n := by
  obtain ⟨hl, hc⟩ := h
  rw [List.length_map, Nat.mul_one] at hl
  rcases hc with ⟨h, _⟩ | ⟨g', cap, cur, hv, hB, hg, hcap, _, hcs, hxs⟩
  · cases h
  · cases hv
    refine ⟨⟨?_, fun i hi => ?_, fun i hi => by simp [World.frozen?, hg]⟩, hB, hl⟩
    · by_cases hh : g < u.heap.size
      · exact hh
      · rw [Array.getElem?_eq_none (by omega)] at hg; cases hg
    · simp only [World.cell?, hg]
      have h1 : (cur.toList.take (n * 1))[i]? = (xs.map (Value.int .i64))[i]? := by rw [hxs]
      rw [List.getElem?_take_of_lt (by omega), List.getElem?_map, List.getElem?_eq_getElem hi] at h1
      simpa [List.getD, List.getElem?_eq_getElem hi] using h1
theorem cells_of (xs : List Int) {u : World} {g o : Nat} (hc : ∀ i, i < xs.length → u.cell? ⟨g, o + i, none⟩ = some (ivl xs i)) : ∀ j v, (xs.map (Value.int .i64))[j]? = some v → u.cell? ((⟨g, o, none⟩ : Addr).add j) = some v := fun j v hj => by
  rw [List.getElem?_map] at hj
  obtain ⟨x, hx, rfl⟩ := Option.map_eq_some_iff.1 hj
  obtain ⟨hlt, hx'⟩ := List.getElem?_eq_some_iff.1 hx
  have h1 := hc j hlt
  simp only [ivl, List.getD_eq_getElem?_getD, hx, Option.getD_some] at h1
  rcases Nat.eq_zero_or_pos j with rfl | h
  · simpa [Addr.add] using h1
  · simpa [Addr.add, show j ≠ 0 by omega] using h1
theorem ints_one (xs : List Int) : ∀ u ∈ xs.map (Value.int .i64), u.oneCell' = true := fun u hu => by
  obtain ⟨_, _, rfl⟩ := List.mem_map.1 hu
  rfl
/-- A new row. -/
def Nrow (B : Nat) (xs : List Int) (v : Value) (u : World) : Prop := ∃ g c, v = .slice (some ⟨g, 0, none⟩) xs.length c ∧ B ≤ g ∧ Ro u g xs
theorem Nrow.but {B : Nat} {xs : List Int} {v : Value} {u u' : World} {L : List Nat} (h : Nrow B xs v u) (f : But L u u') (hL : ∀ k, k ∈ L → k < B) : Nrow B xs v u' := by
  obtain ⟨g, c, e, hB, r⟩ := h
  exact ⟨g, c, e, hB, r.but f (fun hm => by have := hL g hm; omega)⟩
/-- Four cells of a block that may be written. -/
structure Box4 (u : World) (g : Nat) (a b c d : Value) : Prop where
  lt : g < u.heap.size
  c0 : u.cell? ⟨g, 0, none⟩ = some a
  c1 : u.cell? ⟨g, 1, none⟩ = some b
  c2 : u.cell? ⟨g, 2, none⟩ = some c
  c3 : u.cell? ⟨g, 3, none⟩ = some d
  f0 : u.frozen? ⟨g, 0, none⟩ = false
  f1 : u.frozen? ⟨g, 1, none⟩ = false
  f2 : u.frozen? ⟨g, 2, none⟩ = false
  f3 : u.frozen? ⟨g, 3, none⟩ = false
theorem Box4.but {L : List Nat} {u u' : World} {g : Nat} {a b c d : Value} (h : Box4 u g a b c d) (f : But L u u') (hn : g ∉ L) : Box4 u' g a b c d :=
  ⟨Nat.lt_of_lt_of_le h.lt f.size, by rw [f.cell h.lt hn]; exact h.c0, by rw [f.cell h.lt hn]; exact h.c1, by rw [f.cell h.lt hn]; exact h.c2, by rw [f.cell h.lt hn]; exact h.c3, by rw [f.frozen h.lt hn]; exact h.f0, by rw [f.frozen h.lt hn]; exact h.f1, by rw [f.frozen h.lt hn]; exact h.f2, by rw [f.frozen h.lt hn]; exact h.f3⟩
theorem Box4.fr {u u' : World} {g : Nat} {a b c d : Value} (h : Box4 u g a b c d) (f : Fr u u') : Box4 u' g a b c d := h.but (L := []) (But.of f) (by simp)
theorem Box4.below {B : Nat} {u u' : World} {g : Nat} {a b c d : Value} (h : Box4 u g a b c d) (f : Below B u u') (hn : g < B) : Box4 u' g a b c d :=
  ⟨Nat.lt_of_lt_of_le h.lt f.size, by rw [f.cell (show g < B from hn)]; exact h.c0, by rw [f.cell (show g < B from hn)]; exact h.c1, by rw [f.cell (show g < B from hn)]; exact h.c2, by rw [f.cell (show g < B from hn)]; exact h.c3, by rw [f.frozen (show g < B from hn)]; exact h.f0, by rw [f.frozen (show g < B from hn)]; exact h.f1, by rw [f.frozen (show g < B from hn)]; exact h.f2, by rw [f.frozen (show g < B from hn)]; exact h.f3⟩
theorem Box4.new (w : World) (a b c d : Value) (t : TypeId) (n : Nat) (hn : w.heap.size = n) : Box4 (w.alloc (.cells #[a, b, c, d] t)) n a b c d := by
  subst hn
  exact ⟨by simp, (alloc_at w _ t _ rfl 0).1, (alloc_at w _ t _ rfl 1).1, (alloc_at w _ t _ rfl 2).1, (alloc_at w _ t _ rfl 3).1, (alloc_at w _ t _ rfl 0).2, (alloc_at w _ t _ rfl 1).2, (alloc_at w _ t _ rfl 2).2, (alloc_at w _ t _ rfl 3).2⟩
/-- Four stores into a block. -/
theorem Box4.set {u : World} {g : Nat} {a b c d : Value} (h : Box4 u g a b c d) (a' b' c' d' : Value) : Box4 ((((u.setCell ⟨g, 0, none⟩ a').setCell ⟨g, 1, none⟩ b').setCell ⟨g, 2, none⟩ c').setCell ⟨g, 3, none⟩ d') g a' b' c' d' := by
  have c0 := h.c0
  have c1 := h.c1
  have c2 := h.c2
  have c3 := h.c3
  have f0 := h.f0
  have f1 := h.f1
  have f2 := h.f2
  have f3 := h.f3
  have hl := h.lt
  refine ⟨by simpa [World.setCell] using hl, ?_, ?_, ?_, ?_, ?_, ?_, ?_, ?_⟩
  all_goals simp [World.frozen?_setCell, World.cell?_setCell_other, World.cell?_setCell_same, c0, c1, c2, c3, f0, f1, f2, f3]
theorem But.set4 {L : List Nat} {w w' : World} (h : But L w w') (g : Nat) (a b c d : Value) (hg : g ∈ L ∨ w.heap.size ≤ g) : But L w ((((w'.setCell ⟨g, 0, none⟩ a).setCell ⟨g, 1, none⟩ b).setCell ⟨g, 2, none⟩ c).setCell ⟨g, 3, none⟩ d) :=
  (((h.set g 0 a hg).set g 1 b hg).set g 2 c hg).set g 3 d hg
def NrowC (B : Nat) (xs : List Int) (v : Value) (u : World) : Prop := ∃ g c, v = .slice (some ⟨g, 0, none⟩) xs.length c ∧ B ≤ g ∧ Ro u g xs ∧ Ca u g xs.length c
theorem NrowC.but {B : Nat} {xs : List Int} {v : Value} {u u' : World} {L : List Nat} (h : NrowC B xs v u) (f : But L u u') (hL : ∀ k, k ∈ L → k < B) : NrowC B xs v u' := by
  obtain ⟨g, c, e, hB, r, k⟩ := h
  exact ⟨g, c, e, hB, r.but f (fun hm => by have := hL g hm; omega), k.but f (fun hm => by have := hL g hm; omega)⟩
end Go.Proofs.Ytoacgjjpipdkjaa
