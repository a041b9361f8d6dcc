/- What a guesser has seen, of the model. A call that is seen, of the model. -/
import Derived.Maps.AppendAt
import Derived.Test.YtoacgjjpipdkjaaGu5
import Derived.Test.YtoacgjjpipdkjaaCodSd
import Derived.Test.YtoacgjjpipdkjaaCod
namespace Go.Proofs.Ytoacgjjpipdkjaa
open Go.RowKit
set_option linter.unusedVariables false
set_option linter.unusedSimpArgs false
theorem Rc.src {B : Nat} {u : World} {xs : List Int} {ao : Option Addr} {c : Nat} (h : Rc B u xs ao c) : Src u xs.length (ivl xs) ao := h.vc.src
theorem but_grown {w w' : World} {g : Nat} (h : w.grownBy w' (some g)) : But [g] w w' :=
  ⟨h.os, h.tape, h.output, h.size, fun k hk hn => h.block k hk (fun e => hn (by cases e; simp))⟩
theorem but_grown0 {w w' : World} (h : w.grownBy w' none) : But [] w w' := But.of (grown_fr h)
section
variable {P : Program} (w : World)
theorem wp_append_own_at {o : Oper} {a : Act} {K : Act → World → Prop} {Q : Exit → Act → World → Prop} (s x : Operand) (t : TypeId)
    (ho : o.op = .call { callee := .builtin .append, args := #[s, x], argTypes := #[t, t] })
    (base : Nat) (e : TypeId) (i : TypeInfo) (z : Value) (size bytes : Nat) (ht : P.underlying t = some (.slice e)) (hi : P.info? e = some i) (hz : i.zero = some z)
    (hsize : i.size = size) (hby : i.bytes = bytes) (hzs : z.cells.size = size) (hsz : 0 < size)
    (v : Value) (n : Nat) (xs : List Value) (hs : a.eval s = v) (hown : w.ownsRow base e size v n xs)
    (ad : Addr) (m c : Nat) (news : List Value) (hx : a.eval x = .slice (some ad) m c) (hl : news.length = m * size) (hnews : ∀ j u, news[j]? = some u → w.cell? (ad.add j) = some u) (h1 : ∀ u ∈ news, u.oneCell' = true)
    (h63 : n + m ≤ maxLen) (hbytes : (n + m) * bytes ≤ 140737488355328) (hbase : base ≤ w.heap.size)
    (h : ∀ v' w', w'.ownsRow base e size v' (n + m) (xs ++ news) → w.grownBy w' v.ownBlock → (v'.ownBlock = v.ownBlock ∨ v'.ownBlock = some w.heap.size) → K (a.put o.dst v') w') : o.wp P a w K Q := by
  obtain ⟨v', w', hr, h2, h3, _, h5⟩ := run_append_own_at (P := P) w base t o.type e i z size bytes ht hi hz hsize hby hzs hsz v n xs hown ad m c news hl hnews h1 h63 hbytes hbase
  unfold Oper.wp execOp
  simp only [ho, resolve, invoke, builtin, Sem.run_bind, Sem.run_pure, Result.andThen_ok, List.map_toArray, List.map_cons, List.map_nil, hs, hx, hr]
  exact h v' w' h2 h3 h5
end
theorem Rc.but' {B : Nat} {u u' : World} {xs : List Int} {ao : Option Addr} {c : Nat} {L : List Nat} (h : Rc B u xs ao c) (f : But L u u') (hL : ∀ k, k ∈ L → ∀ g, ao = some ⟨g, 0, none⟩ → g ≠ k) : Rc B u' xs ao c := by
  rcases h with h | ⟨g, e, hB, r, k, h0⟩
  · exact .inl h
  · exact .inr ⟨g, e, hB, r.but f (fun hm => hL g hm g e rfl), k.but f (fun hm => hL g hm g e rfl), h0⟩
end Go.Proofs.Ytoacgjjpipdkjaa
