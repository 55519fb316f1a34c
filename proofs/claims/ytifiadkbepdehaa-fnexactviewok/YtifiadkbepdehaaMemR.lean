/- Regions whose order is drawn, walked over what is known of the memory (Mem). Nothing of the program stands here. -/
import Derived.Test.YtifiadkbepdehaaMem
import Derived.Test.YtifiadkbepdehaaTv
import Derived.Test.YtifiadkbepdehaaLate2
import Derived.Deep.AppendLies
namespace Go.Proofs.Ytifiadkbepdehaa
open Go Go.RowKit
set_option linter.unusedVariables false

instance (priority := 50) HasCell.elder {w W : World} {L : List Pc} {b j : Nat} {v : Value} [M : Mem w W L] [h : HasCell w b j v] : HasCell W b j v :=
  ⟨(M.below.cell (p := ⟨b, j, none⟩) (World.block_lt_of_cell? w _ h.out)).trans h.out⟩
theorem Mem.nil {w W : World} {L : List Pc} (t : TypeId) (m : Nat) [M : Mem w W L] : Mem w W (.row none 0 0 t m [] :: L) :=
  ⟨M.below, fun p hp => by
    rcases List.mem_cons.1 hp with rfl | hp
    · exact ⟨by simp, .inl ⟨rfl, rfl⟩⟩
    · exact M.lies p hp, List.pairwise_cons.2 ⟨fun q _ k hk => (by cases hk), M.apart⟩⟩

section
variable {P : Program} {ops : Array Oper} {Q : Exit → Act → World → Prop} {w0 : World} {L : List Pc}
/-- The beginning of a region: what is known is kept by all operations below z; those from z on wait for the others. -/
theorem mb {id : Nat} {a : Act} {W : World} (z : Nat) [M : Mem w0 W L] (h : Mem w0 W.drew L → wpLat2 P ops Q (fun w' => Mem w0 w' L) z ops.size (Array.replicate ops.size false) a W.drew) (hm : P.follows .mixedOrders = true := by kernel_rfl) : (Code.region id ops true).wp P Q a W :=
  lat2Begin (S := fun w' => Mem w0 w' L) z hm (show Mem w0 W.drew L from inferInstance) h
/-- An operation that yields its value. -/
theorem tm (i : Nat) (d : Tmp) {K : List Pc} {v : Value} {z : Nat} {oi : Oper} {fuel : Nat} {listed : Array Bool} {a a2 : Act} {w : World} [M : Mem w0 w K] [hk : SubL L K]
    (h : wpLat2 P ops Q (fun w' => Mem w0 w' L) z fuel (listed.setIfInBounds i true) a2 w) (hi : ops[i]? = some oi := by exact rfl) (hd : oi.dst = some d := by exact rfl)
    (hs : Region.noSelect ops = true := by kernel_rfl) (hf : Region.free .any ops listed i = true := by kernel_rfl) (hl : lat2Ok ops listed z i = true := by kernel_rfl) (hr : (Region.ready .any ops listed).contains i = true := by kernel_rfl)
    (hw : Region.wanted oi (yielded ops a.tmps) = true := by rfl)
    (hy : ∀ w, Mem w0 w L → (execOp a.eval oi).run P w = .ok (.value v) w := by (intro w hM; refine Eq.trans (b := ?_) ?_ ?_; rotate_left; (go_simp <;> with_reducible rfl); with_reducible rfl))
    (he : a.put (some d) v = a2 := by (simp only [Act.put, p1, p2, p3]; (try with_reducible rfl)))
    (hQ : ∀ c a w, Q (.panic c) (a.put (some d) v) w → Q (.panic c) a w := by exact fun _ _ _ h => h) : wpLat2 P ops Q (fun w' => Mem w0 w' L) z (fuel + 1) listed a w :=
  lat2Take i (some d) v hi hs hf hl hr hd hQ hw (M.part hk.out) hy (he ▸ h)
/-- An operation whose guard says no. -/
theorem ts (i : Nat) (d : Tmp) {K : List Pc} {z : Nat} {oi : Oper} {fuel : Nat} {listed : Array Bool} {a a2 : Act} {w : World} [M : Mem w0 w K] [hk : SubL L K]
    (h : wpLat2 P ops Q (fun w' => Mem w0 w' L) z fuel (listed.setIfInBounds i true) a2 w) (hi : ops[i]? = some oi := by exact rfl) (hd : oi.dst = some d := by exact rfl)
    (hs : Region.noSelect ops = true := by kernel_rfl) (hf : Region.free .any ops listed i = true := by kernel_rfl) (hl : lat2Ok ops listed z i = true := by kernel_rfl) (hr : (Region.ready .any ops listed).contains i = true := by kernel_rfl)
    (hw : Region.wanted oi (yielded ops a.tmps) = false := by rfl)
    (he : a.put (some d) undef = a2 := by (simp only [Act.put, p1, p2, p3]; (try with_reducible rfl)))
    (hQ : ∀ c a w, Q (.panic c) (a.put (some d) undef) w → Q (.panic c) a w := by exact fun _ _ _ h => h) : wpLat2 P ops Q (fun w' => Mem w0 w' L) z (fuel + 1) listed a w :=
  lat2Skip i (some d) hi hs hf hl hr hd hQ hw (M.part hk.out) (he ▸ h)
/-- A call that is the one operation to come up. -/
theorem tc (i : Nat) (d : Tmp) {z : Nat} {oi : Oper} {fuel : Nat} {listed : Array Bool} {a : Act} {w : World} {f : FuncId} {args : Array Value} {R : Ending → World → Prop} (C : Calls P f args w R)
    (h : ∀ e w', R e w' → ∃ u, e = .returned u ∧ Mem w0 w' L ∧ ∀ a2, a.put (some d) u = a2 → wpLat2 P ops Q (fun w' => Mem w0 w' L) z fuel (listed.setIfInBounds i true) a2 w')
    (hr : Region.ready .any ops listed = [i] := by kernel_rfl) (hi : ops[i]? = some oi := by exact rfl) (hd : oi.dst = some d := by exact rfl) (hw : Region.wanted oi (yielded ops a.tmps) = true := by rfl)
    (he : (execOp a.eval oi).run P w = .ok (.enter f args) w := by (refine Eq.trans (b := ?_) ?_ ?_; rotate_left; (go_simp <;> with_reducible rfl); with_reducible rfl)) : wpLat2 P ops Q (fun w' => Mem w0 w' L) z (fuel + 1) listed a w := by
  refine lat2Step i hr hi hw fun K hK => ?_
  unfold Oper.wp
  rw [he, Oper.upon_enter]
  refine Calls.mono C fun e w' hR => ?_
  obtain ⟨u, rfl, hM, hw'⟩ := h e w' hR
  rw [hd]
  exact hK.out _ _ hM fun _ => hw' _ rfl
theorem tce {z fuel : Nat} {listed : Array Bool} {a a2 : Act} {d : Tmp} {u : Value} {w : World} {K : List Pc} [M : Mem w0 w K] [hk : SubL L K] (h : wpLat2 P ops Q (fun w' => Mem w0 w' L) z fuel listed a2 w)
    (he : a.put (some d) u = a2 := by (simp only [Act.put, p1, p2, p3]; (try with_reducible rfl))) : ∃ u', Ending.returned u = .returned u' ∧ Mem w0 w L ∧ ∀ a2, a.put (some d) u' = a2 → wpLat2 P ops Q (fun w' => Mem w0 w' L) z fuel listed a2 w :=
  ⟨u, rfl, M.part hk.out, fun a3 h3 => by rw [← h3, he]; exact h⟩
/-- Another operation that is the one to come up: it changes the world. -/
theorem to_ (i : Nat) {z : Nat} {oi : Oper} {fuel : Nat} {listed : Array Bool} {a : Act} {w : World}
    (h : ∀ K : Act → World → Prop, Shut (∀ a w', Mem w0 w' L → wpLat2 P ops Q (fun w' => Mem w0 w' L) z fuel (listed.setIfInBounds i true) a w' → K a w') → Oper.wp P oi a w K Q)
    (hr : Region.ready .any ops listed = [i] := by kernel_rfl) (hi : ops[i]? = some oi := by exact rfl) (hw : Region.wanted oi (yielded ops a.tmps) = true := by rfl) : wpLat2 P ops Q (fun w' => Mem w0 w' L) z (fuel + 1) listed a w :=
  lat2Step i hr hi hw fun K hK => h K fun a w' hM h2 => hK.out _ _ hM fun _ => h2
/-- A late operation. -/
theorem tl (i : Nat) {z : Nat} {oi : Oper} {fuel : Nat} {listed : Array Bool} {a : Act} {w : World}
    (h : ∀ K : Act → World → Prop, Shut (∀ a w', wpLat2 P ops Q (fun w' => Mem w0 w' L) z fuel (listed.setIfInBounds i true) a w' → K a w') → Oper.wp P oi a w K Q)
    (hz : z ≤ i := by decide) (hr : Region.ready .any ops listed = [i] := by kernel_rfl) (hi : ops[i]? = some oi := by exact rfl) (hw : Region.wanted oi (yielded ops a.tmps) = true := by rfl) : wpLat2 P ops Q (fun w' => Mem w0 w' L) z (fuel + 1) listed a w :=
  lat2Last i hz hr hi hw h
theorem td {z fuel : Nat} {listed : Array Bool} {a : Act} {w : World} (h : Q .normal a w) (hr : Region.ready .any ops listed = [] := by kernel_rfl) : wpLat2 P ops Q (fun w' => Mem w0 w' L) z fuel listed a w := lat2Done hr h fuel
end

/-! ### append -/
/-- What the program knows of a slice's type: its element, how many cells and bytes it has. -/
class Elem (P : Program) (t : TypeId) (e : outParam TypeId) (size bytes : outParam Nat) : Prop where
  out : P.underlying t = some (.slice e) ∧ ∃ i z, P.info? e = some i ∧ i.zero = some z ∧ i.size = size ∧ i.bytes = bytes ∧ z.cells.size = size ∧ 0 < size
/-- append of one element that was made just now, to a row of one's own, within a region. -/
theorem mem_append {P : Program} {o : Oper} {a : Act} {K : Act → World → Prop} {Q : Exit → Act → World → Prop} {w w0 : World} {L : List Pc} (s x : Operand) (t : TypeId) (xs : List Value) (b : Nat) (news : List Value) {c1 : Nat}
    {e : TypeId} {size bytes n c : Nat} {av : Option Addr} {f : Pc → List Pc} [E : Elem P t e size bytes] [M : Mem w0 w L] [hin : InL L (.row av n c e size xs) f] [hob : Ob L b e news]
    (ho : o.op = .call { callee := .builtin .append, args := #[s, x], argTypes := #[t, t] }) (hs : a.eval s = .slice av n c) (hx : a.eval x = .slice (some ⟨b, 0, none⟩) 1 c1)
    (h1 : ∀ u ∈ news, u.oneCell' = true) (hl : news.length = size) (hn : n < 4000000) (hbytes : bytes ≤ 1000)
    (h : ∀ g cap w', Mem w0 w' (f (.row (some ⟨g, 0, none⟩) (n + 1) cap e size (xs ++ news))) → K (a.put o.dst (.slice (some ⟨g, 0, none⟩) (n + 1) cap)) w') : o.wp P a w K Q := by
  obtain ⟨hu, i, z, hi, hz, h2, h3, h4, h5⟩ := E.out
  have hown : w.ownsRow w0.heap.size e size (.slice av n c) n xs := M.get (.row av n c e size xs)
  have hO := (M.lies _ hob.out).2
  refine wp_append_lies w s x t ho w0.heap.size e i z size bytes hu hi hz h2 h3 h4 h5 _ n xs hs hown ⟨b, 0, none⟩ 1 c1 news hx (by rw [hl, Nat.one_mul]) (fun j u hj => ?_) h1 (by decide) (by unfold maxLen; omega) ?_ M.size w.heap.size rfl fun g cap w' ho' hg hb hlt => ?_
  · rw [Addr.add_lit, Nat.zero_add]
    exact hO.cell j hj
  · have : (n + 1) * bytes ≤ 4000000 * 1000 := Nat.mul_le_mul (by omega) hbytes
    omega
  · refine h g cap w' (M.turn (p := .row av n c e size xs) hg ho' ?_)
    rcases hb with hb | rfl
    · exact .inl hb.symm
    · exact .inr rfl
end Go.Proofs.Ytifiadkbepdehaa
