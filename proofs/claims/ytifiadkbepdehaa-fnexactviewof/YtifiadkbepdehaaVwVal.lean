/- Views as values: what the laws' own helpers do to them. -/
import Derived.Test.YtifiadkbepdehaaMem
import Derived.Test.YtifiadkbepdehaaIntsL
import Derived.Test.YtifiadkbepdehaaIntRow
namespace Go.Proofs.Ytifiadkbepdehaa
open Go.RowKit Go.ChangeShapes Go.WideShapes Go.ChangeAt Go.Deep
open Plain
set_option linter.unusedVariables false
set_option linter.unusedSimpArgs false
attribute [local go_sem] cell_of frozen_of

namespace Plain
structure Vw where
  box : ByteArray
  valid : Int
  uids : List Int
  mod : Int
end Plain
abbrev vwV (x : Vw) (v : Value) : Value := .agg #[.string x.box, .int .i64 x.valid, v, .int .i64 x.mod]
/-- A view that came in. -/
structure ArgVw (B : Nat) (w : World) (a : Option Addr) (x : Vw) : Prop where
  bs : x.box.size ≤ maxLen
  m : x.uids.length ≤ maxLen
  uids : ArgI B w a x.uids
theorem ArgVw.up {w w' : World} {a : Option Addr} {x : Vw} (h : ArgVw w.heap.size w a x) (hb : Below w.heap.size w w') : ArgVw w'.heap.size w' a x := ⟨h.bs, h.m, h.uids.up hb⟩
abbrev rowI (a : Option Addr) (c : Nat) (l : List Int) : Pc := .row a l.length c 3 1 (intsC l)
theorem Mem.ints {W W' : World} {v : Value} {l : List Int} (h : OwnI W.heap.size W' v l) (hb : Below W.heap.size W W') : ∃ a c, v = .slice a l.length c ∧ Mem W W' [rowI a c l] := by
  obtain ⟨a, c, rfl⟩ := g_shape h
  exact ⟨a, c, rfl, Mem.of_row h hb⟩

set_option maxHeartbeats 4000000 in
set_option maxRecDepth 100000 in
theorem toView_any (x : Vw) (a : Option Addr) (c : Nat) (w : World) (hs : x.uids.length ≤ 1048576) (h : ArgVw w.heap.size w a x) :
    Calls Try.prog 19 #[vwV x (.slice a x.uids.length c)] w fun e w' => ∃ a' c', e = .returned (vwV x (.slice a' x.uids.length c')) ∧ Mem w w' [rowI a' c' x.uids] := by
  have HA := hide h
  clear h
  have M := Mem.start w
  go_enter Try.func19, Try.ntmps19
  go_wp2_with fail
  refine (toIntS_any a c x.uids _ hs ((unhide HA).up (Mem.here _)).uids).mono ?_
  rintro e w1 ⟨v, rfl, ho, hb⟩
  obtain ⟨a', c', rfl, M1⟩ := Mem.ints ho hb
  have M := Mem.then M1
  clear ho hb M1
  go_wp2
  refine bodyPost_ret (by simp [results, Try.results19, go_sem]; try rfl) rfl ?_
  exact ⟨_, _, rfl, Mem.end⟩

set_option maxHeartbeats 4000000 in
theorem szView_any (x : Vw) (a : Option Addr) (c : Nat) (w : World) (h : ArgVw w.heap.size w a x) :
    Calls Try.prog 17 #[vwV x (.slice a x.uids.length c), .int .i64 1048576] w fun e w' => (∃ m : Int, e = .returned (.int .i64 m) ∧ (m = -1 ∨ ∃ q : Nat, m = (q : Int) ∧ q ≤ 1048576 ∧ x.box.size ≤ 1048576 ∧ x.uids.length ≤ 1048576)) ∧ Mem w w' [] := by
  have hn := h.bs
  have HA := hide h
  have M := Mem.start w
  unfold maxLen at hn
  clear h
  by_cases h1 : x.box.size ≤ 1048576
  · obtain ⟨L, hL⟩ : ∃ L, L = 1048576 - x.box.size := ⟨_, rfl⟩
    have e0 : (1048576 : Int) - (x.box.size : Int) = (L : Int) := by omega
    have hL2 : L ≤ 1048576 := by omega
    have i1 : ¬ (L : Int) < 0 := by omega
    clear hL
    go_enter Try.func17, Try.ntmps17
    go_wp2_with fail
    refine (szIntS_any a c x.uids.length L _ hL2 (unhide HA).m).mono ?_
    rintro e w1 ⟨⟨m, rfl, hm⟩, rfl⟩
    rcases hm with rfl | ⟨q, rfl, hq, hs⟩
    · go_wp2
      go_ret
      exact ⟨⟨_, rfl, .inl rfl⟩, Mem.end⟩
    · have i2 : ¬ (q : Int) < 0 := by omega
      have HS : Hid (q ≤ 1048576 ∧ x.box.size ≤ 1048576 ∧ x.uids.length ≤ 1048576) := ⟨by omega, h1, by omega⟩
      clear hs hq h1 hL2
      go_wp2
      go_ret
      exact ⟨⟨_, rfl, .inr ⟨q, rfl, unhide HS⟩⟩, Mem.end⟩
  · have e0 : (1048576 : Int) - (x.box.size : Int) < 0 := by omega
    go_enter Try.func17, Try.ntmps17
    go_wp2
    go_ret
    exact ⟨⟨_, rfl, .inl rfl⟩, Mem.end⟩

set_option maxHeartbeats 4000000 in
theorem eqView_same (x : Vw) (a1 a2 : Option Addr) (c1 c2 B1 B2 : Nat) (w : World) (hs : x.uids.length ≤ 1048576) (h1 : OwnI B1 w (.slice a1 x.uids.length c1) x.uids) (h2 : OwnI B2 w (.slice a2 x.uids.length c2) x.uids) :
    Calls Try.prog 12 #[vwV x (.slice a1 x.uids.length c1), vwV x (.slice a2 x.uids.length c2)] w fun e w' => e = .returned (.bool true) ∧ Mem w w' [] := by
  have H1 := hide h1
  have H2 := hide h2
  have M := Mem.start w
  clear h1 h2
  go_enter Try.func12, Try.ntmps12
  go_wp2_with fail
  refine (eqIntS_same x.uids _ _ _ _ _ hs ((unhide H1).up (Mem.here _)) ((unhide H2).up (Mem.here _))).mono ?_
  rintro e w1 ⟨rfl, hb⟩
  have M := Mem.go hb
  clear hb
  go_wp2
  go_ret
  exact ⟨rfl, Mem.end⟩

set_option maxHeartbeats 4000000 in
theorem markView_any (x : Vw) (v : Value) (B k0 : Nat) (w : World) (hs : x.uids.length ≤ 1048576) (hk : k0 ≤ 100000000) (h : OwnI B w v x.uids) :
    Calls Try.prog 15 #[vwV x v, .int .i64 (k0 : Int)] w fun e w' => e = .returned (.int .i64 ((k0 + x.uids.length : Nat) : Int)) ∧ OwnI B w' v (marksI k0 x.uids.length) ∧ w.grownBy w' v.ownBlock := by
  obtain ⟨a, c, rfl⟩ := g_shape h
  have H := hide h
  have M := Mem.start w
  clear h
  go_enter Try.func15, Try.ntmps15
  go_wp2_with fail
  refine (markIntS_any x.uids _ B k0 _ hs hk ((unhide H).up (Mem.here _))).mono ?_
  rintro e w1 ⟨rfl, ho, hg⟩
  have HO := hide ho
  have HG := hide hg
  clear ho hg
  go_wp2
  go_ret
  exact ⟨rfl, unhide HO, g_join (g_grown (Mem.here _) _) (unhide HG)⟩

set_option maxHeartbeats 4000000 in
theorem heldView_any (x : Vw) (v : Value) (B k0 : Nat) (w : World) (hs : x.uids.length ≤ 1048576) (hk : k0 ≤ 100000000) (h : OwnI B w v (marksI k0 x.uids.length)) :
    Calls Try.prog 16 #[vwV x v, .int .i64 (k0 : Int)] w fun e w' => e = .returned (.int .i64 ((k0 + x.uids.length : Nat) : Int)) ∧ Mem w w' [] := by
  obtain ⟨a, c, e0⟩ := g_shape h
  rw [marksI_len] at e0
  subst e0
  have H := hide h
  have M := Mem.start w
  clear h
  go_enter Try.func16, Try.ntmps16
  go_wp2_with fail
  refine (heldIntS_any x.uids.length _ B k0 _ hs hk ((unhide H).up (Mem.here _))).mono ?_
  rintro e w1 ⟨rfl, hb⟩
  have M := Mem.go hb
  have i1 : ¬ ((k0 + x.uids.length : Nat) : Int) < 0 := by omega
  clear hb
  go_wp2
  go_ret
  exact ⟨rfl, Mem.end⟩

theorem Try.cellsLView : Try.prog.cellsOf 41 = 4 := by kernel_rfl
theorem Try.cellsVwStr : Try.prog.cellsOf 9 = 1 := by kernel_rfl
theorem Try.cellsVwInt : Try.prog.cellsOf 3 = 1 := by kernel_rfl
theorem Try.cellsVwIntS : Try.prog.cellsOf 27 = 1 := by kernel_rfl
set_option maxRecDepth 100000 in
theorem open_ia {H : Type} {enc : TypeId × Value → H} {W : World} {base : Nat} {sp : Nat → Bool} {held : Bool} {fuel : Nat} {cs : List Value} {x : DataW H × List MemPlace}
    (hf : DataW.trod enc Try.prog W base sp held fuel 27 cs = some x) :
    ∃ (a : Option Addr) (cap : Nat) (l : List Int), cs = [.slice a l.length cap] ∧ l.length ≤ maxLen ∧ ArgI W.heap.size W a l := by
  rcases open_slice1 Try.underlying27 Try.cellsIntI hf with ⟨hcs, _⟩ | ⟨x, len', cap', m, n, V, D, Pl, hcs, _, hlc, hcm, hm, _, hel⟩
  · exact ⟨none, 0, [], hcs, Nat.zero_le _, fun i f hf => by simp at hf⟩
  · subst hcs
    have hm' : len' ≤ m := by rw [hm]; split <;> omega
    have each : ∀ i, i < len' → ∃ z : Int, W.cell? (x.add i) = some (.int .i64 z) := by
      intro i hi
      obtain ⟨h1, h2⟩ := hel i (by omega)
      obtain ⟨z, e, _⟩ := DataW.trod_int Try.underlying3 h2
      simp at e
      exact ⟨z, by rw [h1, e]⟩
    obtain ⟨F, hF⟩ := choose_lt (α := Int) each
    refine ⟨some x, cap', (List.range len').map F, by simp, by simp; omega, fun i f hf => ?_⟩
    have hi : i < len' := by
      rcases Nat.lt_or_ge i len' with h1 | h1
      · exact h1
      · rw [List.getElem?_eq_none (by simpa using h1)] at hf; cases hf
    obtain rfl : F i = f := by simpa [hi] using hf
    refine ⟨x, rfl, ?_, hF i hi⟩
    have := World.block_lt_of_cell? W _ (hF i hi)
    rwa [add_blk] at this
set_option maxRecDepth 100000 in
theorem open_view {H : Type} {enc : TypeId × Value → H} {W : World} {base : Nat} {v : Value} {d : DataW H} {ps : List MemPlace} (hval : Value.okWide Try.prog W .any base 41 v)
    (h : DataW.Trod enc Try.prog W 0 (fun _ => true) true 41 v d ps) :
    ∃ (x : Vw) (a : Option Addr) (c : Nat), v = vwV x (.slice a x.uids.length c) ∧ ArgVw W.heap.size W a x := by
  obtain ⟨cs, rfl, hsz⟩ := okWide_struct Try.underlying41 hval
  obtain ⟨fuel, hf⟩ := h
  obtain ⟨xs, n, _, _, hl, hlen, hfld⟩ := DataW.trod_struct Try.underlying41 hf
  have h0 := hfld 0 _ rfl
  have h1 := hfld 1 _ rfl
  have h2 := hfld 2 _ rfl
  have h3 := hfld 3 _ rfl
  rw [Try.cellsLView] at hsz
  obtain ⟨l0⟩ := cs
  match l0, hsz, xs, hlen with
  | [u0, u1, u2, u3], _, [y0, y1, y2, y3], _ =>
    obtain ⟨k0, e0, _, z0⟩ := DataW.trod_string Try.underlying9 h0
    obtain ⟨k1, e1, _, z1⟩ := DataW.trod_int Try.underlying3 h1
    obtain ⟨a, c, l, e2, m2, A2⟩ := open_ia h2
    obtain ⟨k3, e3, _, z3⟩ := DataW.trod_int Try.underlying3 h3
    simp [Value.cells, Try.cellsVwStr] at e0
    simp [Value.cells, Try.cellsVwInt] at e1 e3
    simp [Value.cells, Try.cellsVwIntS] at e2
    subst e0 e1 e2 e3
    exact ⟨⟨k0, k1, l, k3⟩, a, c, rfl, ⟨z0, m2, A2⟩⟩
end Go.Proofs.Ytifiadkbepdehaa
