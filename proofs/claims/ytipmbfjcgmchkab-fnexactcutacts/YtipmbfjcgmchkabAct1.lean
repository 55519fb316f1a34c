/- One act: what the laws' own helpers do to it; one that came in, opened. -/
import Derived.Test.YtipmbfjcgmchkabShelfDo
import Derived.Test.YtipmbfjcgmchkabOpenDisk
namespace Go.Proofs.Ytipmbfjcgmchkab
open Go.ChangeShapes Go.WideShapes Go.ChangeAt Go.RowKit
open Plain
set_option linter.unusedVariables false

def ActIn (x : Ac) : Prop := x.name.size ≤ maxLen ∧ x.text.size ≤ maxLen ∧ x.to.size ≤ maxLen

set_option maxHeartbeats 1000000 in
theorem toAct_any (x : Ac) (w : World) :
    Calls Try.prog 35 #[.agg (ac x)] w fun e w' => e = .returned (.agg (ac x)) ∧ Below w.heap.size w w' := by
  obtain ⟨k, n, t, o⟩ := x
  simp only [ac]
  go_enter Try.func35, Try.ntmps35
  go_wp2
  go_returns
  refine ⟨rfl, ?_⟩
  go_grown

set_option maxHeartbeats 1000000 in
theorem eqAct_same (x : Ac) (w : World) :
    Calls Try.prog 37 #[.agg (ac x), .agg (ac x)] w fun e w' => e = .returned (.bool true) ∧ Below w.heap.size w w' := by
  obtain ⟨k, n, t, o⟩ := x
  simp only [ac]
  go_enter Try.func37, Try.ntmps37
  go_wp2
  go_ret
  refine ⟨rfl, ?_⟩
  go_grown

set_option maxHeartbeats 1000000 in
theorem szAct_any (x : Ac) (L : Nat) (w : World) (hL : L ≤ 1048576) (hx : ActIn x) :
    Calls Try.prog 32 #[.agg (ac x), .int .i64 (L : Int)] w fun e w' =>
      (∃ m : Int, e = .returned (.int .i64 m) ∧ (m = -1 ∨ ∃ q : Nat, m = (q : Int) ∧ q ≤ L ∧ SmallA 1048576 x)) ∧ Below w.heap.size w w' := by
  obtain ⟨k, n, t, o⟩ := x
  obtain ⟨hn, ht, ho⟩ := hx
  simp only [ac] at *
  unfold maxLen at hn ht ho
  unfold SmallA
  simp only
  by_cases h1 : n.size ≤ L
  · by_cases h2 : n.size + t.size ≤ L
    · have e0 : ((n.size : Int) + (t.size : Int)) ≤ (L : Int) := by omega
      by_cases h3 : n.size + t.size + o.size ≤ L
      · have e1 : ((n.size : Int) + (t.size : Int)) + (o.size : Int) ≤ (L : Int) := by omega
        go_enter Try.func32, Try.ntmps32
        go_wp2
        all_goals go_ret
        exact ⟨⟨_, rfl, .inr ⟨L - n.size - t.size - o.size, by omega, by omega, by omega, by omega, by omega⟩⟩, (Below.refl _ w).alloc (Nat.le_refl _) _⟩
      · have e1 : (L : Int) < ((n.size : Int) + (t.size : Int)) + (o.size : Int) := by omega
        go_enter Try.func32, Try.ntmps32
        go_wp2
        go_ret
        exact ⟨⟨_, rfl, .inl rfl⟩, (Below.refl _ w).alloc (Nat.le_refl _) _⟩
    · have e0 : (L : Int) < ((n.size : Int) + (t.size : Int)) := by omega
      go_enter Try.func32, Try.ntmps32
      go_wp2
      go_ret
      exact ⟨⟨_, rfl, .inl rfl⟩, (Below.refl _ w).alloc (Nat.le_refl _) _⟩
  · go_enter Try.func32, Try.ntmps32
    go_wp2
    go_ret
    exact ⟨⟨_, rfl, .inl rfl⟩, (Below.refl _ w).alloc (Nat.le_refl _) _⟩

theorem Try.cellsLAct : Try.prog.cellsOf 58 = 4 := by kernel_rfl
theorem add_three (y : Addr) : y.add 3 = ⟨y.block, y.off + 3, none⟩ := by simp [Addr.add]

set_option maxRecDepth 100000 in
theorem open_actcells {H : Type} {enc : TypeId × Value → H} {W : World} {fuel : Nat} {cs : List Value} {x : DataW H × List MemPlace} (hl : cs.length = 4) (h : DataW.trod enc Try.prog W 0 (fun _ => true) true fuel 58 cs = some x) :
    ∃ a : Ac, cs = [.int .i64 a.kind, .string a.name, .string a.text, .string a.to] ∧ ActIn a := by
  obtain ⟨xs, n, _, _, hl', hlen, hfld⟩ := DataW.trod_struct Try.underlying58 h
  match cs, hl with
  | [u0, u1, u2, u3], _ =>
    have h0 := hfld 0 _ rfl
    have h1 := hfld 1 _ rfl
    have h2 := hfld 2 _ rfl
    have h3 := hfld 3 _ rfl
    match xs, hlen with
    | [y0, y1, y2, y3], _ =>
      obtain ⟨k0, e0, _, b0⟩ := DataW.trod_int Try.underlying3 h0
      obtain ⟨s1, e1, _, b1⟩ := DataW.trod_string Try.underlying9 h1
      obtain ⟨s2, e2, _, b2⟩ := DataW.trod_string Try.underlying9 h2
      obtain ⟨s3, e3, _, b3⟩ := DataW.trod_string Try.underlying9 h3
      simp at e0 e1 e2 e3
      rw [Try.cellsInt] at e0
      rw [Try.cellsStr] at e1 e2 e3
      simp at e0 e1 e2 e3
      subst e0 e1 e2 e3
      exact ⟨⟨k0, s1, s2, s3⟩, rfl, b1, b2, b3⟩

set_option maxRecDepth 100000 in
theorem open_act {H : Type} {enc : TypeId × Value → H} {W : World} {base : Nat} {v : Value} {d : DataW H} {ps : List MemPlace} (hval : Value.okWide Try.prog W .any base 58 v)
    (h : DataW.Trod enc Try.prog W 0 (fun _ => true) true 58 v d ps) :
    ∃ x : Ac, v = .agg #[.int .i64 x.kind, .string x.name, .string x.text, .string x.to] ∧ ActIn x := by
  obtain ⟨cs, rfl, hsz⟩ := okWide_struct Try.underlying58 hval
  obtain ⟨fuel, hf⟩ := h
  rw [Try.cellsLAct] at hsz
  obtain ⟨l0⟩ := cs
  obtain ⟨x, hx, hi⟩ := open_actcells (cs := l0) (by simpa using hsz) (by simpa [Value.cells] using hf)
  subst hx
  exact ⟨x, rfl, hi⟩
end Go.Proofs.Ytipmbfjcgmchkab
