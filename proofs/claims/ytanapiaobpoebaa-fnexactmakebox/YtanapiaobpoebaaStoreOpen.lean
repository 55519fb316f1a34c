/- A store that came in, opened. Made by gen_storeopen.py. -/
import Derived.Test.YtanapiaobpoebaaStoreMarks
namespace Go.Proofs.Ytanapiaobpoebaa
open Go.RowKit Go.ChangeShapes Go.WideShapes Go.ChangeAt Go.Deep
open Plain
set_option linter.unusedVariables false
set_option linter.unusedSimpArgs false

theorem Try.cellsLBoxS : Try.prog.cellsOf 22 = 1 := by kernel_rfl
theorem Try.cellsLStore : Try.prog.cellsOf 24 = 2 := by kernel_rfl
set_option maxRecDepth 100000 in
set_option maxHeartbeats 2000000 in
theorem open_bs {H : Type} {enc : TypeId × Value → H} {W : World} {base : Nat} {sp : Nat → Bool} {held : Bool} {fuel : Nat} {cs : List Value} {x : DataW H × List MemPlace}
  (hf : DataW.trod enc Try.prog W base sp held fuel 22 cs = some x) :
  ∃ (a : Option Addr) (cap : Nat) (l : List Bx), cs = [.slice a l.length cap] ∧ l.length ≤ maxLen ∧ ArgBs W.heap.size W a l := by
 rcases open_slice Try.underlying22 hf with ⟨hcs, _⟩ | ⟨a, vn, cap, m, n, D, Pl, hcs, _, hlc, hcm, hm, _, hel⟩
 ·exact ⟨none, 0, [], hcs, Nat.zero_le _, fun i f hf => by simp at hf⟩
 ·subst hcs
  have hm' : vn ≤ m := by rw [hm]; split <;> omega
  have each : ∀ i, i < vn → ∃ b : Bx, ∃ a1 a2 c1 c2, ArgBx W.heap.size W a1 a2 b ∧ W.cell? (a.add (i * 7)) = some (.string b.name) ∧ W.cell? ⟨(a.add (i * 7)).block, (a.add (i * 7)).off + 1, none⟩ = some (.int .i64 b.valid) ∧ W.cell? ⟨(a.add (i * 7)).block, (a.add (i * 7)).off + 2, none⟩ = some (.int .i64 b.next) ∧ W.cell? ⟨(a.add (i * 7)).block, (a.add (i * 7)).off + 3, none⟩ = some (.int .i64 b.mod) ∧ W.cell? ⟨(a.add (i * 7)).block, (a.add (i * 7)).off + 4, none⟩ = some (.slice a1 b.mails.length c1) ∧ W.cell? ⟨(a.add (i * 7)).block, (a.add (i * 7)).off + 5, none⟩ = some (.slice a2 b.tombs.length c2) ∧ W.cell? ⟨(a.add (i * 7)).block, (a.add (i * 7)).off + 6, none⟩ = some (.int .i64 b.hor) := by
   intro i hi
   obtain ⟨cs', h1, h2⟩ := hel i (by omega)
   rw [Try.cellsLBox] at h1
   obtain ⟨_, hlen, hc⟩ := World.cells?_some h1
   obtain ⟨xs, n', _, _, hl', hlen', hfld⟩ := DataW.trod_struct Try.underlying61 h2
   match cs', hlen with
   | [u0, u1, u2, u3, u4, u5, u6], _ =>
    have h10 := hfld 0 _ rfl; have h11 := hfld 1 _ rfl; have h12 := hfld 2 _ rfl; have h13 := hfld 3 _ rfl; have h14 := hfld 4 _ rfl; have h15 := hfld 5 _ rfl; have h16 := hfld 6 _ rfl
    match xs, hlen' with
    | [y0, y1, y2, y3, y4, y5, y6], _ =>
     obtain ⟨k0, e0, _, z0⟩ := DataW.trod_string Try.underlying9 h10
     obtain ⟨k1, e1, _, z1⟩ := DataW.trod_int Try.underlying3 h11
     obtain ⟨k2, e2, _, z2⟩ := DataW.trod_int Try.underlying3 h12
     obtain ⟨k3, e3, _, z3⟩ := DataW.trod_int Try.underlying3 h13
     obtain ⟨a1, c1, l1, e4, m1, A1⟩ := open_ml h14
     obtain ⟨a2, c2, l2, e5, m2, A2⟩ := open_tb h15
     obtain ⟨k6, e6, _, z6⟩ := DataW.trod_int Try.underlying3 h16
     simp [Try.cellsMailStr] at e0
     simp [Try.cellsMailInt] at e1 e2 e3 e6
     simp [Try.cellsLMailS] at e4
     simp [Try.cellsLTombS] at e5
     subst e0 e1 e2 e3 e4 e5 e6
     have q0 := hc 0 (by simp)
     have q1 := hc 1 (by simp)
     have q2 := hc 2 (by simp)
     have q3 := hc 3 (by simp)
     have q4 := hc 4 (by simp)
     have q5 := hc 5 (by simp)
     have q6 := hc 6 (by simp)
     rw [show ∀ y : Addr, y.add 1 = ⟨y.block, y.off + 1, none⟩ from fun y => by simp [Addr.add]] at q1
     rw [show ∀ y : Addr, y.add 2 = ⟨y.block, y.off + 2, none⟩ from fun y => by simp [Addr.add]] at q2
     rw [show ∀ y : Addr, y.add 3 = ⟨y.block, y.off + 3, none⟩ from fun y => by simp [Addr.add]] at q3
     rw [show ∀ y : Addr, y.add 4 = ⟨y.block, y.off + 4, none⟩ from fun y => by simp [Addr.add]] at q4
     rw [show ∀ y : Addr, y.add 5 = ⟨y.block, y.off + 5, none⟩ from fun y => by simp [Addr.add]] at q5
     rw [show ∀ y : Addr, y.add 6 = ⟨y.block, y.off + 6, none⟩ from fun y => by simp [Addr.add]] at q6
     refine ⟨⟨k0, k1, k2, k3, l1, l2, k6⟩, a1, a2, c1, c2, ⟨z0, m1, m2, A1, A2⟩, ?_, q1, q2, q3, q4, q5, q6⟩
     simpa [Addr.add] using q0
  have inh : Inhabited Bx := ⟨bx0⟩
  obtain ⟨F, hF⟩ := choose_lt (α := Bx) each
  refine ⟨some a, cap, (List.range vn).map F, by simp, by simp; omega, fun i f hf => ?_⟩
  have hi : i < vn := by
   rcases Nat.lt_or_ge i vn with h1 | h1
   ·exact h1
   ·rw [List.getElem?_eq_none (by simpa using h1)] at hf; cases hf
  obtain rfl : F i = f := by simpa [hi] using hf
  obtain ⟨a1, a2, c1, c2, hA, q0, q1, q2, q3, q4, q5, q6⟩ := hF i hi
  refine ⟨a, a1, a2, c1, c2, rfl, ?_, hA, q0, q1, q2, q3, q4, q5, q6⟩
  have := World.block_lt_of_cell? W _ q0
  rwa [g_add] at this
set_option maxRecDepth 100000 in
theorem open_store {H : Type} {enc : TypeId × Value → H} {W : World} {base : Nat} {v : Value} {d : DataW H} {ps : List MemPlace} (hval : Value.okWide Try.prog W .any base 24 v)
  (h : DataW.Trod enc Try.prog W 0 (fun _ => true) true 24 v d ps) :
  ∃ (s : Sx) (a : Option Addr) (c : Nat), v = .agg #[.slice a s.boxes.length c, .int .i64 s.valid] ∧ ArgSt W.heap.size W a s := by
 obtain ⟨cs, rfl, hsz⟩ := okWide_struct Try.underlying24 hval
 obtain ⟨fuel, hf⟩ := h
 obtain ⟨xs, n, _, _, hl, hlen, hfld⟩ := DataW.trod_struct Try.underlying24 hf
 have h0 := hfld 0 _ rfl; have h1 := hfld 1 _ rfl
 rw [Try.cellsLStore] at hsz
 obtain ⟨l0⟩ := cs
 match l0, hsz, xs, hlen with
 | [u0, u1], _, [y0, y1], _ =>
  obtain ⟨a1, c1, l1, e0, m1, A1⟩ := open_bs h0
  obtain ⟨k1, e1, _, z1⟩ := DataW.trod_int Try.underlying3 h1
  simp [Value.cells, Try.cellsLBoxS] at e0
  simp [Value.cells, Try.cellsMailInt] at e1
  subst e0 e1
  exact ⟨⟨l1, k1⟩, a1, c1, rfl, m1, A1⟩
end Go.Proofs.Ytanapiaobpoebaa
