/- A disk that came in as an argument, opened. -/
import Derived.Test.YtipmbfjcgmchkabFiles
import Derived.Deep.Strs
import Derived.Deep.Slices
import Derived.ChangeArms
import Derived.OpenShut
namespace Go.Proofs.Ytipmbfjcgmchkab
open Go.RowKit Go.ChangeShapes Go.WideShapes Go.Deep
open Plain
set_option linter.unusedVariables false

theorem Try.cellsLFile : Try.prog.cellsOf 67 = 3 := by kernel_rfl
theorem Try.cellsStr : Try.prog.cellsOf 9 = 1 := by kernel_rfl
theorem Try.cellsInt : Try.prog.cellsOf 3 = 1 := by kernel_rfl
theorem Try.cellsLFiles : Try.prog.cellsOf 22 = 1 := by kernel_rfl
theorem Try.cellsLDisk : Try.prog.cellsOf 24 = 1 := by kernel_rfl

theorem add_one (y : Addr) : y.add 1 = ⟨y.block, y.off + 1, none⟩ := by simp [Addr.add]
theorem add_two (y : Addr) : y.add 2 = ⟨y.block, y.off + 2, none⟩ := by simp [Addr.add]

set_option maxRecDepth 100000 in
theorem open_files {H : Type} {enc : TypeId × Value → H} {W : World} {fuel : Nat} {cs : List Value} {x : DataW H × List MemPlace} (h : DataW.trod enc Try.prog W 0 (fun _ => true) true fuel 22 cs = some x) :
    ∃ (a : Option Addr) (cap : Nat) (l : List Fl), cs = [.slice a l.length cap] ∧ l.length ≤ maxLen ∧ ArgF W.heap.size W a l := by
  rcases open_slice Try.underlying22 h with ⟨rfl, _⟩ | ⟨a, len, cap, m, n, D, Pl, rfl, _, hlc, hcm, hm, _, hel⟩
  · exact ⟨none, 0, [], rfl, Nat.zero_le _, fun i f hf => by simp at hf⟩
  · have hm' : m = cap := by simpa using hm
    have each : ∀ i, i < len → ∃ f : Fl, f.name.size ≤ maxLen ∧ f.text.size ≤ maxLen ∧ W.cell? (a.add (i * 3)) = some (.string f.name) ∧
        W.cell? ⟨(a.add (i * 3)).block, (a.add (i * 3)).off + 1, none⟩ = some (.string f.text) ∧ W.cell? ⟨(a.add (i * 3)).block, (a.add (i * 3)).off + 2, none⟩ = some (.int .i64 f.kept) := by
      intro i hi
      obtain ⟨cs', h1, h2⟩ := hel i (by omega)
      rw [Try.cellsLFile] at h1
      obtain ⟨_, hlen, hc⟩ := World.cells?_some h1
      obtain ⟨y0, y1, y2, n', _, hl3, t0, t1, t2⟩ := trod_struct3 Try.underlying67 h2
      match cs', hlen with
      | [u0, u1, u2], _ =>
        obtain ⟨s0, e0, _, b0⟩ := DataW.trod_string Try.underlying9 t0
        obtain ⟨s1, e1, _, b1⟩ := DataW.trod_string Try.underlying9 t1
        obtain ⟨k2, e2, _, b2⟩ := DataW.trod_int Try.underlying3 t2
        simp only [Try.cellsStr, Try.cellsInt] at e0 e1 e2
        simp at e0 e1 e2
        subst e0 e1 e2
        have c0 := hc 0 (by omega)
        have c1 := hc 1 (by omega)
        have c2 := hc 2 (by omega)
        rw [add_one] at c1
        rw [add_two] at c2
        refine ⟨⟨s0, s1, k2⟩, b0, b1, ?_, c1, c2⟩
        simpa [Addr.add] using c0
    have inh : Inhabited Fl := ⟨fl0⟩
    obtain ⟨F, hF⟩ := choose_lt (α := Fl) each
    refine ⟨some a, cap, (List.range len).map F, by simp, by simp; omega, fun i f hf => ?_⟩
    have hi : i < len := by
      rcases Nat.lt_or_ge i len with h1 | h1
      · exact h1
      · rw [List.getElem?_eq_none (by simpa using h1)] at hf; cases hf
    obtain rfl : F i = f := by simpa [hi] using hf
    obtain ⟨b0, b1, c0, c1, c2⟩ := hF i hi
    refine ⟨a, rfl, ?_, b0, b1, c0, c1, c2⟩
    have := World.block_lt_of_cell? W _ c0
    rwa [add_blk] at this

set_option maxRecDepth 100000 in
theorem open_disk {H : Type} {enc : TypeId × Value → H} {W : World} {base : Nat} {v : Value} {d : DataW H} {ps : List MemPlace} (hval : Value.okWide Try.prog W .any base 24 v)
    (h : DataW.Trod enc Try.prog W 0 (fun _ => true) true 24 v d ps) :
    ∃ (a : Option Addr) (cap : Nat) (l : List Fl), v = .agg #[.slice a l.length cap] ∧ l.length ≤ maxLen ∧ ArgF W.heap.size W a l := by
  obtain ⟨cs, rfl, hsz⟩ := okWide_struct Try.underlying24 hval
  obtain ⟨fuel, hf⟩ := h
  obtain ⟨xs, n, _, _, hl, hlen, hfld⟩ := DataW.trod_struct Try.underlying24 hf
  have h0 := hfld 0 _ rfl
  rw [Try.cellsLDisk] at hsz
  obtain ⟨l0⟩ := cs
  match l0, hsz, xs, hlen with
  | [c], _, [y], _ =>
    have h1 : DataW.trod enc Try.prog W 0 (fun _ => true) true n 22 [c] = some y := by
      simpa [Value.cells, Try.cellsLFiles] using h0
    obtain ⟨a, cap, l, e, hm, hA⟩ := open_files h1
    simp at e
    subst e
    exact ⟨a, cap, l, rfl, hm, hA⟩
end Go.Proofs.Ytipmbfjcgmchkab
