/- Files as values: what the laws' own helpers do to them. -/
import Derived.Test.YtjaohlnejkgkaaaDoorProg
import Derived.Test.YtjaohlnejkgkaaaDoorPlainA
import Derived.Test.YtjaohlnejkgkaaaDoorFilesPlain
import Derived.WalkKit
import Derived.WalkSpells
import Derived.ProofKit
import Derived.Handy
import Derived.Below
import Derived.WalkSmall
import Derived.Laws.AppendOwn
import Derived.Deep.RegionHeld3
import Derived.Deep.QuietTactic
import Derived.BigQuiet
namespace Go.Proofs.YtjaohlnejkgkaaaDoor
open Go.RowKit
open Plain
set_option linter.unusedVariables false

theorem add_blk (x : Addr) (j : Nat) : (x.add j).block = x.block := by
  unfold Addr.add; split <;> rfl
theorem grown_of_below {w w1 : World} (h : Below w.heap.size w w1) (row : Option Nat) : w.grownBy w1 row := ⟨h.os, h.tape, h.output, h.size, fun k hk _ => h.block k hk⟩
theorem below_of_grown {w w1 : World} (h : w.grownBy w1 none) : Below w.heap.size w w1 := ⟨h.os, h.tape, h.output, h.size, fun k hk => h.block k hk (by simp)⟩
theorem own_stays {w w1 : World} {B n : Nat} {e : TypeId} {size : Nat} {v : Value} {xs : List Value} (h : w.ownsRow B e size v n xs) (hb : Below w.heap.size w w1) : w1.ownsRow B e size v n xs :=
  h.kept (grown_of_below hb none) (Classical.em _)
theorem own_based {w : World} {B B' n : Nat} {e : TypeId} {size : Nat} {v : Value} {xs : List Value} (h : w.ownsRow B e size v n xs) (hB : B' ≤ B) : w.ownsRow B' e size v n xs := by
  refine ⟨h.1, ?_⟩
  rcases h.2 with h2 | ⟨g, cap, cur, h1, h2, h3⟩
  · exact .inl h2
  · exact .inr ⟨g, cap, cur, h1, by omega, h3⟩
theorem own_staysB {w w1 : World} {B B0 n : Nat} {e : TypeId} {size : Nat} {v : Value} {xs : List Value} (h : w.ownsRow B0 e size v n xs) (hb : Below B w w1) (hlt : ∀ k, v.ownBlock = some k → k < B) : w1.ownsRow B0 e size v n xs := by
  refine ⟨h.1, ?_⟩
  rcases h.2 with h2 | ⟨g, cap, cur, h1, h2, h3, h4⟩
  · exact .inl h2
  · exact .inr ⟨g, cap, cur, h1, h2, by rw [hb.block g (hlt g (by rw [h1]; rfl))]; exact h3, h4⟩
theorem below_draws {B : Nat} {w w1 : World} (h : Below B w w1) (z : Nat) : Below B w (w1.drewN z) := ⟨h.os, h.tape, h.output, h.size, h.block⟩

/-- Files that came in, below block B. -/
def ArgF (B : Nat) (w : World) (a : Option Addr) (l : List Fl) : Prop :=
  ∀ i f, l[i]? = some f → ∃ x, a = some x ∧ x.block < B ∧ f.name.size ≤ maxLen ∧ f.text.size ≤ maxLen ∧ w.cell? (x.add (i * 3)) = some (.string f.name) ∧
    w.cell? ⟨(x.add (i * 3)).block, (x.add (i * 3)).off + 1, none⟩ = some (.string f.text) ∧ w.cell? ⟨(x.add (i * 3)).block, (x.add (i * 3)).off + 2, none⟩ = some (.int .i64 f.kept)
theorem ArgF.below {B : Nat} {w w' : World} {a : Option Addr} {l : List Fl} (h : ArgF B w a l) (hb : Below B w w') : ArgF B w' a l := by
  intro i f hf
  obtain ⟨x, h1, h2, h3, h4, c0, c1, c2⟩ := h i f hf
  exact ⟨x, h1, h2, h3, h4, by rw [hb.cell (by rw [add_blk]; exact h2)]; exact c0, by rw [hb.cell (by show (x.add (i * 3)).block < B; rw [add_blk]; exact h2)]; exact c1, by rw [hb.cell (by show (x.add (i * 3)).block < B; rw [add_blk]; exact h2)]; exact c2⟩

theorem ArgF.up {w w' : World} {a : Option Addr} {l : List Fl} (h : ArgF w.heap.size w a l) (hb : Below w.heap.size w w') : ArgF w'.heap.size w' a l := by
  intro i f hf
  obtain ⟨x, h1, h2, h3⟩ := h.below hb i f hf
  exact ⟨x, h1, Nat.lt_of_lt_of_le h2 hb.size, h3⟩

/-- Files of which none is over L. -/
def SmallF (L : Nat) (l : List Fl) : Prop := l.length ≤ L ∧ ∀ f ∈ l, f.name.size ≤ L ∧ f.text.size ≤ L

theorem made_files (n : Nat) : (madeCells (Value.agg #[.string ByteArray.empty, .string ByteArray.empty, .int .i64 0]).cells (n * 3)).toList = fcs (List.replicate n fl0) := by
  apply List.ext_getElem?
  intro i
  obtain ⟨q, j, rfl, hj⟩ : ∃ q j, i = q * 3 + j ∧ j < 3 := ⟨i / 3, i % 3, by omega, Nat.mod_lt _ (by omega)⟩
  by_cases hq : q < n
  · rw [fcs_get _ q fl0 (by simp [hq]) j hj]
    have e1 : (q * 3 + j) % 3 = j := by omega
    have hm : q * 3 + j < n * 3 := by omega
    rw [Array.getElem?_toList, madeCells, Array.getElem?_map, Array.getElem?_eq_getElem (by simp; omega), Array.getElem_range, Option.map_some]
    show some (#[Value.string ByteArray.empty, .string ByteArray.empty, .int .i64 0][(q * 3 + j) % 3]!) = _
    rw [e1]
    match j, hj with
    | 0, _ => simp [fc, fl0]
    | 1, _ => simp [fc, fl0]
    | 2, _ => simp [fc, fl0]
  · rw [List.getElem?_eq_none (by simp [madeCells]; omega), List.getElem?_eq_none (by simp [fcs_length]; omega)]

end Go.Proofs.YtjaohlnejkgkaaaDoor
