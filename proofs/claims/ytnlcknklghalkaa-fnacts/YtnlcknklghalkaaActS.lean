/- Rows of acts: what the laws' own helpers do to them; one that came in, opened. -/
import Derived.Test.YtnlcknklghalkaaAct1
import Derived.Test.YtnlcknklghalkaaActsPlain
import Derived.Test.YtnlcknklghalkaaLedger2
import Derived.Test.YtnlcknklghalkaaMarks
namespace Go.Proofs.Ytnlcknklghalkaa
open Go.ChangeShapes Go.WideShapes Go.ChangeAt Go.RowKit
open Plain
set_option linter.unusedVariables false

theorem Try.infoAct : (Try.prog.info? 37).map (fun i => (i.zero, i.size, i.bytes)) = some (some (.agg #[.int .i64 0, .string ByteArray.empty, .string ByteArray.empty, .string ByteArray.empty]), 4, 56) := by kernel_rfl

theorem act_cells {w : World} {B g n cap : Nat} {l : List Ac} (h : w.ownsRow B 37 4 (.slice (some ⟨g, 0, none⟩) n cap) n (acs l)) {k : Nat} {f : Ac} (hx : l[k]? = some f) (hk : k < n) :
    w.cell? ⟨g, k * 4, none⟩ = some (.int .i64 f.kind) ∧ w.cell? ⟨g, k * 4 + 1, none⟩ = some (.string f.name) ∧ w.cell? ⟨g, k * 4 + 2, none⟩ = some (.string f.text) ∧ w.cell? ⟨g, k * 4 + 3, none⟩ = some (.string f.to) := by
  refine ⟨?_, ?_, ?_, ?_⟩
  · rw [h.cellAt _ (by omega), acs_0 hx]
  · rw [h.cellAt _ (by omega), acs_1 hx]
  · rw [h.cellAt _ (by omega), acs_2 hx]
  · rw [h.cellAt _ (by omega), acs_3 hx]

/-- Acts that came in, below block B. -/
def ArgA (B : Nat) (w : World) (a : Option Addr) (l : List Ac) : Prop :=
  ∀ i f, l[i]? = some f → ∃ x, a = some x ∧ x.block < B ∧ ActIn f ∧ w.cell? (x.add (i * 4)) = some (.int .i64 f.kind) ∧ w.cell? ⟨(x.add (i * 4)).block, (x.add (i * 4)).off + 1, none⟩ = some (.string f.name) ∧
    w.cell? ⟨(x.add (i * 4)).block, (x.add (i * 4)).off + 2, none⟩ = some (.string f.text) ∧ w.cell? ⟨(x.add (i * 4)).block, (x.add (i * 4)).off + 3, none⟩ = some (.string f.to)
theorem ArgA.below {B : Nat} {w w' : World} {a : Option Addr} {l : List Ac} (h : ArgA B w a l) (hb : Below B w w') : ArgA B w' a l := by
  intro i f hf
  obtain ⟨x, h1, h2, h3, c0, c1, c2, c3⟩ := h i f hf
  have hb' : (x.add (i * 4)).block < B := by rw [add_blk]; exact h2
  exact ⟨x, h1, h2, h3, (hb.cell hb').trans c0, (hb.cell (p := ⟨(x.add (i * 4)).block, _, none⟩) hb').trans c1, (hb.cell (p := ⟨(x.add (i * 4)).block, _, none⟩) hb').trans c2, (hb.cell (p := ⟨(x.add (i * 4)).block, _, none⟩) hb').trans c3⟩
theorem ArgA.up {w w' : World} {a : Option Addr} {l : List Ac} (h : ArgA w.heap.size w a l) (hb : Below w.heap.size w w') : ArgA w'.heap.size w' a l := by
  intro i f hf
  obtain ⟨x, h1, h2, h3⟩ := h.below hb i f hf
  exact ⟨x, h1, Nat.lt_of_lt_of_le h2 hb.size, h3⟩
def SmallAs (L : Nat) (l : List Ac) : Prop := l.length ≤ L ∧ ∀ f ∈ l, SmallA L f
def OwnA (B : Nat) (w : World) (v : Value) (l : List Ac) : Prop := w.ownsRow B 37 4 v l.length (acs l)

theorem made_acts (n : Nat) : (madeCells (Value.agg #[.int .i64 0, .string ByteArray.empty, .string ByteArray.empty, .string ByteArray.empty]).cells (n * 4)).toList = acs (List.replicate n ac0) := by
  apply List.ext_getElem?
  intro i
  obtain ⟨q, j, rfl, hj⟩ : ∃ q j, i = q * 4 + j ∧ j < 4 := ⟨i / 4, i % 4, by omega, Nat.mod_lt _ (by omega)⟩
  by_cases hq : q < n
  · rw [acs_get _ q ac0 (by simp [hq]) j hj]
    have e1 : (q * 4 + j) % 4 = j := by omega
    have hm : q * 4 + j < n * 4 := by omega
    rw [Array.getElem?_toList, madeCells, Array.getElem?_map, Array.getElem?_eq_getElem (by simp; omega), Array.getElem_range, Option.map_some]
    show some (#[Value.int .i64 0, .string ByteArray.empty, .string ByteArray.empty, .string ByteArray.empty][(q * 4 + j) % 4]!) = _
    rw [e1]
    match j, hj with
    | 0, _ => simp [acl, ac0]
    | 1, _ => simp [acl, ac0]
    | 2, _ => simp [acl, ac0]
    | 3, _ => simp [acl, ac0]
  · rw [List.getElem?_eq_none (by simp [madeCells]; omega), List.getElem?_eq_none (by simp [acs_length]; omega)]

end Go.Proofs.Ytnlcknklghalkaa
