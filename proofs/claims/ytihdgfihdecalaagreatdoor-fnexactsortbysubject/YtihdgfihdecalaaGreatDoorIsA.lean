/- Several texts in one. -/
import Derived.Test.YtihdgfihdecalaaGreatDoorSetA
import Derived.Test.YtihdgfihdecalaaGreatDoorPlainA
import Derived.Test.YtihdgfihdecalaaGreatDoorRegA
namespace Go.Proofs.YtihdgfihdecalaaGreatDoor
open Go.RowKit
open Plain
set_option linter.unusedVariables false

/-- Ranges that can be read, wherever their row begins. -/
def ReadO (w : World) (v : Value) (l : List Rg) : Prop := ∃ a c, v = .slice a l.length c ∧ l.length ≤ c ∧ ∀ (k : Nat) (x : Rg), l[k]? = some x →
  ∃ g o, a = some ⟨g, o, none⟩ ∧ g < w.heap.size ∧ w.cell? ⟨g, o + k * 2, none⟩ = some (.int .i64 x.lo) ∧ w.cell? ⟨g, o + k * 2 + 1, none⟩ = some (.int .i64 x.hi)
theorem OwnR.wide {B : Nat} {w : World} {v : Value} {l : List Rg} (h : OwnR B w v l) : ReadO w v l := by
  unfold OwnR at h
  rcases h.2 with ⟨rfl, h0⟩ | ⟨g, c, cur, rfl, hb, hh, hlc, _⟩
  · refine ⟨none, 0, by rw [h0], by omega, fun k x hx => ?_⟩
    rw [List.eq_nil_of_length_eq_zero h0] at hx
    simp at hx
  · refine ⟨_, _, rfl, hlc, fun k x hx => ⟨g, 0, rfl, (h.lt _ rfl).2, ?_⟩⟩
    rw [Nat.zero_add]
    exact rg_cells h hx (List.getElem?_eq_some_iff.1 hx).1
theorem ReadO.up {w w' : World} {v : Value} {l : List Rg} (h : ReadO w v l) (hb : Below w.heap.size w w') : ReadO w' v l := by
  obtain ⟨a, c, hv, hcap, hc⟩ := h
  refine ⟨a, c, hv, hcap, fun k x hx => ?_⟩
  obtain ⟨g, o, hg, hl, c0, c1⟩ := hc k x hx
  exact ⟨g, o, hg, Nat.lt_of_lt_of_le hl hb.size, g_cell hb c0, g_cell hb c1⟩
theorem ReadO.nil (w : World) (a : Option Addr) (c : Nat) : ReadO w (.slice a 0 c) [] := ⟨a, c, rfl, Nat.zero_le _, fun k x hx => by simp at hx⟩
/-- A piece of a row. -/
theorem ReadO.piece {w : World} {g o c : Nat} {l : List Rg} (h : ReadO w (.slice (some ⟨g, o, none⟩) l.length c) l) (i n c' : Nat) (hi : i + n ≤ l.length) (hc : n ≤ c') (o' : Nat) (ho : 0 < n → o' = o + i * 2) : ReadO w (.slice (some ⟨g, o', none⟩) n c') ((l.drop i).take n) := by
  obtain ⟨a, c2, hv, _, hcell⟩ := h
  cases hv
  have hl : ((l.drop i).take n).length = n := by simp; omega
  refine ⟨_, _, by rw [hl], by omega, fun k x hx => ?_⟩
  have hk : k < n := by have := (List.getElem?_eq_some_iff.1 hx).1; omega
  rw [List.getElem?_take_of_lt hk, List.getElem?_drop] at hx
  obtain ⟨g', q, hg, hlt, c0, c1⟩ := hcell _ x hx
  cases hg
  rw [ho (by omega)]
  exact ⟨g, _, rfl, hlt, by rw [← c0]; congr 2; omega, by rw [← c1]; congr 2; omega⟩

end Go.Proofs.YtihdgfihdecalaaGreatDoor

namespace Go.Proofs.YtihdgfihdecalaaGreatDoor
open Go.RowKit
open Plain
set_option linter.unusedVariables false
end Go.Proofs.YtihdgfihdecalaaGreatDoor

namespace Go.Proofs.YtihdgfihdecalaaGreatDoor
open Go.RowKit
open Plain
set_option linter.unusedVariables false
set_option maxHeartbeats 4000000 in
set_option maxRecDepth 100000 in
theorem impl_SetHas_any (s : List Rg) (v : Value) (n : Int) (w : World) (hs : s.length ≤ 1048576) (h : ReadO w v s) :
    Calls Tryz.prog 70 #[v, .int .i64 n] w fun e w' => e = .returned (.bool (hasB s n)) ∧ Below w.heap.size w w' := by
  obtain ⟨a, c, rfl, hcap, hc⟩ := h
  have C := hide hc
  clear hc
  go_enter Tryz.func70, Tryz.ntmps70
  go_wp2
  go_loopw [9] (fun i wr => ∃ k : Nat, k ≤ s.length ∧ i = .int .i64 k ∧ hasB (s.take k) n = false ∧ Below w.heap.size w wr) (fun i _ => s.length - (intOf i).toNat)
  case atStart => exact ⟨0, Nat.zero_le _, rfl, rfl, Below.refl _ _⟩
  case round =>
    obtain ⟨k, hk, rfl, hno, hbel⟩ := hrel
    by_cases hlt : k < s.length
    · have hgk : s[k]? = some s[k] := List.getElem?_eq_getElem hlt
      obtain ⟨g, o, hga, hgl, c0, c1⟩ := unhide C k s[k] hgk
      subst hga
      have T := hide (hasB_take (n := n) hgk)
      have PT := hide (hasB_part (s := s) (n := n) (k + 1))
      rw [← hbel.cell (p := ⟨g, _, none⟩) hgl] at c0 c1
      have hwr : w.heap.size ≤ wr.heap.size := hbel.size
      have hik : (0 : Int) ≤ (k : Int) := by omega
      have hil : (k : Int) < (s.length : Int) := by omega
      generalize s[k] = r at *
      obtain ⟨rl, rh⟩ := r
      simp only at c0 c1 T
      have HN := hide hno
      clear hno hgk
      have HB : Hid (∀ O, Below w.heap.size w (wr.alloc O)) := fun O => hbel.alloc hwr O
      by_cases h1 : rl ≤ n
      · have d1 : decide (rl ≤ n) = true := by simpa using h1
        by_cases h2 : n ≤ rh
        · have d2 : decide (n ≤ rh) = true := by simpa using h2
          have R : Hid (hasB s n = true) := unhide PT (by rw [unhide T, decide_eq_true h1, decide_eq_true h2]; simp)
          go_wp2
          go_ret
          exact ⟨by rw [unhide R]; rfl, unhide HB _⟩
        · have d2 : decide (n ≤ rh) = false := by simpa using h2
          have R : Hid (hasB (s.take (k + 1)) n = false) := (unhide T).trans (by rw [unhide HN, decide_eq_true h1, decide_eq_false h2]; rfl)
          go_wp2
          go_roundw
          case rel => exact ⟨k + 1, by omega, by go_num, unhide R, unhide HB _⟩
          case measure => simp [intOf]; omega
      · have d1 : decide (rl ≤ n) = false := by simpa using h1
        have R : Hid (hasB (s.take (k + 1)) n = false) := (unhide T).trans (by rw [unhide HN, decide_eq_false h1]; rfl)
        go_wp2
        go_roundw
        case rel => exact ⟨k + 1, by omega, by go_num, unhide R, unhide HB _⟩
        case measure => simp [intOf]; omega
    · obtain rfl : k = s.length := by omega
      have HR : Hid (hasB s n = false) := by rw [List.take_length] at hno; exact hno
      clear hno
      go_wp2
      go_ret
      exact ⟨by rw [unhide HR]; rfl, hbel⟩

end Go.Proofs.YtihdgfihdecalaaGreatDoor
