/- Mails: what the laws ask of the program's own functions. -/
import Derived.Test.YtmkjocamknhcbaaDoorDrawMails
namespace Go.Proofs.YtmkjocamknhcbaaDoor
open Go.RowKit
open Plain
set_option linter.unusedVariables false

structure MailsI (w : World) : Prop where
  ok : ∀ (s : ByteArray) (W : World), s.size ≤ 1048576 → Below w.heap.size w W → Calls Tryd.prog 13 #[.string s] W fun e w' => e = .returned (.bool (mailOkL s.data.toList)) ∧ Below W.heap.size W w'
  head : ∀ (s name : ByteArray) (W : World), s.size ≤ 1048576 → name.size ≤ 1048576 → Below w.heap.size w W → Calls Tryd.prog 11 #[.string s, .string name] W fun e w' => e = .returned (.tuple #[.string ⟨(headL s.data.toList name.data.toList).1.toArray⟩, .bool (headL s.data.toList name.data.toList).2]) ∧ Below W.heap.size W w'
  body : ∀ (s : ByteArray) (W : World), s.size ≤ 1048576 → Below w.heap.size w W → Calls Tryd.prog 10 #[.string s] W fun e w' => e = .returned (.string ⟨(bodyL s.data.toList).toArray⟩) ∧ Below W.heap.size W w'
  base : ∀ (s : ByteArray) (W : World), s.size ≤ 1048576 → Below w.heap.size w W → Calls Tryd.prog 22 #[.string s] W fun e w' => e = .returned (.string ⟨(baseL s.data.toList).toArray⟩) ∧ Below W.heap.size W w'
  part : ∀ (s : ByteArray) (p n : Int) (W : World), s.size ≤ 1048576 → i64R p → i64R n → Below w.heap.size w W → Calls Tryd.prog 14 #[.string s, .int .i64 p, .int .i64 n] W fun e w' => e = .returned (.string ⟨(partL s.data.toList p n).toArray⟩) ∧ Below W.heap.size W w'
/-- Five places. -/
theorem placesM_any (B len cap : Nat) (a : Option Addr) (w : World) (ha : Arg B w a len) (hB : B ≤ w.heap.size) :
    Calls Tryd.prog 9 #[.slice a len cap] w fun e w' => ∃ (g pc : Nat) (p : Nat → Nat), (∀ j, p j < 10000) ∧ e = .returned (.slice (some ⟨g, 0, none⟩) 12 pc) ∧ (∀ j, j < 12 → w'.cell? ⟨g, j, none⟩ = some (.int .i64 (p j : Int))) ∧ Below w.heap.size w w' :=
  (DrawPlaces_any B len cap a w ha hB).mono fun e w' ⟨v, l, h1, h2, h3, h4, h5⟩ => by
    rcases h4.2 with ⟨rfl, h⟩ | ⟨g, pc, cur, rfl, hg, hh, hnc, hcp, hcs, htake⟩
    · cases h
    · refine ⟨g, pc, fun j => l.getD j 0, fun j => ?_, h3, fun j hj => ?_, h5⟩
      · show l.getD j 0 < 10000
        by_cases hj : j < l.length
        · rw [List.getD_eq_getElem?_getD, List.getElem?_eq_getElem hj]
          exact h2 _ (List.getElem_mem _)
        · rw [List.getD_eq_getElem?_getD, List.getElem?_eq_none (by omega)]
          decide
      · rw [h4.cellAt j (by omega)]
        simp [iv, List.getD_eq_getElem?_getD, h1, hj]
theorem below_on {w W W' : World} (h : Below w.heap.size w W) (hb : Below W.heap.size W W') : Below w.heap.size w W' := h.trans (hb.mono h.size)
end Go.Proofs.YtmkjocamknhcbaaDoor
