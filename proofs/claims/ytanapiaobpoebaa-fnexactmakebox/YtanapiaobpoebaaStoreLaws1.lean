/- The walk of FnExactStoreOk. Made by gen_storelaws.py. -/
import Derived.Test.YtanapiaobpoebaaStorePlain
import Derived.Test.YtanapiaobpoebaaStoreMarks
import Derived.Test.YtanapiaobpoebaaRegA
namespace Go.Proofs.Ytanapiaobpoebaa
open Go.RowKit
open Plain
set_option linter.unusedVariables false
set_option linter.unusedSimpArgs false

namespace Plain
/-- A store's boxes are few enough. -/
structure SmallA (l : List Bx) : Prop where
 sum : sizeBs l ≤ 4194304
 each : ∀ b ∈ l, b.mails.length ≤ 1048576 ∧ b.tombs.length ≤ 1048576
theorem SmallA.len {l : List Bx} (h : SmallA l) : l.length ≤ 4194304 := Nat.le_trans (sizeBs_len l) h.sum
theorem SmallA.on {l : List Bx} {L : List Lb} (h : SmallA l) (e : L.map (·.b) = l) : ∀ x ∈ L, x.b.mails.length ≤ 1048576 ∧ x.b.tombs.length ≤ 1048576 := fun x hx => h.each x.b (by rw [← e]; exact List.mem_map.2 ⟨x, hx, rfl⟩)
theorem SmallA.sumL {l : List Bx} {L : List Lb} (h : SmallA l) (e : L.map (·.b) = l) : sizeBs (L.map (·.b)) ≤ 4194304 := by rw [e]; exact h.sum
theorem SmallBs.a {l : List Bx} (h : SmallBs 1048576 l) : SmallA l := ⟨Nat.le_trans h.sum (by decide), fun b hb => ⟨(h.each b hb).2.1.1, (h.each b hb).2.2⟩⟩
theorem SmallBs.fit {s : Sx} (h : SmallBs 1048576 s.boxes) : FitSt s := ⟨Nat.le_trans (Nat.le_trans (sizeBs_len _) h.sum) (by decide), fun b hb => (h.each b hb).fit⟩
end Plain
end Go.Proofs.Ytanapiaobpoebaa
