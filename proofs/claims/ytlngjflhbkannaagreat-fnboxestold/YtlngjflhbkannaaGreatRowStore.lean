/- A mail, stored whole into a row of one's own. -/
import Derived.Test.YtlngjflhbkannaaGreatBoxA
import Derived.Test.YtlngjflhbkannaaGreatBoxP
namespace Go.Proofs.YtlngjflhbkannaaGreat
open Go.RowKit
open Plain
set_option linter.unusedVariables false

theorem row_putMail {w : World} {B g n cap k : Nat} {l : List Ml} {x : Ml} (h : w.ownsRow B 100 4 (.slice (some ⟨g, 0, none⟩) n cap) n (rowC mlC l)) (hx : l[k]? = some x) (f : Ml) :
  ((((w.setCell ⟨g, k * 4, none⟩ (.int .i64 f.uid)).setCell ⟨g, k * 4 + 1, none⟩ (.int .i64 f.flags)).setCell ⟨g, k * 4 + 2, none⟩ (.int .i64 f.mod)).setCell ⟨g, k * 4 + 3, none⟩ (.string f.text)).ownsRow B 100 4 (.slice (some ⟨g, 0, none⟩) n cap) n (rowC mlC (l.set k f)) := by
 have st0 := h.stored (k * 4) (.int .i64 f.uid)
 rw [show k * 4 = k * 4 + 0 from rfl, rowC_set mlC_len hx (j := 0) (by decide) ⟨f.uid, x.flags, x.mod, x.text⟩ (.int .i64 f.uid) rfl] at st0
 have st1 := st0.1.stored (k * 4 + 1) (.int .i64 f.flags)
 rw [rowC_set2 mlC_len hx ⟨f.uid, x.flags, x.mod, x.text⟩ (j := 1) (by decide) ⟨f.uid, f.flags, x.mod, x.text⟩ (.int .i64 f.flags) rfl] at st1
 have st2 := st1.1.stored (k * 4 + 2) (.int .i64 f.mod)
 rw [rowC_set2 mlC_len hx ⟨f.uid, f.flags, x.mod, x.text⟩ (j := 2) (by decide) ⟨f.uid, f.flags, f.mod, x.text⟩ (.int .i64 f.mod) rfl] at st2
 have st3 := st2.1.stored (k * 4 + 3) (.string f.text)
 rw [rowC_set2 mlC_len hx ⟨f.uid, f.flags, f.mod, x.text⟩ (j := 3) (by decide) ⟨f.uid, f.flags, f.mod, f.text⟩ (.string f.text) rfl] at st3
 exact st3.1
theorem put_grown {w : World} {g k : Nat} (f : Ml) : w.grownBy ((((w.setCell ⟨g, k * 4, none⟩ (.int .i64 f.uid)).setCell ⟨g, k * 4 + 1, none⟩ (.int .i64 f.flags)).setCell ⟨g, k * 4 + 2, none⟩ (.int .i64 f.mod)).setCell ⟨g, k * 4 + 3, none⟩ (.string f.text)) (some g) :=
 g_store (g_store (g_store (g_store (g_self w (some g)) _) _) _) _
/-- Two of its fields alone. -/
theorem row_putTwo {w : World} {B g n cap k : Nat} {l : List Ml} {x : Ml} (h : w.ownsRow B 100 4 (.slice (some ⟨g, 0, none⟩) n cap) n (rowC mlC l)) (hx : l[k]? = some x) (fl md : Int) :
  ((w.setCell ⟨g, k * 4 + 1, none⟩ (.int .i64 fl)).setCell ⟨g, k * 4 + 2, none⟩ (.int .i64 md)).ownsRow B 100 4 (.slice (some ⟨g, 0, none⟩) n cap) n (rowC mlC (l.set k ⟨x.uid, fl, md, x.text⟩)) := by
 have st1 := h.stored (k * 4 + 1) (.int .i64 fl)
 rw [rowC_set mlC_len hx (j := 1) (by decide) ⟨x.uid, fl, x.mod, x.text⟩ (.int .i64 fl) rfl] at st1
 have st2 := st1.1.stored (k * 4 + 2) (.int .i64 md)
 rw [rowC_set2 mlC_len hx ⟨x.uid, fl, x.mod, x.text⟩ (j := 2) (by decide) ⟨x.uid, fl, md, x.text⟩ (.int .i64 md) rfl] at st2
 exact st2.1
end Go.Proofs.YtlngjflhbkannaaGreat
