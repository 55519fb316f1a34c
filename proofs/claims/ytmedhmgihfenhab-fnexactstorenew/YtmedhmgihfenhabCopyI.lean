/- Boxes: the program's copiedMail, opened, box and copiedBox. Made by gen_copyi.py. -/
import Derived.Test.YtmedhmgihfenhabBoxA
import Derived.Test.YtmedhmgihfenhabRowsA
import Derived.Test.YtmedhmgihfenhabBoxP
import Derived.Test.YtmedhmgihfenhabBoxCopyS
import Derived.Test.YtmedhmgihfenhabIntRow
import Derived.Test.YtmedhmgihfenhabCloneI
import Derived.Test.YtmedhmgihfenhabRegA
namespace Go.Proofs.Ytmedhmgihfenhab
open Go.RowKit
open Plain
set_option linter.unusedVariables false
set_option linter.unusedSimpArgs false

theorem fill4 {W : World} {r : Nat} {t : TypeId} {v0 v1 v2 v3 : Value} (h : HasObj W r t [v0, v1, v2, v3]) (u0 u1 u2 u3 : Value) :
    Filled W r t [u0, u1, u2, u3] ((((W.setCell ⟨r, 0, none⟩ u0).setCell ⟨r, 1, none⟩ u1).setCell ⟨r, 2, none⟩ u2).setCell ⟨r, 3, none⟩ u3) := by
  have h1 := h.set 0 u0
  have h2 := h1.set 1 u1
  have h3 := h2.set 2 u2
  have h4 := h3.set 3 u3
  refine ⟨h4, fun hne hb => ?_, fun hte hr => ?_, fun hn hb => ?_, by simp⟩
  · exact ((((hb.other (j := 0) hne u0).other (j := 1) hne u1).other (j := 2) hne u2).other (j := 3) hne u3)
  · exact (h3.row (j := 3) hte (h2.row (j := 2) hte (h1.row (j := 1) hte (h.row (j := 0) hte hr u0) u1) u2) u3)
  · exact ((((hb.setCell (p := ⟨r, 0, none⟩) hn u0).setCell (p := ⟨r, 1, none⟩) hn u1).setCell (p := ⟨r, 2, none⟩) hn u2).setCell (p := ⟨r, 3, none⟩) hn u3)
theorem fill8 {W : World} {r : Nat} {t : TypeId} {v0 v1 v2 v3 v4 v5 v6 v7 : Value} (h : HasObj W r t [v0, v1, v2, v3, v4, v5, v6, v7]) (u0 u1 u2 u3 u4 u5 u6 u7 : Value) :
    Filled W r t [u0, u1, u2, u3, u4, u5, u6, u7] ((((((((W.setCell ⟨r, 0, none⟩ u0).setCell ⟨r, 1, none⟩ u1).setCell ⟨r, 2, none⟩ u2).setCell ⟨r, 3, none⟩ u3).setCell ⟨r, 4, none⟩ u4).setCell ⟨r, 5, none⟩ u5).setCell ⟨r, 6, none⟩ u6).setCell ⟨r, 7, none⟩ u7) := by
  have h1 := h.set 0 u0
  have h2 := h1.set 1 u1
  have h3 := h2.set 2 u2
  have h4 := h3.set 3 u3
  have h5 := h4.set 4 u4
  have h6 := h5.set 5 u5
  have h7 := h6.set 6 u6
  have h8 := h7.set 7 u7
  refine ⟨h8, fun hne hb => ?_, fun hte hr => ?_, fun hn hb => ?_, by simp⟩
  · exact ((((((((hb.other (j := 0) hne u0).other (j := 1) hne u1).other (j := 2) hne u2).other (j := 3) hne u3).other (j := 4) hne u4).other (j := 5) hne u5).other (j := 6) hne u6).other (j := 7) hne u7)
  · exact (h7.row (j := 7) hte (h6.row (j := 6) hte (h5.row (j := 5) hte (h4.row (j := 4) hte (h3.row (j := 3) hte (h2.row (j := 2) hte (h1.row (j := 1) hte (h.row (j := 0) hte hr u0) u1) u2) u3) u4) u5) u6) u7)
  · exact ((((((((hb.setCell (p := ⟨r, 0, none⟩) hn u0).setCell (p := ⟨r, 1, none⟩) hn u1).setCell (p := ⟨r, 2, none⟩) hn u2).setCell (p := ⟨r, 3, none⟩) hn u3).setCell (p := ⟨r, 4, none⟩) hn u4).setCell (p := ⟨r, 5, none⟩) hn u5).setCell (p := ⟨r, 6, none⟩) hn u6).setCell (p := ⟨r, 7, none⟩) hn u7)

namespace Plain
def mailsTo (b : Bx) (k : Nat) : List Ml := b.mails.take k
theorem mailsTo_next {b : Bx} {k : Nat} {f : Ml} (h : b.mails[k]? = some f) : mailsTo b (k + 1) = mailsTo b k ++ [f] := by unfold mailsTo; rw [List.take_add_one, h]; rfl
theorem mailsTo_len (b : Bx) (k : Nat) : (mailsTo b k).length ≤ b.mails.length := by unfold mailsTo; simp; omega
theorem mailsTo_all (b : Bx) : mailsTo b b.mails.length = b.mails := by unfold mailsTo; simp
end Plain
abbrev mailV (f : Ml) : Value := .agg #[.int .i64 f.uid, .int .i64 f.flags, .int .i64 f.mod, .string f.text]
abbrev openV (l : Value) (b : Bx) (m t : Value) : Value := .agg #[l, .string b.name, .int .i64 b.valid, .int .i64 b.next, .int .i64 b.mod, m, t, .int .i64 b.hor]
end Go.Proofs.Ytmedhmgihfenhab
