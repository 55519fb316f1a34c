/- The specification's BoxNew and AddMail. Made by gen_addmail.py. -/
import Derived.Test.YtanapiaobpoebaaBoxOkS
import Derived.Test.YtanapiaobpoebaaBoxCopyS
import Derived.Test.YtanapiaobpoebaaRowsA
namespace Go.Proofs.Ytanapiaobpoebaa
open Go.RowKit
open Plain
set_option linter.unusedVariables false

namespace Plain
def noBox : Bx := ⟨⟨#[]⟩, 0, 0, 0, [], [], 0⟩
def newBox (name : ByteArray) (valid : Int) : Bx := ⟨name, valid, 1, 1, [], [], 0⟩
def newV (name : ByteArray) (valid : Int) : Bx × Bool := if boxOk (newBox name valid) = true then (newBox name valid, true) else (noBox, false)
def added (b : Bx) (flags : Int) (text : ByteArray) : Bx := { b with mod := b.mod + 1, next := b.next + 1, mails := b.mails ++ [⟨b.next, flags, b.mod + 1, text⟩] }
end Plain
set_option maxHeartbeats 4000000 in
set_option maxRecDepth 100000 in
theorem spec_BoxNew_any (name : ByteArray) (valid : Int) (w : World) (hs : name.size ≤ 1048576) :
  Calls Try.prog 16 #[.string name, .int .i64 valid] w fun e w' => e = .returned (.tuple #[boxV (newV name valid).1 (.slice none 0 0) (.slice none 0 0), .bool (newV name valid).2]) ∧ Below w.heap.size w w' := by
 have n0 := HasObj.new w 42 [.string ⟨#[]⟩, .int .i64 0, .int .i64 0, .int .i64 0, .slice none 0 0, .slice none 0 0, .int .i64 0]
 have n1 := HasObj.new (w.alloc (.cells ([.string ⟨#[]⟩, .int .i64 0, .int .i64 0, .int .i64 0, .slice none 0 0, .slice none 0 0, .int .i64 0] : List Value).toArray 42)) 42 [.string name, .int .i64 valid, .int .i64 1, .int .i64 1, .slice none 0 0, .slice none 0 0, .int .i64 0]
 rw [World.size_alloc] at n1
 obtain ⟨X, hX⟩ : ∃ X, X = (w.alloc (.cells ([.string ⟨#[]⟩, .int .i64 0, .int .i64 0, .int .i64 0, .slice none 0 0, .slice none 0 0, .int .i64 0] : List Value).toArray 42)).alloc (.cells ([.string name, .int .i64 valid, .int .i64 1, .int .i64 1, .slice none 0 0, .slice none 0 0, .int .i64 0] : List Value).toArray 42) := ⟨_, rfl⟩
 have x0 : HasObj X w.heap.size 42 [.string ⟨#[]⟩, .int .i64 0, .int .i64 0, .int .i64 0, .slice none 0 0, .slice none 0 0, .int .i64 0] := by rw [hX]; exact n0.alloc _
 have x1 : HasObj X (w.heap.size + 1) 42 [.string name, .int .i64 valid, .int .i64 1, .int .i64 1, .slice none 0 0, .slice none 0 0, .int .i64 0] := by rw [hX]; exact n1
 have hbX : Below w.heap.size w X := by rw [hX]; exact ((Below.refl _ w).alloc (Nat.le_refl _) _).alloc (by simp) _
 have Q := spec_BoxOk_any (newBox name valid) (.slice none 0 0) (.slice none 0 0) X.heap.size X ⟨hs, Nat.zero_le _, fun m hm => by simp [newBox] at hm, Nat.zero_le _⟩ ⟨World.ownsRow_nil _ _ _ _, World.ownsRow_nil _ _ _ _⟩
 have V : Hid (newV name valid = if boxOk (newBox name valid) = true then (newBox name valid, true) else (noBox, false)) := rfl
 generalize boxOk (newBox name valid) = q at *
 have Q := hide Q; have HX := hide hX.symm; have X0 := hide x0; have X1 := hide x1; have BX := hide hbX; clear n0 n1 x0 x1 hX hbX
 go_enter Try.func16, Try.ntmps16
 go_wp2_with fail
 rw [show (w.alloc (.cells #[.string ⟨#[]⟩, .int .i64 0, .int .i64 0, .int .i64 0, .slice none 0 0, .slice none 0 0, .int .i64 0] 42)).alloc (.cells #[.string name, .int .i64 valid, .int .i64 1, .int .i64 1, .slice none 0 0, .slice none 0 0, .int .i64 0] 42) = X from uh HX]
 refine (uh Q).mono ?_
 rintro e w1 ⟨rfl, hb1⟩
 have y0 := (uh X0).ups hb1; have y1 := (uh X1).ups hb1; have p0 := y1.cell 0 rfl; have p1 := y1.cell 1 rfl; have p2 := y1.cell 2 rfl; have p3 := y1.cell 3 rfl; have p4 := y1.cell 4 rfl; have p5 := y1.cell 5 rfl; have p6 := y1.cell 6 rfl; have e0 := y0.cell 0 rfl; have e1 := y0.cell 1 rfl; have e2 := y0.cell 2 rfl; have e3 := y0.cell 3 rfl; have e4 := y0.cell 4 rfl; have e5 := y0.cell 5 rfl; have e6 := y0.cell 6 rfl; have f0 := y0.frozen 0; have f1 := y0.frozen 1; have f2 := y0.frozen 2; have f3 := y0.frozen 3; have f4 := y0.frozen 4; have f5 := y0.frozen 5; have f6 := y0.frozen 6
 have F1 := hide (fill7 y0 (.string ⟨#[]⟩) (.int .i64 0) (.int .i64 0) (.int .i64 0) (.slice none 0 0) (.slice none 0 0) (.int .i64 0))
 have F2 := hide (fill7 y0 (.string name) (.int .i64 valid) (.int .i64 1) (.int .i64 1) (.slice none 0 0) (.slice none 0 0) (.int .i64 0)); have B1 := hide (below2 (uh BX) hb1); clear HX y0 y1 hb1 Q
 cases q with
 | false =>
  go_wp2
  obtain ⟨U, hU⟩ : ∃ U, U = (((((((w1.setCell ⟨w.heap.size, 0, none⟩ (.string ⟨#[]⟩)).setCell ⟨w.heap.size, 1, none⟩ (.int .i64 0)).setCell ⟨w.heap.size, 2, none⟩ (.int .i64 0)).setCell ⟨w.heap.size, 3, none⟩ (.int .i64 0)).setCell ⟨w.heap.size, 4, none⟩ (.slice none 0 0)).setCell ⟨w.heap.size, 5, none⟩ (.slice none 0 0)).setCell ⟨w.heap.size, 6, none⟩ (.int .i64 0)) := ⟨_, rfl⟩
  have F := uh F1
  rw [← hU] at F ⊢
  have v0 := F.obj.cell 0 rfl; have v1 := F.obj.cell 1 rfl; have v2 := F.obj.cell 2 rfl; have v3 := F.obj.cell 3 rfl; have v4 := F.obj.cell 4 rfl; have v5 := F.obj.cell 5 rfl; have v6 := F.obj.cell 6 rfl
  refine bodyPost_ret (by simp [results, Try.results16, go_sem, v0, v1, v2, v3, v4, v5, v6]; try rfl) rfl ?_
  exact ⟨by rw [uh V]; rfl, F.below (Nat.le_refl _) (uh B1)⟩
 | true =>
  go_wp2
  obtain ⟨U, hU⟩ : ∃ U, U = (((((((w1.setCell ⟨w.heap.size, 0, none⟩ (.string name)).setCell ⟨w.heap.size, 1, none⟩ (.int .i64 valid)).setCell ⟨w.heap.size, 2, none⟩ (.int .i64 1)).setCell ⟨w.heap.size, 3, none⟩ (.int .i64 1)).setCell ⟨w.heap.size, 4, none⟩ (.slice none 0 0)).setCell ⟨w.heap.size, 5, none⟩ (.slice none 0 0)).setCell ⟨w.heap.size, 6, none⟩ (.int .i64 0)) := ⟨_, rfl⟩
  have F := uh F2
  rw [← hU] at F ⊢
  have v0 := F.obj.cell 0 rfl; have v1 := F.obj.cell 1 rfl; have v2 := F.obj.cell 2 rfl; have v3 := F.obj.cell 3 rfl; have v4 := F.obj.cell 4 rfl; have v5 := F.obj.cell 5 rfl; have v6 := F.obj.cell 6 rfl
  refine bodyPost_ret (by simp [results, Try.results16, go_sem, v0, v1, v2, v3, v4, v5, v6]; try rfl) rfl ?_
  exact ⟨by rw [uh V]; rfl, F.below (Nat.le_refl _) (uh B1)⟩

end Go.Proofs.Ytanapiaobpoebaa
