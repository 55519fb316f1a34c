/- Boxes as values: what the laws' own helpers do to them. Made by gen_boxval.py. -/
import Derived.Test.YtkjlponggednoacMailMarks
import Derived.Test.YtkjlponggednoacTombMarks
import Derived.Test.YtkjlponggednoacObjK
namespace Go.Proofs.Ytkjlponggednoac
open Go.RowKit Go.ChangeShapes Go.WideShapes Go.ChangeAt Go.Deep
open Plain
set_option linter.unusedVariables false
set_option linter.unusedSimpArgs false

namespace Plain
structure Bx where
  name : ByteArray
  valid : Int
  next : Int
  mod : Int
  mails : List Ml
  tombs : List Tb
  hor : Int
/-- None of it is too long. -/
def SmallBx (L : Nat) (b : Bx) : Prop := b.name.size ≤ L ∧ SmallMl L b.mails ∧ b.tombs.length ≤ L
end Plain
abbrev boxV (b : Bx) (m t : Value) : Value := .agg #[.string b.name, .int .i64 b.valid, .int .i64 b.next, .int .i64 b.mod, m, t, .int .i64 b.hor]
/-- A box whose rows are one's own. -/
def OwnBx (B : Nat) (w : World) (m t : Value) (b : Bx) : Prop := OwnMl B w m b.mails ∧ OwnTb B w t b.tombs
theorem OwnBx.up {B : Nat} {w w' : World} {m t : Value} {b : Bx} (h : OwnBx B w m t b) (hb : Below w.heap.size w w') : OwnBx B w' m t b := ⟨h.1.up hb, h.2.up hb⟩
theorem OwnBx.based {B B' : Nat} {w : World} {m t : Value} {b : Bx} (h : OwnBx B w m t b) (hB : B' ≤ B) : OwnBx B' w m t b := ⟨h.1.based hB, h.2.based hB⟩
theorem OwnBx.but {B : Nat} {w w' : World} {S : Nat → Prop} {m t : Value} {b : Bx} (h : OwnBx B w m t b) (hg : GrownBut w w' S) (hS : ∀ g, (m.ownBlock = some g ∨ t.ownBlock = some g) → ¬ S g) : OwnBx B w' m t b :=
  ⟨hg.row h.1 (fun g hg => hS g (.inl hg)), hg.row h.2 (fun g hg => hS g (.inr hg))⟩
theorem OwnBx.base {B : Nat} {w : World} {m t : Value} {b : Bx} (h : OwnBx B w m t b) : ∀ g, (m.ownBlock = some g ∨ t.ownBlock = some g) → B ≤ g ∧ g < w.heap.size := by
  intro g hg
  rcases hg with hg | hg
  · exact h.1.lt g hg
  · exact h.2.lt g hg
/-- A box that came in. -/
structure ArgBx (B : Nat) (w : World) (a1 a2 : Option Addr) (b : Bx) : Prop where
  name : b.name.size ≤ maxLen
  m1 : b.mails.length ≤ maxLen
  m2 : b.tombs.length ≤ maxLen
  mails : ArgMl B w a1 b.mails
  tombs : ArgTb B w a2 b.tombs
theorem ArgBx.below {B : Nat} {w w' : World} {a1 a2 : Option Addr} {b : Bx} (h : ArgBx B w a1 a2 b) (hb : Below B w w') : ArgBx B w' a1 a2 b := ⟨h.name, h.m1, h.m2, h.mails.below hb, h.tombs.below hb⟩
theorem ArgBx.up {w w' : World} {a1 a2 : Option Addr} {b : Bx} (h : ArgBx w.heap.size w a1 a2 b) (hb : Below w.heap.size w w') : ArgBx w'.heap.size w' a1 a2 b := ⟨h.name, h.m1, h.m2, h.mails.up hb, h.tombs.up hb⟩

set_option maxHeartbeats 4000000 in
set_option maxRecDepth 100000 in
theorem toBox_any (b : Bx) (a1 a2 : Option Addr) (c1 c2 : Nat) (w : World) (hs : SmallBx 1048576 b) (h : ArgBx w.heap.size w a1 a2 b) :
    Calls Try.prog 8 #[.agg #[.string b.name, .int .i64 b.valid, .int .i64 b.next, .int .i64 b.mod, .slice a1 b.mails.length c1, .slice a2 b.tombs.length c2, .int .i64 b.hor]] w fun e w' => ∃ m t, e = .returned (boxV b m t) ∧ OwnBx w.heap.size w' m t b ∧ Below w.heap.size w w' := by
  have HA := hide h
  have HS := hide hs
  clear h hs
  have n0 := HasObj.new w 25 [.string b.name, .int .i64 b.valid, .int .i64 b.next, .int .i64 b.mod, .slice a1 b.mails.length c1, .slice a2 b.tombs.length c2, .int .i64 b.hor]
  have n1 := HasObj.new (w.alloc (.cells ([.string b.name, .int .i64 b.valid, .int .i64 b.next, .int .i64 b.mod, .slice a1 b.mails.length c1, .slice a2 b.tombs.length c2, .int .i64 b.hor] : List Value).toArray 25)) 31 [.string ⟨#[]⟩, .int .i64 0, .int .i64 0, .int .i64 0, .slice none 0 0, .slice none 0 0, .int .i64 0]
  have n2 := HasObj.new ((w.alloc (.cells ([.string b.name, .int .i64 b.valid, .int .i64 b.next, .int .i64 b.mod, .slice a1 b.mails.length c1, .slice a2 b.tombs.length c2, .int .i64 b.hor] : List Value).toArray 25)).alloc (.cells ([.string ⟨#[]⟩, .int .i64 0, .int .i64 0, .int .i64 0, .slice none 0 0, .slice none 0 0, .int .i64 0] : List Value).toArray 31)) 31 [.string b.name, .int .i64 b.valid, .int .i64 b.next, .int .i64 b.mod, .slice none 0 0, .slice none 0 0, .int .i64 0]
  obtain ⟨X, hX⟩ : ∃ X, X = (((w.alloc (.cells ([.string b.name, .int .i64 b.valid, .int .i64 b.next, .int .i64 b.mod, .slice a1 b.mails.length c1, .slice a2 b.tombs.length c2, .int .i64 b.hor] : List Value).toArray 25)).alloc (.cells ([.string ⟨#[]⟩, .int .i64 0, .int .i64 0, .int .i64 0, .slice none 0 0, .slice none 0 0, .int .i64 0] : List Value).toArray 31)).alloc (.cells ([.string b.name, .int .i64 b.valid, .int .i64 b.next, .int .i64 b.mod, .slice none 0 0, .slice none 0 0, .int .i64 0] : List Value).toArray 31)) := ⟨_, rfl⟩
  rw [World.size_alloc] at n1
  rw [World.size_alloc, World.size_alloc] at n2
  have x0 : HasObj X w.heap.size 25 [.string b.name, .int .i64 b.valid, .int .i64 b.next, .int .i64 b.mod, .slice a1 b.mails.length c1, .slice a2 b.tombs.length c2, .int .i64 b.hor] := by rw [hX]; exact (n0.alloc _).alloc _
  have x1 : HasObj X (w.heap.size + 1) 31 [.string ⟨#[]⟩, .int .i64 0, .int .i64 0, .int .i64 0, .slice none 0 0, .slice none 0 0, .int .i64 0] := by rw [hX]; exact n1.alloc _
  have x2 : HasObj X (w.heap.size + 1 + 1) 31 [.string b.name, .int .i64 b.valid, .int .i64 b.next, .int .i64 b.mod, .slice none 0 0, .slice none 0 0, .int .i64 0] := by rw [hX]; exact n2
  have hbX : Below w.heap.size w X := by rw [hX]; exact ((((Below.refl _ w).alloc (Nat.le_refl _) _).alloc (by simp) _).alloc (by simp; omega) _)
  have hsX : X.heap.size = w.heap.size + 3 := by rw [hX]; simp
  have HX := hX.symm
  have HM := hide (toMailS_any a1 c1 b.mails X (unhide HS).2.1.1 ((unhide HA).up hbX).mails)
  have k4 := x0.cell 4 rfl
  have X0 := hide x0
  have X1 := hide x1
  have X2 := hide x2
  have BX := hide hbX
  have SX := hide hsX
  clear n0 n1 n2 x0 x1 x2 hbX hsX hX
  go_enter Try.func8, Try.ntmps8
  go_wp2_with fail
  clear k4 HX
  refine (unhide HM).mono ?_
  rintro e w1 ⟨m, rfl, om, hb1⟩
  obtain ⟨am, cm, rfl⟩ := g_shape om
  have hB1 : Below w.heap.size w w1 := (unhide BX).trans (hb1.mono (unhide BX).size)
  have y0 := (unhide X0).ups hb1
  have y1 := (unhide X1).ups hb1
  have y2 := (unhide X2).ups hb1
  have q4 := y2.cell 4 rfl
  have f4 := y2.frozen 4
  have ne02 : w.heap.size ≠ w.heap.size + 1 + 1 := by omega
  have ne12 : w.heap.size + 1 ≠ w.heap.size + 1 + 1 := by omega
  obtain ⟨Y, hY⟩ : ∃ Y, Y = w1.setCell ⟨w.heap.size + 1 + 1, 4, none⟩ (.slice am b.mails.length cm) := ⟨_, rfl⟩
  have Y0 := y0.other (j := 4) ne02 (.slice am b.mails.length cm)
  have Y1 := y1.other (j := 4) ne12 (.slice am b.mails.length cm)
  have Y2 := y2.set 4 (.slice am b.mails.length cm)
  have OY := y2.row (j := 4) (by decide) om (.slice am b.mails.length cm)
  have hBY : Below w.heap.size w Y := by rw [hY]; exact hB1.setCell (p := ⟨w.heap.size + 1 + 1, 4, none⟩) (by show w.heap.size ≤ w.heap.size + 1 + 1; omega) _
  rw [← hY] at Y0 Y1 Y2 OY
  have HT := hide (toTombS_any a2 c2 b.tombs Y (unhide HS).2.2 ((unhide HA).up hBY).tombs)
  have HY := hY.symm
  have c5 := Y0.cell 5 rfl
  have Y0 := hide Y0
  have Y1 := hide Y1
  have Y2 := hide Y2
  have OY := hide OY
  have BY := hide hBY
  have XS := hide ((unhide BX).size)
  clear om hb1 hB1 y0 y1 y2 hY hBY HM
  go_wp2_with fail
  clear c5 q4 f4 HY
  refine (unhide HT).mono ?_
  rintro e w2 ⟨t, rfl, ot, hb2⟩
  obtain ⟨at', ct, rfl⟩ := g_shape ot
  have z0 := (unhide Y0).ups hb2
  have z1 := (unhide Y1).ups hb2
  have z2 := (unhide Y2).ups hb2
  have O2 := g_stays (unhide OY) hb2
  have hB2 : Below w.heap.size w w2 := (unhide BY).trans (hb2.mono (unhide BY).size)
  have c6 := z0.cell 6 rfl
  have d0 := z2.cell 0 rfl
  have d1 := z2.cell 1 rfl
  have d2 := z2.cell 2 rfl
  have d3 := z2.cell 3 rfl
  have d4 := z2.cell 4 rfl
  have d5 := z2.cell 5 rfl
  have d6 := z2.cell 6 rfl
  have g5 := z2.frozen 5
  have g6 := z2.frozen 6
  have e0 := z1.cell 0 rfl
  have e1 := z1.cell 1 rfl
  have e2 := z1.cell 2 rfl
  have e3 := z1.cell 3 rfl
  have e4 := z1.cell 4 rfl
  have e5 := z1.cell 5 rfl
  have e6 := z1.cell 6 rfl
  have h0 := z1.frozen 0
  have h1 := z1.frozen 1
  have h2 := z1.frozen 2
  have h3 := z1.frozen 3
  have h4 := z1.frozen 4
  have h5 := z1.frozen 5
  have h6 := z1.frozen 6
  have P1 := z2.row (j := 5) (by decide) O2 (.slice at' b.tombs.length ct)
  have P2 := z2.row (j := 5) (by decide) ot (.slice at' b.tombs.length ct)
  have s5 := z2.set 5 (.slice at' b.tombs.length ct)
  have Q1 := s5.row (j := 6) (by decide) P1 (.int .i64 b.hor)
  have Q2 := s5.row (j := 6) (by decide) P2 (.int .i64 b.hor)
  have s6 := s5.set 6 (.int .i64 b.hor)
  have r1 := (z1.other (j := 5) ne12 (.slice at' b.tombs.length ct)).other (j := 6) ne12 (.int .i64 b.hor)
  have B3 := (hB2.setCell (p := ⟨w.heap.size + 1 + 1, 5, none⟩) (by show w.heap.size ≤ w.heap.size + 1 + 1; omega) (.slice at' b.tombs.length ct)).setCell (p := ⟨w.heap.size + 1 + 1, 6, none⟩) (by show w.heap.size ≤ w.heap.size + 1 + 1; omega) (.int .i64 b.hor)
  have P1 := hide P1
  have P2 := hide P2
  have Q1 := hide Q1
  have Q2 := hide Q2
  have s5 := hide s5
  have s6 := hide s6
  have r1 := hide r1
  have B3 := hide B3
  clear O2 ot hb2 hB2 z0 z1 z2 HT
  go_wp2
  obtain ⟨Z, hZ⟩ : ∃ Z, Z = (w2.setCell ⟨w.heap.size + 1 + 1, 5, none⟩ (.slice at' b.tombs.length ct)).setCell ⟨w.heap.size + 1 + 1, 6, none⟩ (.int .i64 b.hor) := ⟨_, rfl⟩
  have R0 := unhide r1
  have M0 := unhide Q1
  have T0 := unhide Q2
  have L0 := unhide B3
  rw [← hZ] at R0 M0 T0 L0 ⊢
  have R1 := R0.set 0 (.string b.name)
  have M1 := R0.row (j := 0) (by decide) M0 (.string b.name)
  have T1 := R0.row (j := 0) (by decide) T0 (.string b.name)
  have L1 := L0.setCell (p := ⟨w.heap.size + 1, 0, none⟩) (by show w.heap.size ≤ w.heap.size + 1; omega) (.string b.name)
  have R2 := R1.set 1 (.int .i64 b.valid)
  have M2 := R1.row (j := 1) (by decide) M1 (.int .i64 b.valid)
  have T2 := R1.row (j := 1) (by decide) T1 (.int .i64 b.valid)
  have L2 := L1.setCell (p := ⟨w.heap.size + 1, 1, none⟩) (by show w.heap.size ≤ w.heap.size + 1; omega) (.int .i64 b.valid)
  have R3 := R2.set 2 (.int .i64 b.next)
  have M3 := R2.row (j := 2) (by decide) M2 (.int .i64 b.next)
  have T3 := R2.row (j := 2) (by decide) T2 (.int .i64 b.next)
  have L3 := L2.setCell (p := ⟨w.heap.size + 1, 2, none⟩) (by show w.heap.size ≤ w.heap.size + 1; omega) (.int .i64 b.next)
  have R4 := R3.set 3 (.int .i64 b.mod)
  have M4 := R3.row (j := 3) (by decide) M3 (.int .i64 b.mod)
  have T4 := R3.row (j := 3) (by decide) T3 (.int .i64 b.mod)
  have L4 := L3.setCell (p := ⟨w.heap.size + 1, 3, none⟩) (by show w.heap.size ≤ w.heap.size + 1; omega) (.int .i64 b.mod)
  have R5 := R4.set 4 (.slice am b.mails.length cm)
  have M5 := R4.row (j := 4) (by decide) M4 (.slice am b.mails.length cm)
  have T5 := R4.row (j := 4) (by decide) T4 (.slice am b.mails.length cm)
  have L5 := L4.setCell (p := ⟨w.heap.size + 1, 4, none⟩) (by show w.heap.size ≤ w.heap.size + 1; omega) (.slice am b.mails.length cm)
  have R6 := R5.set 5 (.slice at' b.tombs.length ct)
  have M6 := R5.row (j := 5) (by decide) M5 (.slice at' b.tombs.length ct)
  have T6 := R5.row (j := 5) (by decide) T5 (.slice at' b.tombs.length ct)
  have L6 := L5.setCell (p := ⟨w.heap.size + 1, 5, none⟩) (by show w.heap.size ≤ w.heap.size + 1; omega) (.slice at' b.tombs.length ct)
  have R7 := R6.set 6 (.int .i64 b.hor)
  have M7 := R6.row (j := 6) (by decide) M6 (.int .i64 b.hor)
  have T7 := R6.row (j := 6) (by decide) T6 (.int .i64 b.hor)
  have L7 := L6.setCell (p := ⟨w.heap.size + 1, 6, none⟩) (by show w.heap.size ≤ w.heap.size + 1; omega) (.int .i64 b.hor)
  obtain ⟨V, hV⟩ : ∃ V, V = (((((((Z.setCell ⟨w.heap.size + 1, 0, none⟩ (.string b.name)).setCell ⟨w.heap.size + 1, 1, none⟩ (.int .i64 b.valid)).setCell ⟨w.heap.size + 1, 2, none⟩ (.int .i64 b.next)).setCell ⟨w.heap.size + 1, 3, none⟩ (.int .i64 b.mod)).setCell ⟨w.heap.size + 1, 4, none⟩ (.slice am b.mails.length cm)).setCell ⟨w.heap.size + 1, 5, none⟩ (.slice at' b.tombs.length ct)).setCell ⟨w.heap.size + 1, 6, none⟩ (.int .i64 b.hor)) := ⟨_, rfl⟩
  rw [← hV] at R7 M7 T7 L7 ⊢
  have v0 := R7.cell 0 rfl
  have v1 := R7.cell 1 rfl
  have v2 := R7.cell 2 rfl
  have v3 := R7.cell 3 rfl
  have v4 := R7.cell 4 rfl
  have v5 := R7.cell 5 rfl
  have v6 := R7.cell 6 rfl
  refine bodyPost_ret (by simp [results, Try.results8, go_sem, v0, v1, v2, v3, v4, v5, v6]; try rfl) rfl ?_
  refine ⟨_, _, rfl, ⟨g_based M7 (unhide BX).size, g_based T7 (unhide BY).size⟩, L7⟩
end Go.Proofs.Ytkjlponggednoac
