/- The specification's BoxNew and AddMail. Made by gen_addmail.py. -/
import Derived.Test.YtlngjflhbkannaaGreatBoxOkS
import Derived.Test.YtlngjflhbkannaaGreatBoxCopyS
import Derived.Test.YtlngjflhbkannaaGreatRowsA
namespace Go.Proofs.YtlngjflhbkannaaGreat
open Go.RowKit
open Plain
set_option linter.unusedVariables false

theorem below_x {w W W' : World} (h : Below w.heap.size w W) (hb : Below W.heap.size W W') : Below w.heap.size w W' := h.trans (hb.mono h.size)
theorem g_stays0 {W W' : World} {b : Nat} {t : TypeId} {vs : List Value} (h : HasObj W b t vs) (hb : Below W.heap.size W W') : HasObj W' b t vs := h.ups hb
namespace Plain
def noBox : Bx := ⟨⟨#[]⟩, 0, 0, 0, [], [], 0⟩
def newBox (name : ByteArray) (valid : Int) : Bx := ⟨name, valid, 1, 1, [], [], 0⟩
def newV (name : ByteArray) (valid : Int) : Bx × Bool := if boxOk (newBox name valid) = true then (newBox name valid, true) else (noBox, false)
def added (b : Bx) (flags : Int) (text : ByteArray) : Bx := { b with mod := b.mod + 1, next := b.next + 1, mails := b.mails ++ [⟨b.next, flags, b.mod + 1, text⟩] }
def addV (b : Bx) (flags : Int) (text : ByteArray) : Bx × Int := if boxOk b = true ∧ boxOk (added b flags text) = true then (added b flags text, b.next) else (b, 0)
theorem addV_no1 {b : Bx} {flags : Int} {text : ByteArray} (h : boxOk b = false) : addV b flags text = (b, 0) := if_neg (fun x => by rw [h] at x; cases x.1)
theorem addV_no2 {b : Bx} {flags : Int} {text : ByteArray} (h : boxOk (added b flags text) = false) : addV b flags text = (b, 0) := if_neg (fun x => by rw [h] at x; cases x.2)
theorem addV_yes {b : Bx} {flags : Int} {text : ByteArray} (h1 : boxOk b = true) (h2 : boxOk (added b flags text) = true) : addV b flags text = (added b flags text, b.next) := if_pos ⟨h1, h2⟩
end Plain
set_option maxHeartbeats 4000000 in
set_option maxRecDepth 100000 in
theorem spec_BoxNew_any (name : ByteArray) (valid : Int) (w : World) (hs : name.size ≤ 1048576) :
  Calls Tryz.prog 29 #[.string name, .int .i64 valid] w fun e w' => e = .returned (.tuple #[boxV (newV name valid).1 (.slice none 0 0) (.slice none 0 0), .bool (newV name valid).2]) ∧ Below w.heap.size w w' := by
 have n0 := HasObj.new w 50 [.string ⟨#[]⟩, .int .i64 0, .int .i64 0, .int .i64 0, .slice none 0 0, .slice none 0 0, .int .i64 0]
 have n1 := HasObj.new (w.alloc (.cells ([.string ⟨#[]⟩, .int .i64 0, .int .i64 0, .int .i64 0, .slice none 0 0, .slice none 0 0, .int .i64 0] : List Value).toArray 50)) 50 [.string name, .int .i64 valid, .int .i64 1, .int .i64 1, .slice none 0 0, .slice none 0 0, .int .i64 0]
 rw [World.size_alloc] at n1
 obtain ⟨X, hX⟩ : ∃ X, X = (w.alloc (.cells ([.string ⟨#[]⟩, .int .i64 0, .int .i64 0, .int .i64 0, .slice none 0 0, .slice none 0 0, .int .i64 0] : List Value).toArray 50)).alloc (.cells ([.string name, .int .i64 valid, .int .i64 1, .int .i64 1, .slice none 0 0, .slice none 0 0, .int .i64 0] : List Value).toArray 50) := ⟨_, rfl⟩
 have x0 : HasObj X w.heap.size 50 [.string ⟨#[]⟩, .int .i64 0, .int .i64 0, .int .i64 0, .slice none 0 0, .slice none 0 0, .int .i64 0] := by rw [hX]; exact n0.alloc _
 have x1 : HasObj X (w.heap.size + 1) 50 [.string name, .int .i64 valid, .int .i64 1, .int .i64 1, .slice none 0 0, .slice none 0 0, .int .i64 0] := by rw [hX]; exact n1
 have hbX : Below w.heap.size w X := by rw [hX]; exact ((Below.refl _ w).alloc (Nat.le_refl _) _).alloc (by simp) _
 have Q := spec_BoxOk_any (newBox name valid) (.slice none 0 0) (.slice none 0 0) X.heap.size X ⟨hs, Nat.zero_le _, fun m hm => by simp [newBox] at hm, Nat.zero_le _⟩ ⟨World.ownsRow_nil _ _ _ _, World.ownsRow_nil _ _ _ _⟩
 have V : Hid (newV name valid = if boxOk (newBox name valid) = true then (newBox name valid, true) else (noBox, false)) := rfl
 generalize boxOk (newBox name valid) = q at *
 have Q := hide Q; have HX := hide hX.symm; have X0 := hide x0; have X1 := hide x1; have BX := hide hbX; clear n0 n1 x0 x1 hX hbX
 go_enter Tryz.func29, Tryz.ntmps29
 go_wp2_with fail
 rw [show (w.alloc (.cells #[.string ⟨#[]⟩, .int .i64 0, .int .i64 0, .int .i64 0, .slice none 0 0, .slice none 0 0, .int .i64 0] 50)).alloc (.cells #[.string name, .int .i64 valid, .int .i64 1, .int .i64 1, .slice none 0 0, .slice none 0 0, .int .i64 0] 50) = X from uh HX]
 refine (uh Q).mono ?_
 rintro e w1 ⟨rfl, hb1⟩
 have y0 := (uh X0).ups hb1; have y1 := (uh X1).ups hb1; have p0 := y1.cell 0 rfl; have p1 := y1.cell 1 rfl; have p2 := y1.cell 2 rfl; have p3 := y1.cell 3 rfl; have p4 := y1.cell 4 rfl; have p5 := y1.cell 5 rfl; have p6 := y1.cell 6 rfl; have e0 := y0.cell 0 rfl; have e1 := y0.cell 1 rfl; have e2 := y0.cell 2 rfl; have e3 := y0.cell 3 rfl; have e4 := y0.cell 4 rfl; have e5 := y0.cell 5 rfl; have e6 := y0.cell 6 rfl; have f0 := y0.frozen 0; have f1 := y0.frozen 1; have f2 := y0.frozen 2; have f3 := y0.frozen 3; have f4 := y0.frozen 4; have f5 := y0.frozen 5; have f6 := y0.frozen 6
 have F1 := hide (fill7 y0 (.string ⟨#[]⟩) (.int .i64 0) (.int .i64 0) (.int .i64 0) (.slice none 0 0) (.slice none 0 0) (.int .i64 0))
 have F2 := hide (fill7 y0 (.string name) (.int .i64 valid) (.int .i64 1) (.int .i64 1) (.slice none 0 0) (.slice none 0 0) (.int .i64 0)); have B1 := hide (below2 (uh BX) hb1); clear HX y0 y1 hb1 Q
 cases q with
 | false =>
  go_wp2
  obtain ⟨U, hU⟩ : ∃ U, U = (((((((w1.setCell ⟨w.heap.size, 0, none⟩ (.string ⟨#[]⟩)).setCell ⟨w.heap.size, 1, none⟩ (.int .i64 0)).setCell ⟨w.heap.size, 2, none⟩ (.int .i64 0)).setCell ⟨w.heap.size, 3, none⟩ (.int .i64 0)).setCell ⟨w.heap.size, 4, none⟩ (.slice none 0 0)).setCell ⟨w.heap.size, 5, none⟩ (.slice none 0 0)).setCell ⟨w.heap.size, 6, none⟩ (.int .i64 0)) := ⟨_, rfl⟩
  have F := uh F1
  rw [← hU] at F ⊢
  have v0 := F.obj.cell 0 rfl; have v1 := F.obj.cell 1 rfl; have v2 := F.obj.cell 2 rfl; have v3 := F.obj.cell 3 rfl; have v4 := F.obj.cell 4 rfl; have v5 := F.obj.cell 5 rfl; have v6 := F.obj.cell 6 rfl
  refine bodyPost_ret (by simp [results, Tryz.results29, go_sem, v0, v1, v2, v3, v4, v5, v6]; try rfl) rfl ?_
  exact ⟨by rw [uh V]; rfl, F.below (Nat.le_refl _) (uh B1)⟩
 | true =>
  go_wp2
  obtain ⟨U, hU⟩ : ∃ U, U = (((((((w1.setCell ⟨w.heap.size, 0, none⟩ (.string name)).setCell ⟨w.heap.size, 1, none⟩ (.int .i64 valid)).setCell ⟨w.heap.size, 2, none⟩ (.int .i64 1)).setCell ⟨w.heap.size, 3, none⟩ (.int .i64 1)).setCell ⟨w.heap.size, 4, none⟩ (.slice none 0 0)).setCell ⟨w.heap.size, 5, none⟩ (.slice none 0 0)).setCell ⟨w.heap.size, 6, none⟩ (.int .i64 0)) := ⟨_, rfl⟩
  have F := uh F2
  rw [← hU] at F ⊢
  have v0 := F.obj.cell 0 rfl; have v1 := F.obj.cell 1 rfl; have v2 := F.obj.cell 2 rfl; have v3 := F.obj.cell 3 rfl; have v4 := F.obj.cell 4 rfl; have v5 := F.obj.cell 5 rfl; have v6 := F.obj.cell 6 rfl
  refine bodyPost_ret (by simp [results, Tryz.results29, go_sem, v0, v1, v2, v3, v4, v5, v6]; try rfl) rfl ?_
  exact ⟨by rw [uh V]; rfl, F.below (Nat.le_refl _) (uh B1)⟩

set_option maxHeartbeats 16000000 in
set_option maxRecDepth 100000 in
theorem spec_AddMail_any (b : Bx) (m t : Value) (B : Nat) (flags : Int) (text : ByteArray) (w : World) (hf : FitBx b) (hm30 : b.mails.length ≤ 1048576) (ht : text.size ≤ 1048576) (h : OwnBx B w m t b) :
  Calls Tryz.prog 19 #[boxV b m t, .int .i64 flags, .string text] w fun e w' => ∃ m' t', e = .returned (.tuple #[boxV (addV b flags text).1 m' t', .int .i64 (addV b flags text).2]) ∧ OwnBx w.heap.size w' m' t' (addV b flags text).1 ∧ Below w.heap.size w w' := by
 obtain ⟨i0, hi, hz0, hz1, hz2⟩ := info_parts Tryz.infoMail
 have hl1 := hf.mails; have hl2 := hf.tombs
 obtain ⟨am, cm, rfl⟩ := g_shape h.1
 obtain ⟨at1, ct1, rfl⟩ := g_shape h.2
 have n0 := HasObj.new w 50 [.string b.name, .int .i64 b.valid, .int .i64 b.next, .int .i64 b.mod, .slice am b.mails.length cm, .slice at1 b.tombs.length ct1, .int .i64 b.hor]
 have n1 := HasObj.new (w.alloc (.cells ([.string b.name, .int .i64 b.valid, .int .i64 b.next, .int .i64 b.mod, .slice am b.mails.length cm, .slice at1 b.tombs.length ct1, .int .i64 b.hor] : List Value).toArray 50)) 50 [.string ⟨#[]⟩, .int .i64 0, .int .i64 0, .int .i64 0, .slice none 0 0, .slice none 0 0, .int .i64 0]
 rw [World.size_alloc] at n1
 obtain ⟨X, hX⟩ : ∃ X, X = (w.alloc (.cells ([.string b.name, .int .i64 b.valid, .int .i64 b.next, .int .i64 b.mod, .slice am b.mails.length cm, .slice at1 b.tombs.length ct1, .int .i64 b.hor] : List Value).toArray 50)).alloc (.cells ([.string ⟨#[]⟩, .int .i64 0, .int .i64 0, .int .i64 0, .slice none 0 0, .slice none 0 0, .int .i64 0] : List Value).toArray 50) := ⟨_, rfl⟩
 have x0 : HasObj X w.heap.size 50 [.string b.name, .int .i64 b.valid, .int .i64 b.next, .int .i64 b.mod, .slice am b.mails.length cm, .slice at1 b.tombs.length ct1, .int .i64 b.hor] := by rw [hX]; exact n0.alloc _
 have x1 : HasObj X (w.heap.size + 1) 50 [.string ⟨#[]⟩, .int .i64 0, .int .i64 0, .int .i64 0, .slice none 0 0, .slice none 0 0, .int .i64 0] := by rw [hX]; exact n1
 have hbX : Below w.heap.size w X := by rw [hX]; exact ((Below.refl _ w).alloc (Nat.le_refl _) _).alloc (by simp) _
 have hsX : w.heap.size + 2 ≤ X.heap.size := by rw [hX]; simp
 have Q1 := hide (l08Copy_any b _ _ B X hl1 hl2 (h.up hbX)); have k0 := x0.cell 0 rfl; have k1 := x0.cell 1 rfl; have k2 := x0.cell 2 rfl; have k3 := x0.cell 3 rfl; have k4 := x0.cell 4 rfl; have k5 := x0.cell 5 rfl; have k6 := x0.cell 6 rfl; have HX := hX.symm; have X0 := hide x0; have X1 := hide x1; have BX := hide hbX; have SX := hide hsX; have HO := hide h; have HF := hide hf; clear n0 n1 x0 x1 hX hbX hsX h hf
 go_enter Tryz.func19, Tryz.ntmps19
 go_wp2_with fail; clear HX k0 k1 k2 k3 k4 k5 k6
 refine (uh Q1).mono ?_
 rintro e w1 ⟨m1, t1, rfl, o1, hb1⟩
 obtain ⟨a3, c3, rfl⟩ := g_shape o1.1
 obtain ⟨a4, c4, rfl⟩ := g_shape o1.2
 obtain ⟨Y, hY⟩ : ∃ Y, Y = w1.alloc (.cells ([.string b.name, .int .i64 b.valid, .int .i64 b.next, .int .i64 b.mod, .slice a3 b.mails.length c3, .slice a4 b.tombs.length c4, .int .i64 b.hor] : List Value).toArray 50) := ⟨_, rfl⟩
 have y0 : HasObj Y w.heap.size 50 [.string b.name, .int .i64 b.valid, .int .i64 b.next, .int .i64 b.mod, .slice am b.mails.length cm, .slice at1 b.tombs.length ct1, .int .i64 b.hor] := by rw [hY]; exact ((uh X0).ups hb1).alloc _
 have y1 : HasObj Y (w.heap.size + 1) 50 [.string ⟨#[]⟩, .int .i64 0, .int .i64 0, .int .i64 0, .slice none 0 0, .slice none 0 0, .int .i64 0] := by rw [hY]; exact ((uh X1).ups hb1).alloc _
 have y2 : HasObj Y w1.heap.size 50 [.string b.name, .int .i64 b.valid, .int .i64 b.next, .int .i64 b.mod, .slice a3 b.mails.length c3, .slice a4 b.tombs.length c4, .int .i64 b.hor] := by rw [hY]; exact HasObj.new _ _ _
 have hbw1 : Below w.heap.size w w1 := below_x (uh BX) hb1
 have hbY1 : Below w1.heap.size w1 Y := by rw [hY]; exact (Below.refl _ _).alloc (Nat.le_refl _) _
 have hbY : Below w.heap.size w Y := below_x hbw1 hbY1
 have s1 : w.heap.size + 2 ≤ w1.heap.size := Nat.le_trans (uh SX) hb1.size
 have hsY : Y.heap.size = w1.heap.size + 1 := by rw [hY]; simp
 have oY := o1.up hbY1; have Q2 := spec_BoxOk_any b _ _ B Y (uh HF) ((uh HO).up hbY); have BASE := hide (OwnBx.base o1); have p0 := y0.cell 0 rfl; have p1 := y0.cell 1 rfl; have p2 := y0.cell 2 rfl; have p3 := y0.cell 3 rfl; have p4 := y0.cell 4 rfl; have p5 := y0.cell 5 rfl; have p6 := y0.cell 6 rfl; have HY := hY.symm; have Y0 := hide y0; have Y1 := hide y1; have Y2 := hide y2; have BY := hide hbY; have OY := hide oY; have S1 := hide s1; have SY := hide hsY; have SX2 := hide hb1.size
 have V1 := hide (fun hq => addV_no1 (b := b) (flags := flags) (text := text) hq)
 have V2 := hide (fun hq => addV_no2 (b := b) (flags := flags) (text := text) hq)
 have V3 := hide (fun h1 h2 => addV_yes (b := b) (flags := flags) (text := text) h1 h2)
 clear hY y0 y1 y2 hbw1 hbY1 hbY s1 hsY oY o1 hb1 Q1
 cases hq1 : boxOk b with
 | false =>
  rw [hq1] at Q2
  have Q2 := hide Q2; have V := hide (uh V1 hq1); clear hq1; go_wp2_with fail
  refine (uh Q2).mono ?_
  rintro e w2 ⟨rfl, hb2⟩
  have z1 := (uh Y1).ups hb2; have z2 := (uh Y2).ups hb2; have q0 := z2.cell 0 rfl; have q1 := z2.cell 1 rfl; have q2 := z2.cell 2 rfl; have q3 := z2.cell 3 rfl; have q4 := z2.cell 4 rfl; have q5 := z2.cell 5 rfl; have q6 := z2.cell 6 rfl; have e0 := z1.cell 0 rfl; have e1 := z1.cell 1 rfl; have e2 := z1.cell 2 rfl; have e3 := z1.cell 3 rfl; have e4 := z1.cell 4 rfl; have e5 := z1.cell 5 rfl; have e6 := z1.cell 6 rfl; have f0 := z1.frozen 0; have f1 := z1.frozen 1; have f2 := z1.frozen 2; have f3 := z1.frozen 3; have f4 := z1.frozen 4; have f5 := z1.frozen 5; have f6 := z1.frozen 6; have F := hide (fill7 z1 (.string b.name) (.int .i64 b.valid) (.int .i64 b.next) (.int .i64 b.mod) (.slice a3 b.mails.length c3) (.slice a4 b.tombs.length c4) (.int .i64 b.hor)); have O2 := hide ((uh OY).up hb2); have B2 := hide (below_x (uh BY) hb2); clear HY z1 z2 hb2 p0 p1 p2 p3 p4 p5 p6 Q2
  go_wp2
  obtain ⟨U, hU⟩ : ∃ U, U = (((((((w2.setCell ⟨w.heap.size + 1, 0, none⟩ (.string b.name)).setCell ⟨w.heap.size + 1, 1, none⟩ (.int .i64 b.valid)).setCell ⟨w.heap.size + 1, 2, none⟩ (.int .i64 b.next)).setCell ⟨w.heap.size + 1, 3, none⟩ (.int .i64 b.mod)).setCell ⟨w.heap.size + 1, 4, none⟩ (.slice a3 b.mails.length c3)).setCell ⟨w.heap.size + 1, 5, none⟩ (.slice a4 b.tombs.length c4)).setCell ⟨w.heap.size + 1, 6, none⟩ (.int .i64 b.hor)) := ⟨_, rfl⟩
  have F := uh F
  rw [← hU] at F ⊢
  have v0 := F.obj.cell 0 rfl; have v1 := F.obj.cell 1 rfl; have v2 := F.obj.cell 2 rfl; have v3 := F.obj.cell 3 rfl; have v4 := F.obj.cell 4 rfl; have v5 := F.obj.cell 5 rfl; have v6 := F.obj.cell 6 rfl
  refine bodyPost_ret (by simp [results, Tryz.results19, go_sem, v0, v1, v2, v3, v4, v5, v6]; try rfl) rfl ?_
  refine ⟨.slice a3 b.mails.length c3, .slice a4 b.tombs.length c4, by rw [uh V], ?_, F.below (by omega) (uh B2)⟩
  rw [uh V]
  exact OwnBx.based ⟨F.row (by decide) (uh O2).1, F.row (by decide) (uh O2).2⟩ (by have := uh SX; omega)
 | true =>
  rw [hq1] at Q2
  have Q2 := hide Q2
  obtain ⟨_, _, g2, g3, _, _, _⟩ := head_parts (boxOk_iff.1 hq1).1
  have hn := inI_iff.1 g2; have hmo := inI_iff.1 g3; clear g2 g3; have HQ1 := hide hq1; clear hq1; go_wp2_with fail
  refine (uh Q2).mono ?_
  rintro e w2 ⟨rfl, hb2⟩
  have z0 := (uh Y0).ups hb2; have z1 := (uh Y1).ups hb2; have z2 := (uh Y2).ups hb2; have b2 := below_x (uh BY) hb2; have Q3 := hide (l08Copy_any b _ _ B w2 hl1 hl2 ((uh HO).up b2)); have q0 := z0.cell 0 rfl; have q1 := z0.cell 1 rfl; have q2 := z0.cell 2 rfl; have q3 := z0.cell 3 rfl; have q4 := z0.cell 4 rfl; have q5 := z0.cell 5 rfl; have q6 := z0.cell 6 rfl; have Z0 := hide z0; have Z1 := hide z1; have Z2 := hide z2; have O2 := hide ((uh OY).up hb2); have B2 := hide b2
  have S2 : Hid (w1.heap.size + 1 ≤ w2.heap.size) := by have h1 := uh SY; have h2 := hb2.size; show w1.heap.size + 1 ≤ w2.heap.size; omega
  clear HY z0 z1 z2 b2 hb2 p0 p1 p2 p3 p4 p5 p6 Q2 Y0 Y1 Y2 OY; go_wp2_with fail; clear q0 q1 q2 q3 q4 q5 q6
  refine (uh Q3).mono ?_
  rintro e w3 ⟨m2, t2, rfl, o3, hb3⟩
  obtain ⟨a5, c5, rfl⟩ := g_shape o3.1
  obtain ⟨a6, c6, rfl⟩ := g_shape o3.2
  obtain ⟨Y3, hY3⟩ : ∃ Y3, Y3 = w3.alloc (.cells ([.string b.name, .int .i64 b.valid, .int .i64 b.next, .int .i64 b.mod, .slice a5 b.mails.length c5, .slice a6 b.tombs.length c6, .int .i64 b.hor] : List Value).toArray 50) := ⟨_, rfl⟩
  have y0 : HasObj Y3 w.heap.size 50 [.string b.name, .int .i64 b.valid, .int .i64 b.next, .int .i64 b.mod, .slice am b.mails.length cm, .slice at1 b.tombs.length ct1, .int .i64 b.hor] := by rw [hY3]; exact ((uh Z0).ups hb3).alloc _
  have y1 : HasObj Y3 (w.heap.size + 1) 50 [.string ⟨#[]⟩, .int .i64 0, .int .i64 0, .int .i64 0, .slice none 0 0, .slice none 0 0, .int .i64 0] := by rw [hY3]; exact ((uh Z1).ups hb3).alloc _
  have y2 : HasObj Y3 w1.heap.size 50 [.string b.name, .int .i64 b.valid, .int .i64 b.next, .int .i64 b.mod, .slice a3 b.mails.length c3, .slice a4 b.tombs.length c4, .int .i64 b.hor] := by rw [hY3]; exact ((uh Z2).ups hb3).alloc _
  have y3 : HasObj Y3 w3.heap.size 50 [.string b.name, .int .i64 b.valid, .int .i64 b.next, .int .i64 b.mod, .slice a5 b.mails.length c5, .slice a6 b.tombs.length c6, .int .i64 b.hor] := by rw [hY3]; exact HasObj.new _ _ _
  have hb33 : Below w3.heap.size w3 Y3 := by rw [hY3]; exact (Below.refl _ _).alloc (Nat.le_refl _) _
  have hbY3 : Below w.heap.size w Y3 := below_x (below_x (uh B2) hb3) hb33
  have s3 : w2.heap.size ≤ w3.heap.size := hb3.size
  have oY3 := o3.up hb33; have pY3 := ((uh O2).up hb3).up hb33; have base3 := OwnBx.base o3
  have S1' := uh S1
  have S2' := uh S2
  have ne0 : w.heap.size ≠ w3.heap.size := by omega
  have ne1 : w.heap.size + 1 ≠ w3.heap.size := by omega
  have ne2 : w1.heap.size ≠ w3.heap.size := by omega
  -- the two counts
  obtain ⟨Y4, hY4⟩ : ∃ Y4, Y4 = (Y3.setCell ⟨w3.heap.size, 3, none⟩ (.int .i64 (b.mod + 1))).setCell ⟨w3.heap.size, 2, none⟩ (.int .i64 (b.next + 1)) := ⟨_, rfl⟩
  have u0 := (y0.other (j := 3) ne0 (.int .i64 (b.mod + 1))).other (j := 2) ne0 (.int .i64 (b.next + 1)); have u1 := (y1.other (j := 3) ne1 (.int .i64 (b.mod + 1))).other (j := 2) ne1 (.int .i64 (b.next + 1)); have u2 := (y2.other (j := 3) ne2 (.int .i64 (b.mod + 1))).other (j := 2) ne2 (.int .i64 (b.next + 1)); have y3a := y3.set 3 (.int .i64 (b.mod + 1)); have u3 := y3a.set 2 (.int .i64 (b.next + 1))
  have r1 := y3a.row (j := 2) (by decide) (y3.row (j := 3) (by decide) oY3.1 (.int .i64 (b.mod + 1))) (.int .i64 (b.next + 1))
  have r2 := y3a.row (j := 2) (by decide) (y3.row (j := 3) (by decide) oY3.2 (.int .i64 (b.mod + 1))) (.int .i64 (b.next + 1))
  have r3 := y3a.row (j := 2) (by decide) (y3.row (j := 3) (by decide) pY3.1 (.int .i64 (b.mod + 1))) (.int .i64 (b.next + 1))
  have r4 := y3a.row (j := 2) (by decide) (y3.row (j := 3) (by decide) pY3.2 (.int .i64 (b.mod + 1))) (.int .i64 (b.next + 1))
  have l4 := (hbY3.setCell (p := ⟨w3.heap.size, 3, none⟩) (by show w.heap.size ≤ w3.heap.size; omega) (.int .i64 (b.mod + 1))).setCell (p := ⟨w3.heap.size, 2, none⟩) (by show w.heap.size ≤ w3.heap.size; omega) (.int .i64 (b.next + 1))
  have hs4 : Y4.heap.size = w3.heap.size + 1 := by rw [hY4, hY3]; simp
  have m2' := y0.cell 2 rfl
  have m3' := y0.cell 3 rfl
  have q2' := y3.cell 2 rfl
  have q3' := y3.cell 3 rfl
  have f2' := y3.frozen 2
  have f3' := y3.frozen 3
  rw [← hY4] at u0 u1 u2 u3 r1 r2 r3 r4 l4
  have p2' := u0.cell 2 rfl
  have o4' := u3.cell 4 rfl
  have o3' := u3.cell 3 rfl
  have wr1 : IntKind.i64.wrap (b.mod + 1) = b.mod + 1 := by rw [IntKind.wrap_i64]; omega
  have wr2 : IntKind.i64.wrap (b.next + 1) = b.next + 1 := by rw [IntKind.wrap_i64]; omega
  have HY3 := hY3.symm; have HY4 := hY4.symm
  -- the row under way, one mail more
  have hA : Below Y4.heap.size Y4 (Y4.alloc (.cells (mlC ⟨b.next, flags, b.mod + 1, text⟩).toArray 100)) := (Below.refl _ _).alloc (Nat.le_refl _) _
  have rA := g_stays r1 hA
  have nw : ∀ j u, (mlC ⟨b.next, flags, b.mod + 1, text⟩)[j]? = some u → (Y4.alloc (.cells (mlC ⟨b.next, flags, b.mod + 1, text⟩).toArray 100)).cell? ((⟨Y4.heap.size, 0, none⟩ : Addr).add j) = some u := fun j u hj => by
   rw [Addr.add_lit, Nat.zero_add]
   exact (HasObj.new Y4 100 (mlC ⟨b.next, flags, b.mod + 1, text⟩)).cell j hj
  have U0 := hide (g_stays0 u0 hA); have U1 := hide (g_stays0 u1 hA); have U2 := hide (g_stays0 u2 hA); have U3 := hide (g_stays0 u3 hA); have R2 := hide (g_stays r2 hA); have R3 := hide (g_stays r3 hA); have R4 := hide (g_stays r4 hA); have L4 := hide (l4.trans (hA.mono l4.size)); have RA := hide rA; have BS3 := hide base3; have N4 := hide hs4; have SS3 := hide s3
  have szA : Hid (w.heap.size ≤ (Y4.alloc (.cells (mlC ⟨b.next, flags, b.mod + 1, text⟩).toArray 100)).heap.size) := (l4.trans (hA.mono l4.size)).size
  clear y0 y1 y2 y3 y3a hb33 hbY3 s3 oY3 pY3 base3 u0 u1 u2 u3 r1 r2 r3 r4 l4 hs4 hY3 hY4 hA rA o3 hb3 Q3 O2
  go_wp2_with (at_builtin; refine wpList_append_own _ rfl _ _ 47 rfl w2.heap.size 100 i0 _ 4 40 Tryz.underlying47 hi hz0 hz1 hz2 rfl (by decide) _ _ _ rfl (uh RA) ⟨Y4.heap.size, 0, none⟩ 1 1 (mlC ⟨b.next, flags, b.mod + 1, text⟩) rfl rfl nw ?c2 ?c3 ?c4 ?c5 ?_)
  case c2 => intro u hu; simp [mlC] at hu; rcases hu with rfl | rfl | rfl | rfl <;> rfl
  case c3 => unfold maxLen; omega
  case c4 => omega
  case c5 => simp; have h1 := uh N4; have h2 := uh SS3; omega
  clear HY3 HY4 p2' o4' o3' m2' m3' q2' q3' f2' f3' nw
  intro v' w5 o5 hg5 _
  have ra := uh RA
  obtain ⟨g7, c7, rfl⟩ := ownsRow_succ o5
  have e0 := (uh U0).kept hg5 (fun e => (uh U0).not_row (by decide) ra e.symm)
  have e1 := (uh U1).kept hg5 (fun e => (uh U1).not_row (by decide) ra e.symm)
  have e2 := (uh U2).kept hg5 (fun e => (uh U2).not_row (by decide) ra e.symm)
  have e3 := (uh U3).kept hg5 (fun e => (uh U3).not_row (by decide) ra e.symm)
  have t5 := g_aside (uh R2) hg5 (fun k hk => rows_apart ra (uh R2) (by decide) k hk)
  have p5 := g_aside (uh R3) hg5 (fun k hk e => by have h1 := uh BS3 k (.inl hk); have h2 := uh BASE k (.inl e); omega)
  have p6 := g_aside (uh R4) hg5 (fun k hk => rows_apart ra (uh R4) (by decide) k hk)
  have l5 : Below w.heap.size w w5 := (uh L4).grown hg5 (uh szA) (fun k hk => by have h1 := uh BS3 k (.inl hk); omega)
  obtain ⟨Y6, hY6⟩ : ∃ Y6, Y6 = w5.setCell ⟨w3.heap.size, 4, none⟩ (.slice (some ⟨g7, 0, none⟩) (b.mails.length + 1) c7) := ⟨_, rfl⟩
  have x0 := e0.other (j := 4) ne0 (.slice (some ⟨g7, 0, none⟩) (b.mails.length + 1) c7)
  have x1 := e1.other (j := 4) ne1 (.slice (some ⟨g7, 0, none⟩) (b.mails.length + 1) c7)
  have x2 := e2.other (j := 4) ne2 (.slice (some ⟨g7, 0, none⟩) (b.mails.length + 1) c7)
  have x3 := e3.set 4 (.slice (some ⟨g7, 0, none⟩) (b.mails.length + 1) c7)
  have y5 := e3.row (j := 4) (by decide) o5 (.slice (some ⟨g7, 0, none⟩) (b.mails.length + 1) c7)
  have y6 := e3.row (j := 4) (by decide) t5 (.slice (some ⟨g7, 0, none⟩) (b.mails.length + 1) c7)
  have y7 := e3.row (j := 4) (by decide) p5 (.slice (some ⟨g7, 0, none⟩) (b.mails.length + 1) c7)
  have y8 := e3.row (j := 4) (by decide) p6 (.slice (some ⟨g7, 0, none⟩) (b.mails.length + 1) c7)
  have l6 := l5.setCell (p := ⟨w3.heap.size, 4, none⟩) (by show w.heap.size ≤ w3.heap.size; have := uh SS3; omega) (.slice (some ⟨g7, 0, none⟩) (b.mails.length + 1) c7)
  have d4 := e3.cell 4 rfl; have fz4 := e3.frozen 4
  rw [← hY6] at x0 x1 x2 x3 y5 y6 y7 y8 l6
  have OA : OwnBx w2.heap.size Y6 (.slice (some ⟨g7, 0, none⟩) (b.mails.length + 1) c7) (.slice a6 b.tombs.length c6) (added b flags text) := by
   refine ⟨?_, y6⟩
   show Y6.ownsRow _ _ _ _ (b.mails ++ [_]).length (rowC mlC (b.mails ++ [_]))
   rw [List.length_append, rowC_snoc]
   exact y5
  have FA : FitBx (added b flags text) := ⟨(uh HF).name, by show (b.mails ++ [_]).length ≤ _; rw [List.length_append]; simp; omega, fun x hx => by
   rcases List.mem_append.1 hx with hx | hx
   ·exact (uh HF).texts x hx
   ·simp at hx; subst hx; exact ht, (uh HF).tombs⟩
  have Q4 := spec_BoxOk_any (added b flags text) _ _ w2.heap.size Y6 FA OA; have HY6 := hY6.symm; have xx0 := x3.cell 0 rfl; have xx1 := x3.cell 1 rfl; have xx2 := x3.cell 2 rfl; have xx3 := x3.cell 3 rfl; have xx4 := x3.cell 4 rfl; have xx5 := x3.cell 5 rfl; have xx6 := x3.cell 6 rfl; have X0 := hide x0; have X1 := hide x1; have X2 := hide x2; have X3 := hide x3; have OA := hide OA
  have OP : Hid (OwnBx X.heap.size Y6 (.slice a3 b.mails.length c3) (.slice a4 b.tombs.length c4) b) := ⟨y7, y8⟩
  have L6 := hide l6; clear ra o5 hg5 e0 e1 e2 e3 t5 p5 p6 l5 hY6 x0 x1 x2 x3 y5 y6 y7 y8 l6 U0 U1 U2 U3 R2 R3 R4 L4 RA
  cases hq2 : boxOk (added b flags text) with
  | false =>
   rw [hq2] at Q4
   have Q4 := hide Q4; have V := hide (uh V2 hq2); clear hq2; go_wp2_with fail
   refine (uh Q4).mono ?_
   rintro e w7 ⟨rfl, hb7⟩
   have z1 := (uh X1).ups hb7; have z2 := (uh X2).ups hb7; have q0 := z2.cell 0 rfl; have q1 := z2.cell 1 rfl; have q2 := z2.cell 2 rfl; have q3 := z2.cell 3 rfl; have q4 := z2.cell 4 rfl; have q5 := z2.cell 5 rfl; have q6 := z2.cell 6 rfl; have e0 := z1.cell 0 rfl; have e1 := z1.cell 1 rfl; have e2 := z1.cell 2 rfl; have e3 := z1.cell 3 rfl; have e4 := z1.cell 4 rfl; have e5 := z1.cell 5 rfl; have e6 := z1.cell 6 rfl; have f0 := z1.frozen 0; have f1 := z1.frozen 1; have f2 := z1.frozen 2; have f3 := z1.frozen 3; have f4 := z1.frozen 4; have f5 := z1.frozen 5; have f6 := z1.frozen 6; have F := hide (fill7 z1 (.string b.name) (.int .i64 b.valid) (.int .i64 b.next) (.int .i64 b.mod) (.slice a3 b.mails.length c3) (.slice a4 b.tombs.length c4) (.int .i64 b.hor)); have O7 := hide ((uh OP).up hb7); have B7 := hide (below_x (uh L6) hb7); clear HY6 z1 z2 hb7 xx0 xx1 xx2 xx3 xx4 xx5 xx6 d4 fz4 Q4
   go_wp2
   obtain ⟨U, hU⟩ : ∃ U, U = (((((((w7.setCell ⟨w.heap.size + 1, 0, none⟩ (.string b.name)).setCell ⟨w.heap.size + 1, 1, none⟩ (.int .i64 b.valid)).setCell ⟨w.heap.size + 1, 2, none⟩ (.int .i64 b.next)).setCell ⟨w.heap.size + 1, 3, none⟩ (.int .i64 b.mod)).setCell ⟨w.heap.size + 1, 4, none⟩ (.slice a3 b.mails.length c3)).setCell ⟨w.heap.size + 1, 5, none⟩ (.slice a4 b.tombs.length c4)).setCell ⟨w.heap.size + 1, 6, none⟩ (.int .i64 b.hor)) := ⟨_, rfl⟩
   have F := uh F
   rw [← hU] at F ⊢
   have v0 := F.obj.cell 0 rfl; have v1 := F.obj.cell 1 rfl; have v2 := F.obj.cell 2 rfl; have v3 := F.obj.cell 3 rfl; have v4 := F.obj.cell 4 rfl; have v5 := F.obj.cell 5 rfl; have v6 := F.obj.cell 6 rfl
   refine bodyPost_ret (by simp [results, Tryz.results19, go_sem, v0, v1, v2, v3, v4, v5, v6]; try rfl) rfl ?_
   refine ⟨.slice a3 b.mails.length c3, .slice a4 b.tombs.length c4, by rw [uh V], ?_, F.below (by omega) (uh B7)⟩
   rw [uh V]
   exact OwnBx.based ⟨F.row (by decide) (uh O7).1, F.row (by decide) (uh O7).2⟩ (by have := uh SX; omega)
  | true =>
   rw [hq2] at Q4
   have Q4 := hide Q4; have V := hide (uh V3 (uh HQ1) hq2); clear hq2; go_wp2_with fail
   refine (uh Q4).mono ?_
   rintro e w7 ⟨rfl, hb7⟩
   have z0 := (uh X0).ups hb7; have z1 := (uh X1).ups hb7; have z3 := (uh X3).ups hb7; have q0 := z3.cell 0 rfl; have q1 := z3.cell 1 rfl; have q2 := z3.cell 2 rfl; have q3 := z3.cell 3 rfl; have q4 := z3.cell 4 rfl; have q5 := z3.cell 5 rfl; have q6 := z3.cell 6 rfl; have e0 := z1.cell 0 rfl; have e1 := z1.cell 1 rfl; have e2 := z1.cell 2 rfl; have e3 := z1.cell 3 rfl; have e4 := z1.cell 4 rfl; have e5 := z1.cell 5 rfl; have e6 := z1.cell 6 rfl; have f0 := z1.frozen 0; have f1 := z1.frozen 1; have f2 := z1.frozen 2; have f3 := z1.frozen 3; have f4 := z1.frozen 4; have f5 := z1.frozen 5; have f6 := z1.frozen 6; have k2 := z0.cell 2 rfl
   have F := hide (fill7 z1 (.string b.name) (.int .i64 b.valid) (.int .i64 (b.next + 1)) (.int .i64 (b.mod + 1)) (.slice (some ⟨g7, 0, none⟩) (b.mails.length + 1) c7) (.slice a6 b.tombs.length c6) (.int .i64 b.hor))
   have O7 := hide ((uh OA).up hb7); have B7 := hide (below_x (uh L6) hb7); clear HY6 z0 z1 z3 hb7 xx0 xx1 xx2 xx3 xx4 xx5 xx6 d4 fz4 Q4
   go_wp2
   go_region
   go_wp2
   obtain ⟨U, hU⟩ : ∃ U, U = (((((((w7.setCell ⟨w.heap.size + 1, 0, none⟩ (.string b.name)).setCell ⟨w.heap.size + 1, 1, none⟩ (.int .i64 b.valid)).setCell ⟨w.heap.size + 1, 2, none⟩ (.int .i64 (b.next + 1))).setCell ⟨w.heap.size + 1, 3, none⟩ (.int .i64 (b.mod + 1))).setCell ⟨w.heap.size + 1, 4, none⟩ (.slice (some ⟨g7, 0, none⟩) (b.mails.length + 1) c7)).setCell ⟨w.heap.size + 1, 5, none⟩ (.slice a6 b.tombs.length c6)).setCell ⟨w.heap.size + 1, 6, none⟩ (.int .i64 b.hor)) := ⟨_, rfl⟩
   have F := uh F
   rw [← hU] at F ⊢
   have FO : HasObj U.drew (w.heap.size + 1) 50 [.string b.name, .int .i64 b.valid, .int .i64 (b.next + 1), .int .i64 (b.mod + 1), .slice (some ⟨g7, 0, none⟩) (b.mails.length + 1) c7, .slice a6 b.tombs.length c6, .int .i64 b.hor] := F.obj
   have v0 := FO.cell 0 rfl; have v1 := FO.cell 1 rfl; have v2 := FO.cell 2 rfl; have v3 := FO.cell 3 rfl; have v4 := FO.cell 4 rfl; have v5 := FO.cell 5 rfl; have v6 := FO.cell 6 rfl
   refine bodyPost_ret (by simp [results, Tryz.results19, go_sem, v0, v1, v2, v3, v4, v5, v6]; try rfl) rfl ?_
   refine ⟨.slice (some ⟨g7, 0, none⟩) (b.mails.length + 1) c7, .slice a6 b.tombs.length c6, by rw [uh V]; rfl, ?_, (F.below (by omega) (uh B7)).drew⟩
   rw [uh V]
   have OU : OwnBx w2.heap.size U (.slice (some ⟨g7, 0, none⟩) (b.mails.length + 1) c7) (.slice a6 b.tombs.length c6) (added b flags text) := ⟨F.row (by decide) (uh O7).1, F.row (by decide) (uh O7).2⟩
   exact OwnBx.based (w := U.drew) ⟨OU.1, OU.2⟩ (by omega)
end Go.Proofs.YtlngjflhbkannaaGreat
