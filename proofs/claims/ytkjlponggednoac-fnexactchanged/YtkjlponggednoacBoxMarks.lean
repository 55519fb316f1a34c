/- Boxes: sizes, sameness, marks; a box that came in, opened. Made by gen_boxmarks.py. -/
import Derived.Test.YtkjlponggednoacBoxVal
namespace Go.Proofs.Ytkjlponggednoac
open Go.RowKit Go.ChangeShapes Go.WideShapes Go.ChangeAt Go.Deep
open Plain
set_option linter.unusedVariables false
set_option linter.unusedSimpArgs false

set_option maxHeartbeats 4000000 in
set_option maxRecDepth 100000 in
theorem szBox_any (b : Bx) (a1 a2 : Option Addr) (c1 c2 : Nat) (w : World) (h : ArgBx w.heap.size w a1 a2 b) :
    Calls Try.prog 6 #[.agg #[.string b.name, .int .i64 b.valid, .int .i64 b.next, .int .i64 b.mod, .slice a1 b.mails.length c1, .slice a2 b.tombs.length c2, .int .i64 b.hor], .int .i64 1048576] w fun e w' => (∃ m : Int, e = .returned (.int .i64 m) ∧ (m = -1 ∨ ∃ q : Nat, m = (q : Int) ∧ q ≤ 1048576 ∧ SmallBx 1048576 b)) ∧ Below w.heap.size w w' := by
  have hn := h.name
  have hm2 := h.m2
  unfold maxLen at hn
  by_cases h1 : b.name.size ≤ 1048576
  · obtain ⟨L, hL⟩ : ∃ L, L = 1048576 - b.name.size := ⟨_, rfl⟩
    have e0 : (1048576 : Int) - (b.name.size : Int) = (L : Int) := by omega
    have hL2 : L ≤ 1048576 := by omega
    obtain ⟨X, hX⟩ : ∃ X, X = w.alloc (.cells ([.string b.name, .int .i64 b.valid, .int .i64 b.next, .int .i64 b.mod, .slice a1 b.mails.length c1, .slice a2 b.tombs.length c2, .int .i64 b.hor] : List Value).toArray 25) := ⟨_, rfl⟩
    have x0 : HasObj X w.heap.size 25 [.string b.name, .int .i64 b.valid, .int .i64 b.next, .int .i64 b.mod, .slice a1 b.mails.length c1, .slice a2 b.tombs.length c2, .int .i64 b.hor] := by rw [hX]; exact HasObj.new _ _ _
    have hbX : Below w.heap.size w X := by rw [hX]; exact (Below.refl _ _).alloc (Nat.le_refl _) _
    have hA := h.up hbX
    have HM := hide (szMailS_any a1 c1 L b.mails X hL2 hA.m1 hA.mails)
    have HA := hide h
    have k0 := x0.cell 0 rfl
    have k4 := x0.cell 4 rfl
    have X0 := hide x0
    have BX := hide hbX
    have HX := hX.symm
    have i1 : ¬ (L : Int) < 0 := by omega
    clear h hX x0 hbX hA hL
    go_enter Try.func6, Try.ntmps6
    go_wp2_with fail
    refine (unhide HM).mono ?_
    rintro e w1 ⟨⟨m, rfl, hmm⟩, hb1⟩
    have B1 := hide ((unhide BX).trans (hb1.mono (unhide BX).size))
    have y0 := (unhide X0).ups hb1
    have k5 := y0.cell 5 rfl
    clear hb1 HX k0 k4
    rcases hmm with rfl | ⟨q1, rfl, hq1, hs1⟩
    · go_wp2
      go_ret
      exact ⟨⟨_, rfl, .inl rfl⟩, unhide B1⟩
    · have HT := hide (szTombS_any a2 c2 b.tombs.length q1 w1 (by omega) hm2)
      have i2 : ¬ (q1 : Int) < 0 := by omega
      go_wp2_with fail
      refine (unhide HT).mono ?_
      rintro e w2 ⟨⟨m2, rfl, hmm2⟩, hw⟩
      subst w2
      rcases hmm2 with rfl | ⟨q2, rfl, hq2, hs2⟩
      · go_wp2
        go_ret
        exact ⟨⟨_, rfl, .inl rfl⟩, unhide B1⟩
      · have i3 : ¬ (q2 : Int) < 0 := by omega
        go_wp2
        go_ret
        exact ⟨⟨_, rfl, .inr ⟨q2, rfl, by omega, ⟨h1, ⟨by have := hs1.1; omega, fun x hx => by have := hs1.2 x hx; omega⟩, by omega⟩⟩⟩, unhide B1⟩
  · have e0 : (1048576 : Int) - (b.name.size : Int) < 0 := by omega
    go_enter Try.func6, Try.ntmps6
    go_wp2
    go_ret
    exact ⟨⟨_, rfl, .inl rfl⟩, (Below.refl _ _).alloc (Nat.le_refl _) _⟩

set_option maxHeartbeats 4000000 in
set_option maxRecDepth 100000 in
theorem eqBox_same (b : Bx) (m1 t1 m2 t2 : Value) (B1 B2 : Nat) (w : World) (hs1 : b.mails.length ≤ 1048576) (hs2 : b.tombs.length ≤ 1048576) (h1 : OwnBx B1 w m1 t1 b) (h2 : OwnBx B2 w m2 t2 b) :
    Calls Try.prog 11 #[boxV b m1 t1, boxV b m2 t2] w fun e w' => e = .returned (.bool true) ∧ Below w.heap.size w w' := by
  obtain ⟨am, cm, rfl⟩ := g_shape h1.1
  obtain ⟨at1, ct1, rfl⟩ := g_shape h1.2
  obtain ⟨am2, cm2, rfl⟩ := g_shape h2.1
  obtain ⟨at2, ct2, rfl⟩ := g_shape h2.2
  have n0 := HasObj.new w 31 [.string b.name, .int .i64 b.valid, .int .i64 b.next, .int .i64 b.mod, .slice am b.mails.length cm, .slice at1 b.tombs.length ct1, .int .i64 b.hor]
  have n1 := HasObj.new (w.alloc (.cells ([.string b.name, .int .i64 b.valid, .int .i64 b.next, .int .i64 b.mod, .slice am b.mails.length cm, .slice at1 b.tombs.length ct1, .int .i64 b.hor] : List Value).toArray 31)) 31 [.string b.name, .int .i64 b.valid, .int .i64 b.next, .int .i64 b.mod, .slice am2 b.mails.length cm2, .slice at2 b.tombs.length ct2, .int .i64 b.hor]
  rw [World.size_alloc] at n1
  obtain ⟨X, hX⟩ : ∃ X, X = (w.alloc (.cells ([.string b.name, .int .i64 b.valid, .int .i64 b.next, .int .i64 b.mod, .slice am b.mails.length cm, .slice at1 b.tombs.length ct1, .int .i64 b.hor] : List Value).toArray 31)).alloc (.cells ([.string b.name, .int .i64 b.valid, .int .i64 b.next, .int .i64 b.mod, .slice am2 b.mails.length cm2, .slice at2 b.tombs.length ct2, .int .i64 b.hor] : List Value).toArray 31) := ⟨_, rfl⟩
  have x0 : HasObj X w.heap.size 31 [.string b.name, .int .i64 b.valid, .int .i64 b.next, .int .i64 b.mod, .slice am b.mails.length cm, .slice at1 b.tombs.length ct1, .int .i64 b.hor] := by rw [hX]; exact n0.alloc _
  have x1 : HasObj X (w.heap.size + 1) 31 [.string b.name, .int .i64 b.valid, .int .i64 b.next, .int .i64 b.mod, .slice am2 b.mails.length cm2, .slice at2 b.tombs.length ct2, .int .i64 b.hor] := by rw [hX]; exact n1
  have hbX : Below w.heap.size w X := by rw [hX]; exact ((Below.refl _ _).alloc (Nat.le_refl _) _).alloc (by simp) _
  have HM := hide (eqMailS_same b.mails _ _ B1 B2 X hs1 (h1.up hbX).1 (h2.up hbX).1)
  have O1 := hide (h1.up hbX)
  have O2 := hide (h2.up hbX)
  have p0 := x0.cell 0 rfl
  have q0 := x1.cell 0 rfl
  have p1 := x0.cell 1 rfl
  have q1 := x1.cell 1 rfl
  have p2 := x0.cell 2 rfl
  have q2 := x1.cell 2 rfl
  have p3 := x0.cell 3 rfl
  have q3 := x1.cell 3 rfl
  have p4 := x0.cell 4 rfl
  have q4 := x1.cell 4 rfl

  have X0 := hide x0
  have X1 := hide x1
  have BX := hide hbX
  have HX := hX.symm
  clear n0 n1 x0 x1 hbX hX h1 h2
  go_enter Try.func11, Try.ntmps11
  go_wp2_with fail
  refine (unhide HM).mono ?_
  rintro e w1 ⟨rfl, hb1⟩
  have y0 := (unhide X0).ups hb1
  have y1 := (unhide X1).ups hb1
  have r5 := y0.cell 5 rfl
  have s5 := y1.cell 5 rfl
  have HT := hide (eqTombS_same b.tombs _ _ B1 B2 w1 hs2 ((unhide O1).up hb1).2 ((unhide O2).up hb1).2)
  have B1' := hide ((unhide BX).trans (hb1.mono (unhide BX).size))
  have Y0 := hide y0
  have Y1 := hide y1
  clear y0 y1 hb1 HX p0 q0 p1 q1 p2 q2 p3 q3 p4 q4
  go_wp2_with fail
  refine (unhide HT).mono ?_
  rintro e w2 ⟨rfl, hb2⟩
  have r6 := ((unhide Y0).ups hb2).cell 6 rfl
  have s6 := ((unhide Y1).ups hb2).cell 6 rfl
  have B2' := hide ((unhide B1').trans (hb2.mono (unhide B1').size))
  clear hb2 r5 s5
  go_wp2
  go_ret
  exact ⟨rfl, unhide B2'⟩

/-- The marks of a box's rows. -/
def markBx (k0 : Nat) (b : Bx) : Bx := { b with mails := marksK mkMl 4 k0 b.mails.length, tombs := marksK mkTb 2 (k0 + b.mails.length * 4) b.tombs.length }
set_option maxHeartbeats 4000000 in
set_option maxRecDepth 100000 in
theorem markBox_any (b : Bx) (m t : Value) (B k0 : Nat) (w : World) (hs1 : b.mails.length ≤ 1048576) (hs2 : b.tombs.length ≤ 1048576) (hk0 : 1 ≤ k0) (hk1 : k0 ≤ 10000000) (h : OwnBx B w m t b) :
    Calls Try.prog 12 #[boxV b m t, .int .i64 (k0 : Int)] w fun e w' => e = .returned (.int .i64 ((k0 + b.mails.length * 4 + b.tombs.length * 2 : Nat) : Int)) ∧ OwnBx B w' m t (markBx k0 b) ∧ GrownBut w w' (fun g => m.ownBlock = some g ∨ t.ownBlock = some g) := by
  obtain ⟨am, cm, rfl⟩ := g_shape h.1
  obtain ⟨at1, ct1, rfl⟩ := g_shape h.2
  obtain ⟨X, hX⟩ : ∃ X, X = w.alloc (.cells ([.string b.name, .int .i64 b.valid, .int .i64 b.next, .int .i64 b.mod, .slice am b.mails.length cm, .slice at1 b.tombs.length ct1, .int .i64 b.hor] : List Value).toArray 31) := ⟨_, rfl⟩
  have x0 : HasObj X w.heap.size 31 [.string b.name, .int .i64 b.valid, .int .i64 b.next, .int .i64 b.mod, .slice am b.mails.length cm, .slice at1 b.tombs.length ct1, .int .i64 b.hor] := by rw [hX]; exact HasObj.new _ _ _
  have hbX : Below w.heap.size w X := by rw [hX]; exact (Below.refl _ _).alloc (Nat.le_refl _) _
  have hO := h.up hbX
  have HM := hide (markMailS_any b.mails _ B k0 X hs1 hk0 (by omega) hO.1)
  have GX : Hid (GrownBut w X (fun _ => False)) := GrownBut.below hbX rfl
  have k4 := x0.cell 4 rfl
  have X0 := hide x0
  have HO := hide hO
  have HX := hX.symm
  clear hX x0 hbX h hO
  go_enter Try.func12, Try.ntmps12
  go_wp2_with fail
  refine (unhide HM).mono ?_
  rintro e w1 ⟨rfl, om, hg1⟩
  have y0 := (unhide X0).kept hg1 (fun e => (unhide X0).not_row (by decide) (unhide HO).1 e.symm)
  have ot : OwnTb B w1 _ b.tombs := (unhide HO).2.aside hg1 (fun k hk e => by
    rcases (unhide HO).1.2 with ⟨h1, _⟩ | ⟨g1, _, _, h1, _, hh1, _⟩
    · rw [h1] at hk; cases hk
    · rcases (unhide HO).2.2 with ⟨h2, _⟩ | ⟨g2, _, _, h2, _, hh2, _⟩
      · rw [h2] at e; cases e
      · rw [h1] at hk
        rw [h2] at e
        cases hk
        cases e
        rw [hh1] at hh2
        simp at hh2)
  have HT := hide (markTombS_any b.tombs _ B (k0 + b.mails.length * 4) w1 hs2 (by omega) (by omega) ot)
  have G1 := hide ((unhide GX).then (GrownBut.of hg1))
  have k5 := y0.cell 5 rfl
  have OM := hide om
  have OT := hide ot
  have N1 : ((k0 + b.mails.length * 4 : Nat) : Int) = (k0 : Int) + (b.mails.length : Int) * 4 := by omega
  rw [N1] at HT
  clear om ot hg1 y0 HX k4
  go_wp2_with fail
  try rw [N1]
  refine (unhide HT).mono ?_
  rintro e w2 ⟨rfl, ot2, hg2⟩
  have om2 : OwnMl B w2 _ (marksK mkMl 4 k0 b.mails.length) := (unhide OM).aside hg2 (fun k hk e => by
    rcases (unhide OM).2 with ⟨h1, _⟩ | ⟨g1, _, _, h1, _, hh1, _⟩
    · rw [h1] at e; cases e
    · rcases (unhide OT).2 with ⟨h2, _⟩ | ⟨g2, _, _, h2, _, hh2, _⟩
      · rw [h2] at hk; cases hk
      · rw [h1] at e
        rw [h2] at hk
        cases hk
        cases e
        rw [hh1] at hh2
        simp at hh2)
  have OZ : Hid (OwnBx B w2 (.slice am b.mails.length cm) (.slice at1 b.tombs.length ct1) (markBx k0 b)) := ⟨om2, ot2⟩
  have GZ : Hid (GrownBut w w2 (fun g => Value.ownBlock (.slice am b.mails.length cm) = some g ∨ Value.ownBlock (.slice at1 b.tombs.length ct1) = some g)) :=
    ((unhide G1).then (GrownBut.of hg2)).mono (fun k _ hk => by
      rcases hk with (h | h) | h
      · exact h.elim
      · exact .inl h
      · exact .inr h)
  clear om2 ot2 hg2 k5
  go_wp2
  go_ret
  exact ⟨rfl, unhide OZ, unhide GZ⟩

set_option maxHeartbeats 4000000 in
set_option maxRecDepth 100000 in
theorem heldBox_any (b : Bx) (m t : Value) (B k0 : Nat) (w : World) (hs1 : b.mails.length ≤ 1048576) (hs2 : b.tombs.length ≤ 1048576) (hk0 : 1 ≤ k0) (hk1 : k0 ≤ 10000000) (h : OwnBx B w m t (markBx k0 b)) :
    Calls Try.prog 22 #[boxV b m t, .int .i64 (k0 : Int)] w fun e w' => e = .returned (.int .i64 ((k0 + b.mails.length * 4 + b.tombs.length * 2 : Nat) : Int)) ∧ Below w.heap.size w w' := by
  have hm : OwnMl B w m (marksK mkMl 4 k0 b.mails.length) := h.1
  have ht : OwnTb B w t (marksK mkTb 2 (k0 + b.mails.length * 4) b.tombs.length) := h.2
  obtain ⟨am, cm, em⟩ := g_shape hm
  obtain ⟨at1, ct1, et⟩ := g_shape ht
  rw [marksK_len] at em et
  subst em et
  obtain ⟨X, hX⟩ : ∃ X, X = w.alloc (.cells ([.string b.name, .int .i64 b.valid, .int .i64 b.next, .int .i64 b.mod, .slice am b.mails.length cm, .slice at1 b.tombs.length ct1, .int .i64 b.hor] : List Value).toArray 31) := ⟨_, rfl⟩
  have x0 : HasObj X w.heap.size 31 [.string b.name, .int .i64 b.valid, .int .i64 b.next, .int .i64 b.mod, .slice am b.mails.length cm, .slice at1 b.tombs.length ct1, .int .i64 b.hor] := by rw [hX]; exact HasObj.new _ _ _
  have hbX : Below w.heap.size w X := by rw [hX]; exact (Below.refl _ _).alloc (Nat.le_refl _) _
  have HM := hide (heldMailS_any b.mails.length _ B k0 X hs1 hk0 (by omega) (OwnMl.up hm hbX))
  have OT := hide (OwnTb.up ht hbX)
  have k4 := x0.cell 4 rfl
  have X0 := hide x0
  have BX := hide hbX
  have HX := hX.symm
  clear hX x0 hbX h hm ht
  go_enter Try.func22, Try.ntmps22
  go_wp2_with fail
  refine (unhide HM).mono ?_
  rintro e w1 ⟨rfl, hb1⟩
  have HT := hide (heldTombS_any b.tombs.length _ B (k0 + b.mails.length * 4) w1 hs2 (by omega) (by omega) (OwnTb.up (unhide OT) hb1))
  have k5 := ((unhide X0).ups hb1).cell 5 rfl
  have B1 := hide ((unhide BX).trans (hb1.mono (unhide BX).size))
  have N1 : ((k0 + b.mails.length * 4 : Nat) : Int) = (k0 : Int) + (b.mails.length : Int) * 4 := by omega
  rw [N1] at HT
  have i1 : ¬ (k0 : Int) + (b.mails.length : Int) * 4 < 0 := by omega
  clear hb1 HX k4
  go_wp2_with fail
  try rw [N1]
  refine (unhide HT).mono ?_
  rintro e w2 ⟨rfl, hb2⟩
  have B2 := hide ((unhide B1).trans (hb2.mono (unhide B1).size))
  have i2 : ¬ (k0 : Int) + (b.mails.length : Int) * 4 + (b.tombs.length : Int) * 2 < 0 := by omega
  clear hb2 k5
  go_wp2
  go_ret
  exact ⟨rfl, unhide B2⟩

theorem Try.cellsLBox : Try.prog.cellsOf 25 = 7 := by kernel_rfl
theorem Try.cellsLMailS : Try.prog.cellsOf 22 = 1 := by kernel_rfl
theorem Try.cellsLTombS : Try.prog.cellsOf 23 = 1 := by kernel_rfl
set_option maxRecDepth 100000 in
theorem open_box {H : Type} {enc : TypeId × Value → H} {W : World} {base : Nat} {v : Value} {d : DataW H} {ps : List MemPlace} (hval : Value.okWide Try.prog W .any base 25 v)
    (h : DataW.Trod enc Try.prog W 0 (fun _ => true) true 25 v d ps) :
    ∃ (b : Bx) (a1 a2 : Option Addr) (c1 c2 : Nat), v = .agg #[.string b.name, .int .i64 b.valid, .int .i64 b.next, .int .i64 b.mod, .slice a1 b.mails.length c1, .slice a2 b.tombs.length c2, .int .i64 b.hor] ∧ ArgBx W.heap.size W a1 a2 b := by
  obtain ⟨cs, rfl, hsz⟩ := okWide_struct Try.underlying25 hval
  obtain ⟨fuel, hf⟩ := h
  obtain ⟨xs, n, _, _, hl, hlen, hfld⟩ := DataW.trod_struct Try.underlying25 hf
  have h0 := hfld 0 _ rfl
  have h1 := hfld 1 _ rfl
  have h2 := hfld 2 _ rfl
  have h3 := hfld 3 _ rfl
  have h4 := hfld 4 _ rfl
  have h5 := hfld 5 _ rfl
  have h6 := hfld 6 _ rfl
  rw [Try.cellsLBox] at hsz
  obtain ⟨l0⟩ := cs
  match l0, hsz, xs, hlen with
  | [u0, u1, u2, u3, u4, u5, u6], _, [y0, y1, y2, y3, y4, y5, y6], _ =>
    obtain ⟨k0, e0, _, z0⟩ := DataW.trod_string Try.underlying9 h0
    obtain ⟨k1, e1, _, z1⟩ := DataW.trod_int Try.underlying3 h1
    obtain ⟨k2, e2, _, z2⟩ := DataW.trod_int Try.underlying3 h2
    obtain ⟨k3, e3, _, z3⟩ := DataW.trod_int Try.underlying3 h3
    obtain ⟨a1, c1, l1, e4, m1, A1⟩ := open_ml h4
    obtain ⟨a2, c2, l2, e5, m2, A2⟩ := open_tb h5
    obtain ⟨k6, e6, _, z6⟩ := DataW.trod_int Try.underlying3 h6
    simp [Value.cells, Try.cellsMailStr] at e0
    simp [Value.cells, Try.cellsMailInt] at e1 e2 e3 e6
    simp [Value.cells, Try.cellsLMailS] at e4
    simp [Value.cells, Try.cellsLTombS] at e5
    subst e0 e1 e2 e3 e4 e5 e6
    exact ⟨⟨k0, k1, k2, k3, l1, l2, k6⟩, a1, a2, c1, c2, rfl, ⟨z0, m1, m2, A1, A2⟩⟩
end Go.Proofs.Ytkjlponggednoac
