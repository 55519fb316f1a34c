/- The specification's l08Copy. Made by gen_boxcopy.py. -/
import Derived.Test.YtlngjflhbkannaaGreatBoxNameS
import Derived.Test.YtlngjflhbkannaaGreatRowsA
namespace Go.Proofs.YtlngjflhbkannaaGreat
open Go.RowKit
open Plain
set_option linter.unusedVariables false

namespace Plain
theorem mlC_one (l : List Ml) : ∀ x ∈ rowC mlC l, x.oneCell' = true := by
 intro x hx
 obtain ⟨a, _, ha⟩ := List.mem_flatMap.1 hx
 simp [mlC] at ha
 rcases ha with rfl | rfl | rfl | rfl <;> rfl
theorem tbC_one (l : List Tb) : ∀ x ∈ rowC tbC l, x.oneCell' = true := by
 intro x hx
 obtain ⟨a, _, ha⟩ := List.mem_flatMap.1 hx
 simp [tbC] at ha
 rcases ha with rfl | rfl <;> rfl
end Plain
set_option maxHeartbeats 4000000 in
set_option maxRecDepth 100000 in
theorem l08Copy_any (b : Bx) (m t : Value) (B : Nat) (w : World) (hl1 : b.mails.length ≤ 4000000) (hl2 : b.tombs.length ≤ 4000000) (h : OwnBx B w m t b) :
  Calls Tryz.prog 68 #[boxV b m t] w fun e w' => ∃ m' t', e = .returned (boxV b m' t') ∧ OwnBx w.heap.size w' m' t' b ∧ Below w.heap.size w w' := by
 obtain ⟨i0, hi, hz0, hz1, hz2⟩ := info_parts Tryz.infoMail
 obtain ⟨j0, hj, hy0, hy1, hy2⟩ := info_parts Tryz.infoTomb
 obtain ⟨am, cm, rfl⟩ := g_shape h.1
 obtain ⟨at1, ct1, rfl⟩ := g_shape h.2
 have n0 := HasObj.new w 50 [.string b.name, .int .i64 b.valid, .int .i64 b.next, .int .i64 b.mod, .slice am b.mails.length cm, .slice at1 b.tombs.length ct1, .int .i64 b.hor]
 have n1 := HasObj.new (w.alloc (.cells ([.string b.name, .int .i64 b.valid, .int .i64 b.next, .int .i64 b.mod, .slice am b.mails.length cm, .slice at1 b.tombs.length ct1, .int .i64 b.hor] : List Value).toArray 50)) 50 [.string ⟨#[]⟩, .int .i64 0, .int .i64 0, .int .i64 0, .slice none 0 0, .slice none 0 0, .int .i64 0]
 have n2 := HasObj.new ((w.alloc (.cells ([.string b.name, .int .i64 b.valid, .int .i64 b.next, .int .i64 b.mod, .slice am b.mails.length cm, .slice at1 b.tombs.length ct1, .int .i64 b.hor] : List Value).toArray 50)).alloc (.cells ([.string ⟨#[]⟩, .int .i64 0, .int .i64 0, .int .i64 0, .slice none 0 0, .slice none 0 0, .int .i64 0] : List Value).toArray 50)) 50 [.string b.name, .int .i64 b.valid, .int .i64 b.next, .int .i64 b.mod, .slice am b.mails.length cm, .slice at1 b.tombs.length ct1, .int .i64 b.hor]
 rw [World.size_alloc] at n1
 rw [World.size_alloc, World.size_alloc] at n2
 obtain ⟨X, hX⟩ : ∃ X, X = ((w.alloc (.cells ([.string b.name, .int .i64 b.valid, .int .i64 b.next, .int .i64 b.mod, .slice am b.mails.length cm, .slice at1 b.tombs.length ct1, .int .i64 b.hor] : List Value).toArray 50)).alloc (.cells ([.string ⟨#[]⟩, .int .i64 0, .int .i64 0, .int .i64 0, .slice none 0 0, .slice none 0 0, .int .i64 0] : List Value).toArray 50)).alloc (.cells ([.string b.name, .int .i64 b.valid, .int .i64 b.next, .int .i64 b.mod, .slice am b.mails.length cm, .slice at1 b.tombs.length ct1, .int .i64 b.hor] : List Value).toArray 50) := ⟨_, rfl⟩
 have x0 : HasObj X w.heap.size 50 [.string b.name, .int .i64 b.valid, .int .i64 b.next, .int .i64 b.mod, .slice am b.mails.length cm, .slice at1 b.tombs.length ct1, .int .i64 b.hor] := by rw [hX]; exact (n0.alloc _).alloc _
 have x1 : HasObj X (w.heap.size + 1) 50 [.string ⟨#[]⟩, .int .i64 0, .int .i64 0, .int .i64 0, .slice none 0 0, .slice none 0 0, .int .i64 0] := by rw [hX]; exact n1.alloc _
 have x2 : HasObj X (w.heap.size + 1 + 1) 50 [.string b.name, .int .i64 b.valid, .int .i64 b.next, .int .i64 b.mod, .slice am b.mails.length cm, .slice at1 b.tombs.length ct1, .int .i64 b.hor] := by rw [hX]; exact n2
 have hbX : Below w.heap.size w X := by rw [hX]; exact ((((Below.refl _ w).alloc (Nat.le_refl _) _).alloc (by simp) _).alloc (by simp; omega) _)
 have hsX : X.heap.size = w.heap.size + 3 := by rw [hX]; simp
 -- the first row
 obtain ⟨Y, hY⟩ : ∃ Y, Y = X.alloc (.cells #[] 100) := ⟨_, rfl⟩
 have y0 : HasObj Y w.heap.size 50 [.string b.name, .int .i64 b.valid, .int .i64 b.next, .int .i64 b.mod, .slice am b.mails.length cm, .slice at1 b.tombs.length ct1, .int .i64 b.hor] := by rw [hY]; exact x0.alloc _
 have y1 : HasObj Y (w.heap.size + 1) 50 [.string ⟨#[]⟩, .int .i64 0, .int .i64 0, .int .i64 0, .slice none 0 0, .slice none 0 0, .int .i64 0] := by rw [hY]; exact x1.alloc _
 have y2 : HasObj Y (w.heap.size + 1 + 1) 50 [.string b.name, .int .i64 b.valid, .int .i64 b.next, .int .i64 b.mod, .slice am b.mails.length cm, .slice at1 b.tombs.length ct1, .int .i64 b.hor] := by rw [hY]; exact x2.alloc _
 have hbY : Below w.heap.size w Y := by rw [hY]; exact hbX.alloc (by omega) _
 have hd : Y.ownsRow w.heap.size 100 4 (.slice (some ⟨X.heap.size, 0, none⟩) 0 0) 0 [] := by rw [hY]; exact g_based (World.ownsRow_lit X #[] 0 (Nat.le_refl _) (Nat.zero_le _) rfl) (by omega)
 have OB := hide h; have oY := h.up hbY; have HX := hX.symm; have HY := hY.symm; have k4 := y0.cell 4 rfl; have kx := (And.intro (x0.cell 0 rfl) (And.intro (x0.cell 1 rfl) (And.intro (x0.cell 2 rfl) (And.intro (x0.cell 3 rfl) (And.intro (x0.cell 4 rfl) (And.intro (x0.cell 5 rfl) (x0.cell 6 rfl)))))))
 obtain ⟨a0, a1, a2, a3, a4, a5, a6⟩ := kx
 have Y0 := hide y0; have Y1 := hide y1; have Y2 := hide y2; have BY := hide hbY; have SX := hide hsX; clear n0 n1 n2 x0 x1 x2 y0 y1 y2 hX hY hbX hbY h hsX
 go_enter Tryz.func68, Tryz.ntmps68
 go_wp2_with (at_builtin; refine wpList_append_rows rfl _ _ 47 rfl w.heap.size B 100 i0 _ 4 40 Tryz.underlying47 hi hz0 hz1 hz2 rfl (by decide) _ _ _ rfl hd _ _ _ rfl oY.1 (mlC_one _) ?c1 ?c2 ?c3 ?_)
 case c1 => unfold maxLen; omega
 case c2 => omega
 case c3 => exact (uh BY).size
 clear k4 HY HX a0 a1 a2 a3 a4 a5 a6 oY
 intro v' w1 o1 hg1
 have so := uh SX
 have z0 := (uh Y0).kept hg1 (by simp [Value.ownBlock]; omega)
 have z1 := (uh Y1).kept hg1 (by simp [Value.ownBlock]; omega)
 have z2 := (uh Y2).kept hg1 (by simp [Value.ownBlock]; omega)
 have hb1 : Below w.heap.size w w1 := (uh BY).grown hg1 (uh BY).size (fun j hj => by simp [Value.ownBlock] at hj; omega)
 obtain ⟨a3, c3, rfl⟩ := g_shape o1
 have ne02 : w.heap.size ≠ w.heap.size + 1 + 1 := by omega
 have ne12 : w.heap.size + 1 ≠ w.heap.size + 1 + 1 := by omega
 obtain ⟨V, hV⟩ : ∃ V, V = (w1.setCell ⟨w.heap.size + 1 + 1, 4, none⟩ (.slice a3 b.mails.length c3)).alloc (.cells #[] 117) := ⟨_, rfl⟩
 have q4 := z2.cell 4 rfl; have f4 := z2.frozen 4; have V0 := (z0.other (j := 4) ne02 (.slice a3 b.mails.length c3)).alloc (.cells #[] 117); have V1 := (z1.other (j := 4) ne12 (.slice a3 b.mails.length c3)).alloc (.cells #[] 117); have V2 := (z2.set 4 (.slice a3 b.mails.length c3)).alloc (.cells #[] 117)
 have hbS := hb1.setCell (p := ⟨w.heap.size + 1 + 1, 4, none⟩) (by show w.heap.size ≤ w.heap.size + 1 + 1; omega) (.slice a3 b.mails.length c3)
 have hbV := hbS.alloc (by simpa using hb1.size) (.cells #[] 117)
 have oV := g_stays (z2.row (j := 4) (by decide) o1 (.slice a3 b.mails.length c3)) ((Below.refl _ _).alloc (Nat.le_refl _) (.cells #[] 117))
 have hd2 : (((w1.setCell ⟨w.heap.size + 1 + 1, 4, none⟩ (.slice a3 b.mails.length c3)).alloc (.cells #[] 117))).ownsRow w.heap.size 117 2 (.slice (some ⟨w1.heap.size, 0, none⟩) 0 0) 0 [] := by
  have := World.ownsRow_lit (size := 2) (e := 117) (w1.setCell ⟨w.heap.size + 1 + 1, 4, none⟩ (.slice a3 b.mails.length c3)) #[] 0 (Nat.le_refl _) (Nat.zero_le _) rfl
  rw [show (w1.setCell ⟨w.heap.size + 1 + 1, 4, none⟩ (.slice a3 b.mails.length c3)).heap.size = w1.heap.size by simp] at this
  exact g_based this hb1.size
 rw [← hV] at V0 V1 V2 hbV oV hd2
 have oT := ((uh OB).up hbV).2; have HV := hV.symm; have k5 := V0.cell 5 rfl; have sz1 := hide hb1.size; have V0 := hide V0; have V1 := hide V1; have V2 := hide V2; have BV := hide hbV; have OV := hide oV
 have lt1 : Hid (w.heap.size + 3 ≤ w1.heap.size) := by have h1 := hg1.size; have h2 := (uh Y2).lt; show w.heap.size + 3 ≤ w1.heap.size; omega
 clear z0 z1 z2 hb1 o1 hg1 hV hbS hbV oV so hd
 go_wp2_with (at_builtin; refine wpList_append_rows rfl _ _ 48 rfl w.heap.size B 117 j0 _ 2 16 Tryz.underlying48 hj hy0 hy1 hy2 rfl (by decide) _ _ _ rfl hd2 _ _ _ rfl oT (tbC_one _) ?c1 ?c2 ?c3 ?_)
 case c1 => unfold maxLen; omega
 case c2 => omega
 case c3 => exact (uh BV).size
 clear k5 HV q4 f4 oT
 intro v2 w2 o2 hg2
 have l1 := uh lt1
 have s0 := (uh V0).kept hg2 (by simp [Value.ownBlock]; omega)
 have s1 := (uh V1).kept hg2 (by simp [Value.ownBlock]; omega)
 have s2 := (uh V2).kept hg2 (by simp [Value.ownBlock]; omega)
 have hb2 : Below w.heap.size w w2 := (uh BV).grown hg2 (uh BV).size (fun j hj => by simp [Value.ownBlock] at hj; omega)
 have om2 := g_aside (uh OV) hg2 (fun k hk e => by
  have h1 : w1.heap.size = k := Option.some.inj hk
  rcases (uh OV).2 with ⟨h2, _⟩ | ⟨g1, _, _, h2, _, hh1, _⟩
  ·rw [h2] at e; cases e
  ·rw [h2] at e
   have e2 : g1 = k := Option.some.inj e
   rcases hd2.2 with ⟨h3, _⟩ | ⟨g2, _, _, h3, _, hh2, _⟩
   ·cases h3
   ·have e3 : w1.heap.size = g2 := Option.some.inj (congrArg Value.ownBlock h3)
    rw [← e3, h1, ← e2, hh1] at hh2
    simp at hh2)
 obtain ⟨a4, c4, rfl⟩ := g_shape o2
 have d0 := s2.cell 0 rfl; have d1 := s2.cell 1 rfl; have d2 := s2.cell 2 rfl; have d3 := s2.cell 3 rfl; have d4 := s2.cell 4 rfl; have d5 := s2.cell 5 rfl; have d6 := s2.cell 6 rfl; have g5 := s2.frozen 5; have e0 := s1.cell 0 rfl; have e1 := s1.cell 1 rfl; have e2 := s1.cell 2 rfl; have e3 := s1.cell 3 rfl; have e4 := s1.cell 4 rfl; have e5 := s1.cell 5 rfl; have e6 := s1.cell 6 rfl; have h0 := s1.frozen 0; have h1 := s1.frozen 1; have h2 := s1.frozen 2; have h3 := s1.frozen 3; have h4 := s1.frozen 4; have h5 := s1.frozen 5; have h6 := s1.frozen 6; have r0 := s1.other (j := 5) ne12 (.slice a4 b.tombs.length c4); have t2 := s2.set 5 (.slice a4 b.tombs.length c4)
 have m0 := s2.row (j := 5) (by decide) om2 (.slice a4 b.tombs.length c4)
 have u0 := s2.row (j := 5) (by decide) o2 (.slice a4 b.tombs.length c4)
 have l0 := hb2.setCell (p := ⟨w.heap.size + 1 + 1, 5, none⟩) (by show w.heap.size ≤ w.heap.size + 1 + 1; omega) (.slice a4 b.tombs.length c4)
 have R0 := hide r0; have M0 := hide m0; have T0 := hide u0; have L0 := hide l0; clear s0 s1 s2 hb2 om2 o2 hg2 l1 r0 t2 m0 u0 l0 hd2
 go_wp2
 obtain ⟨Z, hZ⟩ : ∃ Z, Z = w2.setCell ⟨w.heap.size + 1 + 1, 5, none⟩ (.slice a4 b.tombs.length c4) := ⟨_, rfl⟩
 have R0 := uh R0; have M0 := uh M0; have T0 := uh T0; have L0 := uh L0
 rw [← hZ] at R0 M0 T0 L0 ⊢
 have R1 := R0.set 0 (.string b.name)
 have M1 := R0.row (j := 0) (by decide) M0 (.string b.name)
 have T1 := R0.row (j := 0) (by decide) T0 (.string b.name)
 have L1 := L0.setCell (p := ⟨w.heap.size + 1, 0, none⟩) (by show w.heap.size ≤ w.heap.size + 1; omega) (.string b.name)
 have R2 := R1.set 1 (.int .i64 b.valid)
 have M2 := R1.row (j := 1) (by decide) M1 (.int .i64 b.valid)
 have T2 := R1.row (j := 1) (by decide) T1 (.int .i64 b.valid)
 have L2 := L1.setCell (p := ⟨w.heap.size + 1, 1, none⟩) (by show w.heap.size ≤ w.heap.size + 1; omega) (.int .i64 b.valid)
 have R3 := R2.set 2 (.int .i64 b.next)
 have M3 := R2.row (j := 2) (by decide) M2 (.int .i64 b.next)
 have T3 := R2.row (j := 2) (by decide) T2 (.int .i64 b.next)
 have L3 := L2.setCell (p := ⟨w.heap.size + 1, 2, none⟩) (by show w.heap.size ≤ w.heap.size + 1; omega) (.int .i64 b.next)
 have R4 := R3.set 3 (.int .i64 b.mod)
 have M4 := R3.row (j := 3) (by decide) M3 (.int .i64 b.mod)
 have T4 := R3.row (j := 3) (by decide) T3 (.int .i64 b.mod)
 have L4 := L3.setCell (p := ⟨w.heap.size + 1, 3, none⟩) (by show w.heap.size ≤ w.heap.size + 1; omega) (.int .i64 b.mod)
 have R5 := R4.set 4 (.slice a3 b.mails.length c3)
 have M5 := R4.row (j := 4) (by decide) M4 (.slice a3 b.mails.length c3)
 have T5 := R4.row (j := 4) (by decide) T4 (.slice a3 b.mails.length c3)
 have L5 := L4.setCell (p := ⟨w.heap.size + 1, 4, none⟩) (by show w.heap.size ≤ w.heap.size + 1; omega) (.slice a3 b.mails.length c3)
 have R6 := R5.set 5 (.slice a4 b.tombs.length c4)
 have M6 := R5.row (j := 5) (by decide) M5 (.slice a4 b.tombs.length c4)
 have T6 := R5.row (j := 5) (by decide) T5 (.slice a4 b.tombs.length c4)
 have L6 := L5.setCell (p := ⟨w.heap.size + 1, 5, none⟩) (by show w.heap.size ≤ w.heap.size + 1; omega) (.slice a4 b.tombs.length c4)
 have R7 := R6.set 6 (.int .i64 b.hor)
 have M7 := R6.row (j := 6) (by decide) M6 (.int .i64 b.hor)
 have T7 := R6.row (j := 6) (by decide) T6 (.int .i64 b.hor)
 have L7 := L6.setCell (p := ⟨w.heap.size + 1, 6, none⟩) (by show w.heap.size ≤ w.heap.size + 1; omega) (.int .i64 b.hor)
 obtain ⟨U, hU⟩ : ∃ U, U = (((((((Z.setCell ⟨w.heap.size + 1, 0, none⟩ (.string b.name)).setCell ⟨w.heap.size + 1, 1, none⟩ (.int .i64 b.valid)).setCell ⟨w.heap.size + 1, 2, none⟩ (.int .i64 b.next)).setCell ⟨w.heap.size + 1, 3, none⟩ (.int .i64 b.mod)).setCell ⟨w.heap.size + 1, 4, none⟩ (.slice a3 b.mails.length c3)).setCell ⟨w.heap.size + 1, 5, none⟩ (.slice a4 b.tombs.length c4)).setCell ⟨w.heap.size + 1, 6, none⟩ (.int .i64 b.hor)) := ⟨_, rfl⟩
 rw [← hU] at R7 M7 T7 L7 ⊢
 have v0 := R7.cell 0 rfl; have v1 := R7.cell 1 rfl; have v2 := R7.cell 2 rfl; have v3 := R7.cell 3 rfl; have v4 := R7.cell 4 rfl; have v5 := R7.cell 5 rfl; have v6 := R7.cell 6 rfl
 refine bodyPost_ret (by simp [results, Tryz.results68, go_sem, v0, v1, v2, v3, v4, v5, v6]; try rfl) rfl ?_
 exact ⟨_, _, rfl, ⟨M7, T7⟩, L7⟩
end Go.Proofs.YtlngjflhbkannaaGreat
