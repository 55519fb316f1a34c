/- The specification's ForgetTombs. Made by gen_forget.py. -/
import Derived.Test.YtlngjflhbkannaaGreatTv
import Derived.Test.YtlngjflhbkannaaGreatBoxOkS
import Derived.Test.YtlngjflhbkannaaGreatBoxCopyS
import Derived.Test.YtlngjflhbkannaaGreatRowsA
import Derived.Test.YtlngjflhbkannaaGreatRegA
import Derived.Deep.AppendLies
namespace Go.Proofs.YtlngjflhbkannaaGreat
open Go.RowKit
open Plain
set_option linter.unusedVariables false
set_option linter.unusedSimpArgs false

theorem below_z {w W W' : World} (h : Below w.heap.size w W) (hb : Below W.heap.size W W') : Below w.heap.size w W' := h.trans (hb.mono h.size)
namespace Plain
def leftL (b : Bx) (upto : Int) : List Tb := b.tombs.filter (fun t => decide (upto < t.mod))
def leftTo (b : Bx) (upto : Int) (k : Nat) : List Tb := (b.tombs.take k).filter (fun t => decide (upto < t.mod))
def forgot (b : Bx) (upto : Int) : Bx := { b with tombs := leftL b upto, hor := if b.hor < upto then upto else b.hor }
def forgetV (b : Bx) (upto : Int) : Bx := if boxOk b = true ∧ inI upto 0 b.mod = true then forgot b upto else b
theorem forgetV_no1 {b : Bx} {upto : Int} (h : boxOk b = false) : forgetV b upto = b := if_neg (fun x => by rw [h] at x; cases x.1)
theorem forgetV_no2 {b : Bx} {upto : Int} (h : inI upto 0 b.mod = false) : forgetV b upto = b := if_neg (fun x => by rw [h] at x; cases x.2)
theorem forgetV_yes {b : Bx} {upto : Int} (h1 : boxOk b = true) (h2 : inI upto 0 b.mod = true) : forgetV b upto = forgot b upto := if_pos ⟨h1, h2⟩
theorem left_all (b : Bx) (upto : Int) : leftTo b upto b.tombs.length = leftL b upto := by unfold leftTo leftL; rw [List.take_length]
theorem left_yes {b : Bx} {upto : Int} {k : Nat} {t : Tb} (h : b.tombs[k]? = some t) (ht : upto < t.mod) : leftTo b upto (k + 1) = leftTo b upto k ++ [t] := by
 unfold leftTo
 rw [List.take_add_one, h, List.filter_append]
 simp [ht]
theorem left_no {b : Bx} {upto : Int} {k : Nat} {t : Tb} (h : b.tombs[k]? = some t) (ht : ¬ upto < t.mod) : leftTo b upto (k + 1) = leftTo b upto k := by
 unfold leftTo
 rw [List.take_add_one, h, List.filter_append]
 simp [ht]
theorem left_len (b : Bx) (upto : Int) (k : Nat) : (leftTo b upto k).length ≤ b.tombs.length := by
 unfold leftTo
 refine Nat.le_trans (List.length_filter_le _ _) ?_
 rw [List.length_take]
 omega
end Plain
set_option maxHeartbeats 16000000 in
set_option maxRecDepth 100000 in
theorem spec_ForgetTombs_any (b : Bx) (m t : Value) (B : Nat) (upto : Int) (w : World) (hf : FitBx b) (h : OwnBx B w m t b) :
  Calls Tryz.prog 33 #[boxV b m t, .int .i64 upto] w fun e w' => ∃ m' t', e = .returned (boxV (forgetV b upto) m' t') ∧ OwnBx w.heap.size w' m' t' (forgetV b upto) ∧ Below w.heap.size w w' := by
 obtain ⟨j0, hj, hy0, hy1, hy2⟩ := info_parts Tryz.infoTomb
 have hl1 := hf.mails; have hl2 := hf.tombs
 obtain ⟨am, cm, rfl⟩ := g_shape h.1
 obtain ⟨at1, ct1, rfl⟩ := g_shape h.2
 have n0 := HasObj.new w 50 [.string b.name, .int .i64 b.valid, .int .i64 b.next, .int .i64 b.mod, .slice am b.mails.length cm, .slice at1 b.tombs.length ct1, .int .i64 b.hor]
 have n1 := HasObj.new (w.alloc (.cells ([.string b.name, .int .i64 b.valid, .int .i64 b.next, .int .i64 b.mod, .slice am b.mails.length cm, .slice at1 b.tombs.length ct1, .int .i64 b.hor] : List Value).toArray 50)) 50 [.string ⟨#[]⟩, .int .i64 0, .int .i64 0, .int .i64 0, .slice none 0 0, .slice none 0 0, .int .i64 0]
 rw [World.size_alloc] at n1
 obtain ⟨X, hX⟩ : ∃ X, X = (w.alloc (.cells ([.string b.name, .int .i64 b.valid, .int .i64 b.next, .int .i64 b.mod, .slice am b.mails.length cm, .slice at1 b.tombs.length ct1, .int .i64 b.hor] : List Value).toArray 50)).alloc (.cells ([.string ⟨#[]⟩, .int .i64 0, .int .i64 0, .int .i64 0, .slice none 0 0, .slice none 0 0, .int .i64 0] : List Value).toArray 50) := ⟨_, rfl⟩
 have x0 : HasObj X w.heap.size 50 [.string b.name, .int .i64 b.valid, .int .i64 b.next, .int .i64 b.mod, .slice am b.mails.length cm, .slice at1 b.tombs.length ct1, .int .i64 b.hor] := by rw [hX]; exact n0.alloc _
 have x1 : HasObj X (w.heap.size + 1) 50 [.string ⟨#[]⟩, .int .i64 0, .int .i64 0, .int .i64 0, .slice none 0 0, .slice none 0 0, .int .i64 0] := by rw [hX]; exact n1
 have hbX : Below w.heap.size w X := by rw [hX]; exact ((Below.refl _ w).alloc (Nat.le_refl _) _).alloc (by simp) _
 have hsX : w.heap.size + 2 ≤ X.heap.size := by rw [hX]; simp
 have Q1 := hide (l08Copy_any b _ _ B X hl1 hl2 (h.up hbX)); have k0 := x0.cell 0 rfl; have k1 := x0.cell 1 rfl; have k2 := x0.cell 2 rfl; have k3 := x0.cell 3 rfl; have k4 := x0.cell 4 rfl; have k5 := x0.cell 5 rfl; have k6 := x0.cell 6 rfl; have HX := hX.symm; have X0 := hide x0; have X1 := hide x1; have BX := hide hbX; have SX := hide hsX; have HO := hide h; have HF := hide hf; clear n0 n1 x0 x1 hX hbX hsX h hf
 go_enter Tryz.func33, Tryz.ntmps33
 go_wp2_with fail; clear HX k0 k1 k2 k3 k4 k5 k6
 refine (uh Q1).mono ?_
 rintro e w1 ⟨m1, t1, rfl, o1, hb1⟩
 obtain ⟨a3, c3, rfl⟩ := g_shape o1.1
 obtain ⟨a4, c4, rfl⟩ := g_shape o1.2
 obtain ⟨Y, hY⟩ : ∃ Y, Y = w1.alloc (.cells ([.string b.name, .int .i64 b.valid, .int .i64 b.next, .int .i64 b.mod, .slice a3 b.mails.length c3, .slice a4 b.tombs.length c4, .int .i64 b.hor] : List Value).toArray 50) := ⟨_, rfl⟩
 have y0 : HasObj Y w.heap.size 50 [.string b.name, .int .i64 b.valid, .int .i64 b.next, .int .i64 b.mod, .slice am b.mails.length cm, .slice at1 b.tombs.length ct1, .int .i64 b.hor] := by rw [hY]; exact ((uh X0).ups hb1).alloc _
 have y1 : HasObj Y (w.heap.size + 1) 50 [.string ⟨#[]⟩, .int .i64 0, .int .i64 0, .int .i64 0, .slice none 0 0, .slice none 0 0, .int .i64 0] := by rw [hY]; exact ((uh X1).ups hb1).alloc _
 have y2 : HasObj Y w1.heap.size 50 [.string b.name, .int .i64 b.valid, .int .i64 b.next, .int .i64 b.mod, .slice a3 b.mails.length c3, .slice a4 b.tombs.length c4, .int .i64 b.hor] := by rw [hY]; exact HasObj.new _ _ _
 have hbY1 : Below w1.heap.size w1 Y := by rw [hY]; exact (Below.refl _ _).alloc (Nat.le_refl _) _
 have hbY : Below w.heap.size w Y := below_z (below_z (uh BX) hb1) hbY1
 have s1 : w.heap.size + 2 ≤ w1.heap.size := Nat.le_trans (uh SX) hb1.size
 have hsY : Y.heap.size = w1.heap.size + 1 := by rw [hY]; simp
 have Q2 := spec_BoxOk_any b _ _ B Y (uh HF) ((uh HO).up hbY); have p0 := y0.cell 0 rfl; have p1 := y0.cell 1 rfl; have p2 := y0.cell 2 rfl; have p3 := y0.cell 3 rfl; have p4 := y0.cell 4 rfl; have p5 := y0.cell 5 rfl; have p6 := y0.cell 6 rfl; have HY := hY.symm; have Y0 := hide y0; have Y1 := hide y1; have Y2 := hide y2; have BY := hide hbY; have OY := hide (o1.up hbY1); have S1 := hide s1; have SY := hide hsY
 have V1 := hide (fun hq => forgetV_no1 (b := b) (upto := upto) hq)
 have V2 := hide (fun hq => forgetV_no2 (b := b) (upto := upto) hq)
 have V3 := hide (fun h1 h2 => forgetV_yes (b := b) (upto := upto) h1 h2)
 clear hY y0 y1 y2 hbY1 hbY s1 hsY o1 hb1 Q1
 cases hq1 : boxOk b with
 | false =>
  rw [hq1] at Q2
  have Q2 := hide Q2; have V := hide (uh V1 hq1); clear hq1; go_wp2_with fail
  refine (uh Q2).mono ?_
  rintro e w2 ⟨rfl, hb2⟩
  have z1 := (uh Y1).ups hb2; have z2 := (uh Y2).ups hb2; have q0 := z2.cell 0 rfl; have q1 := z2.cell 1 rfl; have q2 := z2.cell 2 rfl; have q3 := z2.cell 3 rfl; have q4 := z2.cell 4 rfl; have q5 := z2.cell 5 rfl; have q6 := z2.cell 6 rfl; have e0 := z1.cell 0 rfl; have e1 := z1.cell 1 rfl; have e2 := z1.cell 2 rfl; have e3 := z1.cell 3 rfl; have e4 := z1.cell 4 rfl; have e5 := z1.cell 5 rfl; have e6 := z1.cell 6 rfl; have f0 := z1.frozen 0; have f1 := z1.frozen 1; have f2 := z1.frozen 2; have f3 := z1.frozen 3; have f4 := z1.frozen 4; have f5 := z1.frozen 5; have f6 := z1.frozen 6; have F := hide (fill7 z1 (.string b.name) (.int .i64 b.valid) (.int .i64 b.next) (.int .i64 b.mod) (.slice a3 b.mails.length c3) (.slice a4 b.tombs.length c4) (.int .i64 b.hor)); have O2 := hide ((uh OY).up hb2); have B2 := hide (below_z (uh BY) hb2); clear HY z1 z2 hb2 p0 p1 p2 p3 p4 p5 p6
  go_wp2
  obtain ⟨U, hU⟩ : ∃ U, U = (((((((w2.setCell ⟨w.heap.size + 1, 0, none⟩ (.string b.name)).setCell ⟨w.heap.size + 1, 1, none⟩ (.int .i64 b.valid)).setCell ⟨w.heap.size + 1, 2, none⟩ (.int .i64 b.next)).setCell ⟨w.heap.size + 1, 3, none⟩ (.int .i64 b.mod)).setCell ⟨w.heap.size + 1, 4, none⟩ (.slice a3 b.mails.length c3)).setCell ⟨w.heap.size + 1, 5, none⟩ (.slice a4 b.tombs.length c4)).setCell ⟨w.heap.size + 1, 6, none⟩ (.int .i64 b.hor)) := ⟨_, rfl⟩
  have F := uh F
  rw [← hU] at F ⊢
  have v0 := F.obj.cell 0 rfl; have v1 := F.obj.cell 1 rfl; have v2 := F.obj.cell 2 rfl; have v3 := F.obj.cell 3 rfl; have v4 := F.obj.cell 4 rfl; have v5 := F.obj.cell 5 rfl; have v6 := F.obj.cell 6 rfl
  refine bodyPost_ret (by simp [results, Tryz.results33, go_sem, v0, v1, v2, v3, v4, v5, v6]; try rfl) rfl ?_
  refine ⟨.slice a3 b.mails.length c3, .slice a4 b.tombs.length c4, by rw [uh V], ?_, F.below (by omega) (uh B2)⟩
  rw [uh V]
  exact OwnBx.based ⟨F.row (by decide) (uh O2).1, F.row (by decide) (uh O2).2⟩ (by have := uh SX; omega)
 | true =>
  rw [hq1] at Q2
  have Q2 := hide Q2; have HQ1 := hide hq1; clear hq1; go_wp2_with fail
  refine (uh Q2).mono ?_
  rintro e w2 ⟨rfl, hb2⟩
  have k3 := ((uh Y0).ups hb2).cell 3 rfl
  cases hq2 : inI upto 0 b.mod with
  | false =>
   have QI := in_any upto 0 b.mod w2
   rw [hq2] at QI
   have QI := hide QI; have V := hide (uh V2 hq2); clear hq2; go_wp2_with fail
   refine (uh QI).mono ?_
   rintro e w3 ⟨rfl, hw⟩
   subst w3
   have z1 := (uh Y1).ups hb2; have z2 := (uh Y2).ups hb2; have q0 := z2.cell 0 rfl; have q1 := z2.cell 1 rfl; have q2 := z2.cell 2 rfl; have q3 := z2.cell 3 rfl; have q4 := z2.cell 4 rfl; have q5 := z2.cell 5 rfl; have q6 := z2.cell 6 rfl; have e0 := z1.cell 0 rfl; have e1 := z1.cell 1 rfl; have e2 := z1.cell 2 rfl; have e3 := z1.cell 3 rfl; have e4 := z1.cell 4 rfl; have e5 := z1.cell 5 rfl; have e6 := z1.cell 6 rfl; have f0 := z1.frozen 0; have f1 := z1.frozen 1; have f2 := z1.frozen 2; have f3 := z1.frozen 3; have f4 := z1.frozen 4; have f5 := z1.frozen 5; have f6 := z1.frozen 6; have F := hide (fill7 z1 (.string b.name) (.int .i64 b.valid) (.int .i64 b.next) (.int .i64 b.mod) (.slice a3 b.mails.length c3) (.slice a4 b.tombs.length c4) (.int .i64 b.hor)); have O2 := hide ((uh OY).up hb2); have B2 := hide (below_z (uh BY) hb2); clear HY z1 z2 hb2 p0 p1 p2 p3 p4 p5 p6
   go_wp2
   obtain ⟨U, hU⟩ : ∃ U, U = (((((((w2.setCell ⟨w.heap.size + 1, 0, none⟩ (.string b.name)).setCell ⟨w.heap.size + 1, 1, none⟩ (.int .i64 b.valid)).setCell ⟨w.heap.size + 1, 2, none⟩ (.int .i64 b.next)).setCell ⟨w.heap.size + 1, 3, none⟩ (.int .i64 b.mod)).setCell ⟨w.heap.size + 1, 4, none⟩ (.slice a3 b.mails.length c3)).setCell ⟨w.heap.size + 1, 5, none⟩ (.slice a4 b.tombs.length c4)).setCell ⟨w.heap.size + 1, 6, none⟩ (.int .i64 b.hor)) := ⟨_, rfl⟩
   have F := uh F
   rw [← hU] at F ⊢
   have v0 := F.obj.cell 0 rfl; have v1 := F.obj.cell 1 rfl; have v2 := F.obj.cell 2 rfl; have v3 := F.obj.cell 3 rfl; have v4 := F.obj.cell 4 rfl; have v5 := F.obj.cell 5 rfl; have v6 := F.obj.cell 6 rfl
   refine bodyPost_ret (by simp [results, Tryz.results33, go_sem, v0, v1, v2, v3, v4, v5, v6]; try rfl) rfl ?_
   refine ⟨.slice a3 b.mails.length c3, .slice a4 b.tombs.length c4, by rw [uh V], ?_, F.below (by omega) (uh B2)⟩
   rw [uh V]
   exact OwnBx.based ⟨F.row (by decide) (uh O2).1, F.row (by decide) (uh O2).2⟩ (by have := uh SX; omega)
  | true =>
   have QI := in_any upto 0 b.mod w2
   rw [hq2] at QI
   have QI := hide QI; have V := hide (uh V3 (uh HQ1) hq2); clear hq2; have z0 := (uh Y0).ups hb2; have z1 := (uh Y1).ups hb2; have z2 := (uh Y2).ups hb2; have b2 := below_z (uh BY) hb2; have o2 := (uh OY).up hb2
   have s2 : w1.heap.size + 1 ≤ w2.heap.size := by have h1 := uh SY; have h2 := hb2.size; omega
   have ne0 : w.heap.size ≠ w1.heap.size := by have := uh S1; omega
   have ne1 : w.heap.size + 1 ≠ w1.heap.size := by have := uh S1; omega
   -- an empty row in the place of the tombs
   obtain ⟨D, hD⟩ : ∃ D, D = (w2.alloc (.cells #[] 117)).setCell ⟨w1.heap.size, 5, none⟩ (.slice (some ⟨w2.heap.size, 0, none⟩) 0 0) := ⟨_, rfl⟩
   have d0 := (z0.alloc (.cells #[] 117)).other (j := 5) ne0 (.slice (some ⟨w2.heap.size, 0, none⟩) 0 0)
   have d1 := (z1.alloc (.cells #[] 117)).other (j := 5) ne1 (.slice (some ⟨w2.heap.size, 0, none⟩) 0 0)
   have d2 := (z2.alloc (.cells #[] 117)).set 5 (.slice (some ⟨w2.heap.size, 0, none⟩) 0 0)
   have e2 := (z2.alloc (.cells #[] 117)).row (j := 5) (by decide) (World.ownsRow_lit (size := 2) (e := 117) w2 #[] 0 (Nat.le_refl _) (Nat.zero_le _) rfl) (.slice (some ⟨w2.heap.size, 0, none⟩) 0 0)
   have em := (z2.alloc (.cells #[] 117)).row (j := 5) (by decide) (g_stays o2.1 ((Below.refl _ _).alloc (Nat.le_refl _) (.cells #[] 117))) (.slice (some ⟨w2.heap.size, 0, none⟩) 0 0)
   have bD := (b2.alloc b2.size (.cells #[] 117)).setCell (p := ⟨w1.heap.size, 5, none⟩) (by show w.heap.size ≤ w1.heap.size; have := uh S1; omega) (.slice (some ⟨w2.heap.size, 0, none⟩) 0 0)
   rw [← hD] at d0 d1 d2 e2 em bD
   have HD := hD.symm; have c5 := (z2.alloc (.cells #[] 117)).cell 5 rfl; have f5 := (z2.alloc (.cells #[] 117)).frozen 5; have D0 := hide d0; have D1 := hide d1; have D2 := hide d2; have E2 := hide e2; have EM := hide em; have BD := hide bD; have S2 := hide s2; clear hb2 z0 z1 z2 b2 o2 s2 d0 d1 d2 e2 em bD hD HY p0 p1 p2 p3 p4 p5 p6; go_wp2_with fail
   refine (uh QI).mono ?_
   rintro e w3 ⟨rfl, hw⟩
   subst w3
   go_wp2
   clear HD c5 f5 k3 QI
   go_loopw [6] (fun i wr => ∃ (k : Nat) (v : Value), k ≤ b.tombs.length ∧ i = .int .i64 k ∧ HasObj wr w.heap.size 50 [.string b.name, .int .i64 b.valid, .int .i64 b.next, .int .i64 b.mod, .slice am b.mails.length cm, .slice at1 b.tombs.length ct1, .int .i64 b.hor] ∧ HasObj wr (w.heap.size + 1) 50 [.string ⟨#[]⟩, .int .i64 0, .int .i64 0, .int .i64 0, .slice none 0 0, .slice none 0 0, .int .i64 0] ∧ HasObj wr w1.heap.size 50 [.string b.name, .int .i64 b.valid, .int .i64 b.next, .int .i64 b.mod, .slice a3 b.mails.length c3, v, .int .i64 b.hor] ∧ wr.ownsRow w2.heap.size 117 2 v (leftTo b upto k).length (rowC tbC (leftTo b upto k)) ∧ OwnMl X.heap.size wr (.slice a3 b.mails.length c3) b.mails ∧ Below w.heap.size w wr ∧ w2.heap.size ≤ wr.heap.size) (fun i _ => b.tombs.length - (intOf i).toNat)
   case atStart => exact ⟨0, _, Nat.zero_le _, rfl, uh D0, uh D1, uh D2, uh E2, uh EM, uh BD, by have h1 := (uh E2).lt _ rfl; omega⟩
   clear D0 D1 D2 E2 EM BD
   case round =>
    obtain ⟨k, v, hk, rfl, hp, hr, hq, hown, hml, hbel, hsw⟩ := hrel
    obtain ⟨av, cv, rfl⟩ := g_shape hown
    have p5 := hp.cell 5 rfl
    by_cases hlt : k < b.tombs.length
    ·have hgk : b.tombs[k]? = some b.tombs[k] := List.getElem?_eq_getElem hlt
     obtain ⟨g, c, e, hg, c0, c1⟩ := tb_read (uh HO).2 hbel hgk
     cases e
     have YES := hide (fun h => left_yes (upto := upto) hgk h)
     have NO := hide (fun h => left_no (upto := upto) hgk h)
     have LN := left_len b upto k
     have i1 : (0 : Int) ≤ (k : Int) := by omega
     have i2 : (k : Int) < (b.tombs.length : Int) := by omega
     clear hgk
     generalize b.tombs[k] = f at *
     by_cases hm : upto < f.mod
     ·have dd : decide (upto < f.mod) = true := decide_eq_true hm
      have yes := hide (uh YES hm); have q5 := hq.cell 5 rfl; have HP := hide hp; have HR := hide hr; have HQ := hide hq; have OW := hide hown; have ML := hide hml; have BR := hide hbel
      have nrow := hide (hq.not_row (by decide) hown)
      have bl : Hid (w2.heap.size ≤ wr.heap.size) := hsw
      have vb : Hid (∀ gg, (Value.slice av (leftTo b upto k).length cv).ownBlock = some gg → w2.heap.size ≤ gg) := fun gg h => (hown.lt gg h).1
      have S1' := uh S1
      have S2' := uh S2
      clear hp hr hq hown hml hbel YES NO hm
      go_wp2
      refine lateBegin (S := fun w' => w'.cell? ⟨w1.heap.size, 5, none⟩ = some (.slice av (leftTo b upto k).length cv) ∧ w'.cell? ⟨w.heap.size, 5, none⟩ = some (.slice (some ⟨g, 0, none⟩) b.tombs.length ct1) ∧ w'.cell? ⟨g, k * 2, none⟩ = some (.int .i64 f.uid) ∧ w'.cell? ⟨g, k * 2 + 1, none⟩ = some (.int .i64 f.mod)) 10 (by kernel_rfl) (⟨q5, p5, c0, c1⟩) (fun hHeld => ?_)
      refine lt 0 37 ?_; refine lt 1 38 ?_; refine lt 2 39 ?_; refine lt 3 40 ?_; refine lt 4 41 ?_; refine lt 5 42 ?_; refine lt 6 43 ?_
      refine lateStep 7 (by kernel_rfl) rfl (by rfl) (fun K hK => ?_)
      go_simp
      refine hK.out _ _ (⟨g_cell ((Below.refl _ _).alloc (Nat.le_refl _) _) hHeld.1, g_cell ((Below.refl _ _).alloc (Nat.le_refl _) _) hHeld.2.1, g_cell ((Below.refl _ _).alloc (Nat.le_refl _) _) hHeld.2.2.1, g_cell ((Below.refl _ _).alloc (Nat.le_refl _) _) hHeld.2.2.2⟩) (fun hHeld2 => ?_)
      clear hK K hHeld; have hHeld := hHeld2; clear hHeld2
      try simp only [Act.put, p1, p2, p3]
      have hA : Below wr.drew.heap.size wr.drew (wr.drew.alloc (.cells (tbC f).toArray 117)) := (Below.refl _ _).alloc (Nat.le_refl _) _
      have rA := g_stays (w := wr.drew) (uh OW) hA
      have nw : ∀ j u, (tbC f)[j]? = some u → (wr.drew.alloc (.cells (tbC f).toArray 117)).cell? ((⟨wr.heap.size, 0, none⟩ : Addr).add j) = some u := fun j u hju => by rw [Addr.add_lit, Nat.zero_add]; exact (HasObj.new wr.drew 117 (tbC f)).cell j hju
      have aQ := (uh HQ).drewn.ups hA; have aP := (uh HP).drewn.ups hA; have aR := (uh HR).drewn.ups hA; have aM := g_stays (w := wr.drew) (uh ML) hA; have aB := below_z (uh BR).drew hA
      have one : ∀ u ∈ tbC f, u.oneCell' = true := by intro u hu; simp [tbC] at hu; rcases hu with rfl | rfl <;> rfl
      have gn : some g ≠ (Value.slice av (leftTo b upto k).length cv).ownBlock := fun e => by have := uh vb g e.symm; omega
      refine lateStep 8 (by kernel_rfl) rfl (by rfl) (fun K hK => ?_)
      refine wp_append_lies _ (.tmp 38) (.tmp 44) 48 rfl w2.heap.size 117 j0 _ 2 16 Tryz.underlying48 hj hy0 hy1 hy2 rfl (by decide) (.slice av (leftTo b upto k).length cv) (leftTo b upto k).length (rowC tbC (leftTo b upto k)) rfl rA ⟨wr.heap.size, 0, none⟩ 1 1 (tbC f) rfl rfl nw one (by decide) (by unfold maxLen; omega) (by omega) (by simp; have := uh bl; omega) (wr.heap.size + 1) (by simp) ?_
      intro gg cap w5 hown5 hgr5 hat5 hlt5
      refine hK.out _ _ (⟨(aQ.kept hgr5 (fun e => aQ.not_row (by decide) rA e.symm)).cell 5 rfl, (aP.kept hgr5 (fun e => aP.not_row (by decide) rA e.symm)).cell 5 rfl, (hgr5.cell_far _ (by simp; omega) gn).trans hHeld.2.2.1, (hgr5.cell_far _ (by simp; omega) gn).trans hHeld.2.2.2⟩) (fun hHeld2 => ?_)
      clear hK K hHeld; have hHeld := hHeld2; clear hHeld2
      try simp only [Act.put, p1, p2, p3]
      have bQ := aQ.kept hgr5 (fun e => aQ.not_row (by decide) rA e.symm)
      have bP := aP.kept hgr5 (fun e => aP.not_row (by decide) rA e.symm)
      have bR := aR.kept hgr5 (fun e => aR.not_row (by decide) rA e.symm)
      have bM := g_aside aM hgr5 (fun x hx => rows_apart rA aM (by decide) x hx)
      have bB : Below w.heap.size w w5 := aB.grown hgr5 aB.size (fun x hx => by have := uh vb x hx; omega)
      have bS : w2.heap.size ≤ w5.heap.size := by have h1 := hgr5.size; have h2 := uh bl; simp at h1; omega
      have fz := bQ.frozen 5
      have q5' := bQ.cell 5 rfl
      have gP := hide (bP.other (j := 5) ne0 (.slice (some ⟨gg, 0, none⟩) ((leftTo b upto k).length + 1) cap))
      have gR := hide (bR.other (j := 5) ne1 (.slice (some ⟨gg, 0, none⟩) ((leftTo b upto k).length + 1) cap))
      have gQ := hide (bQ.set 5 (.slice (some ⟨gg, 0, none⟩) ((leftTo b upto k).length + 1) cap))
      have gO := hide (bQ.row (j := 5) (by decide) hown5 (.slice (some ⟨gg, 0, none⟩) ((leftTo b upto k).length + 1) cap))
      have gM := hide (bQ.row (j := 5) (by decide) bM (.slice (some ⟨gg, 0, none⟩) ((leftTo b upto k).length + 1) cap))
      have gB := hide (bB.setCell (p := ⟨w1.heap.size, 5, none⟩) (by show w.heap.size ≤ w1.heap.size; omega) (.slice (some ⟨gg, 0, none⟩) ((leftTo b upto k).length + 1) cap))
      have gS := hide bS; clear hA rA nw aQ aP aR aM aB one gn hown5 hgr5 hat5 hlt5 bQ bP bR bM bB bS
      refine lt 9 46 ?_
      refine lateLast 10 (by decide) (by kernel_rfl) rfl (by rfl) (fun K hK => ?_)
      go_simp
      refine hK.out _ _ ?_
      clear hK K hHeld
      try simp only [Act.put, p1, p2, p3]
      refine lateDone (by kernel_rfl) ?_ _
      clear fz q5'
      go_wp2
      go_roundw
      case rel =>
       refine ⟨k + 1, _, by omega, by go_num, uh gP, uh gR, uh gQ, ?_, uh gM, uh gB, by simpa using uh gS⟩
       rw [uh yes, List.length_append, rowC_snoc]
       exact uh gO
      case measure => simp [intOf]; omega
     ·have dd : decide (upto < f.mod) = false := decide_eq_false hm
      have no := hide (uh NO hm); have HP := hide hp; have HR := hide hr; have HQ := hide hq; have OW := hide hown; have ML := hide hml; have BR := hide hbel; clear hp hr hq hown hml hbel YES NO hm
      go_wp2
      go_roundw
      case rel => exact ⟨k + 1, _, by omega, by go_num, uh HP, uh HR, uh HQ, by rw [uh no]; exact uh OW, uh ML, uh BR, hsw⟩
      case measure => simp [intOf]; omega
    ·have e : k = b.tombs.length := by omega
     subst e
     rw [left_all] at hown hq
     have p6 := hp.cell 6 rfl; have fz := hq.frozen 6; have q6 := hq.cell 6 rfl
     by_cases hh : b.hor < upto
     ·have dh : decide (b.hor < upto) = true := decide_eq_true hh
      have hq' := hq.set 6 (.int .i64 upto)
      have ow' := hq.row (j := 6) (by decide) hown (.int .i64 upto)
      have ml' := hq.row (j := 6) (by decide) hml (.int .i64 upto)
      have hr' := hr.other (j := 6) ne1 (.int .i64 upto)
      have bl' := hbel.setCell (p := ⟨w1.heap.size, 6, none⟩) (by show w.heap.size ≤ w1.heap.size; have := uh S1; omega) (.int .i64 upto)
      obtain ⟨E, hE⟩ : ∃ E, E = wr.setCell ⟨w1.heap.size, 6, none⟩ (.int .i64 upto) := ⟨_, rfl⟩
      rw [← hE] at hq' ow' ml' hr' bl'
      have HE := hE.symm; have q0 := hq'.cell 0 rfl; have q1 := hq'.cell 1 rfl; have q2 := hq'.cell 2 rfl; have q3 := hq'.cell 3 rfl; have q4 := hq'.cell 4 rfl; have q5 := hq'.cell 5 rfl; have q6 := hq'.cell 6 rfl; have e0 := hr'.cell 0 rfl; have e1 := hr'.cell 1 rfl; have e2 := hr'.cell 2 rfl; have e3 := hr'.cell 3 rfl; have e4 := hr'.cell 4 rfl; have e5 := hr'.cell 5 rfl; have e6 := hr'.cell 6 rfl; have f0 := hr'.frozen 0; have f1 := hr'.frozen 1; have f2 := hr'.frozen 2; have f3 := hr'.frozen 3; have f4 := hr'.frozen 4; have f5 := hr'.frozen 5; have f6 := hr'.frozen 6; have F := hide (fill7 hr' (.string b.name) (.int .i64 b.valid) (.int .i64 b.next) (.int .i64 b.mod) (.slice a3 b.mails.length c3) (.slice av (leftL b upto).length cv) (.int .i64 upto)); have OW := hide ow'; have ML := hide ml'; have BL := hide bl'; have HH := hide hh; clear hh hp hr hq hown hml hbel hq' ow' ml' hr' bl' hE
      go_wp2
      obtain ⟨U, hU⟩ : ∃ U, U = (((((((E.setCell ⟨w.heap.size + 1, 0, none⟩ (.string b.name)).setCell ⟨w.heap.size + 1, 1, none⟩ (.int .i64 b.valid)).setCell ⟨w.heap.size + 1, 2, none⟩ (.int .i64 b.next)).setCell ⟨w.heap.size + 1, 3, none⟩ (.int .i64 b.mod)).setCell ⟨w.heap.size + 1, 4, none⟩ (.slice a3 b.mails.length c3)).setCell ⟨w.heap.size + 1, 5, none⟩ (.slice av (leftL b upto).length cv)).setCell ⟨w.heap.size + 1, 6, none⟩ (.int .i64 upto)) := ⟨_, rfl⟩
      have F := uh F
      rw [← hU] at F ⊢
      have v0 := F.obj.cell 0 rfl; have v1 := F.obj.cell 1 rfl; have v2 := F.obj.cell 2 rfl; have v3 := F.obj.cell 3 rfl; have v4 := F.obj.cell 4 rfl; have v5 := F.obj.cell 5 rfl; have v6 := F.obj.cell 6 rfl
      refine bodyPost_ret (by simp [results, Tryz.results33, go_sem, v0, v1, v2, v3, v4, v5, v6]; try rfl) rfl ?_
      have ef : forgot b upto = { b with tombs := leftL b upto, hor := upto } := by unfold forgot; rw [if_pos (uh HH)]
      refine ⟨.slice a3 b.mails.length c3, .slice av (leftL b upto).length cv, by rw [uh V, ef], ?_, F.below (by omega) (uh BL)⟩
      rw [uh V, ef]
      refine OwnBx.based (B := w.heap.size) ⟨g_based (F.row (by decide) (uh ML)) (by have := uh SX; omega), g_based (F.row (by decide) (uh OW)) (by have h1 := uh S1; have h2 := uh S2; omega)⟩ (Nat.le_refl _)
     ·have dh : decide (b.hor < upto) = false := decide_eq_false hh
      have q0 := hq.cell 0 rfl; have q1 := hq.cell 1 rfl; have q2 := hq.cell 2 rfl; have q3 := hq.cell 3 rfl; have q4 := hq.cell 4 rfl; have q5 := hq.cell 5 rfl; have q6 := hq.cell 6 rfl; have e0 := hr.cell 0 rfl; have e1 := hr.cell 1 rfl; have e2 := hr.cell 2 rfl; have e3 := hr.cell 3 rfl; have e4 := hr.cell 4 rfl; have e5 := hr.cell 5 rfl; have e6 := hr.cell 6 rfl; have f0 := hr.frozen 0; have f1 := hr.frozen 1; have f2 := hr.frozen 2; have f3 := hr.frozen 3; have f4 := hr.frozen 4; have f5 := hr.frozen 5; have f6 := hr.frozen 6; have F := hide (fill7 hr (.string b.name) (.int .i64 b.valid) (.int .i64 b.next) (.int .i64 b.mod) (.slice a3 b.mails.length c3) (.slice av (leftL b upto).length cv) (.int .i64 b.hor)); have OW := hide hown; have ML := hide hml; have BL := hide hbel; have HH := hide hh; clear hh hp hr hq hown hml hbel
      go_wp2
      obtain ⟨U, hU⟩ : ∃ U, U = (((((((wr.setCell ⟨w.heap.size + 1, 0, none⟩ (.string b.name)).setCell ⟨w.heap.size + 1, 1, none⟩ (.int .i64 b.valid)).setCell ⟨w.heap.size + 1, 2, none⟩ (.int .i64 b.next)).setCell ⟨w.heap.size + 1, 3, none⟩ (.int .i64 b.mod)).setCell ⟨w.heap.size + 1, 4, none⟩ (.slice a3 b.mails.length c3)).setCell ⟨w.heap.size + 1, 5, none⟩ (.slice av (leftL b upto).length cv)).setCell ⟨w.heap.size + 1, 6, none⟩ (.int .i64 b.hor)) := ⟨_, rfl⟩
      have F := uh F
      rw [← hU] at F ⊢
      have v0 := F.obj.cell 0 rfl; have v1 := F.obj.cell 1 rfl; have v2 := F.obj.cell 2 rfl; have v3 := F.obj.cell 3 rfl; have v4 := F.obj.cell 4 rfl; have v5 := F.obj.cell 5 rfl; have v6 := F.obj.cell 6 rfl
      refine bodyPost_ret (by simp [results, Tryz.results33, go_sem, v0, v1, v2, v3, v4, v5, v6]; try rfl) rfl ?_
      have ef : forgot b upto = { b with tombs := leftL b upto, hor := b.hor } := by unfold forgot; rw [if_neg (by have := uh HH; omega)]
      refine ⟨.slice a3 b.mails.length c3, .slice av (leftL b upto).length cv, by rw [uh V, ef], ?_, F.below (by omega) (uh BL)⟩
      rw [uh V, ef]
      refine OwnBx.based (B := w.heap.size) ⟨g_based (F.row (by decide) (uh ML)) (by have := uh SX; omega), g_based (F.row (by decide) (uh OW)) (by have h1 := uh S1; have h2 := uh S2; omega)⟩ (Nat.le_refl _)
end Go.Proofs.YtlngjflhbkannaaGreat
