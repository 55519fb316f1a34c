/- The program's add. Made by gen_stores.py. -/
import Derived.Test.YtanapiaobpoebaaTv
import Derived.Test.YtanapiaobpoebaaInsPt
namespace Go.Proofs.Ytanapiaobpoebaa
open Go.RowKit
open Plain
set_option linter.unusedVariables false
set_option linter.unusedSimpArgs false

theorem GrownBut.drews {w w' : World} {S : Nat → Prop} (h : GrownBut w w' S) : GrownBut w w'.drew S := ⟨h.os, h.tape, h.output, h.size, h.block⟩
set_option maxHeartbeats 4000000 in
set_option maxRecDepth 100000 in
theorem add_any (q B : Nat) (v : Value) (mb : Nat) (valid : Int) (P : List (Lb × Nat)) (y : Bx) (w : World) (hl : P.length ≤ 1000) (hn : y.name.size ≤ 1048576) (hv : IntKind.i64.wrap (y.valid + 1) = y.valid + 1) (hB : B ≤ w.heap.size) (hm1 : y.mails = []) (ht1 : y.tombs = []) (hq : HasObj w q 50 [v, .map (some mb), .int .i64 valid]) (h : OpenSt B w v mb P) :
  Calls Try.prog 23 #[.pointer (some ⟨q, 0, none⟩), boxV y (.slice none 0 0) (.slice none 0 0)] w fun e w' => e = .returned (.tuple #[]) ∧ ∃ v' k, k ≤ P.length ∧ (∀ p ∈ P.take k, ltB p.1.b.name y.name = true) ∧ (∀ p, P[k]? = some p → ltB p.1.b.name y.name = false) ∧ HasObj w' q 50 [v', .map (some mb), .int .i64 (y.valid + 1)] ∧ OwnPt B w' v' ((P.map (·.2)).take k ++ w.heap.size :: (P.map (·.2)).drop k) ∧ ObjsB B w' (P ++ [(⟨y, .slice none 0 0, .slice none 0 0⟩, w.heap.size)]) ∧ GrownBut w w' (fun k => k = q ∨ v.ownBlock = some k ∨ k = mb) := by
 obtain ⟨hp, ho, hap, S, hm, hSP, _⟩ := h
 obtain ⟨a0, c0, rfl⟩ := g_shape hp
 obtain ⟨n, hn0⟩ : ∃ n, n = P.length := ⟨_, rfl⟩
 rw [List.length_map, ← hn0] at hp hq ⊢
 obtain ⟨X, hX⟩ : ∃ X, X = w.alloc (.cells ([.string y.name, .int .i64 y.valid, .int .i64 y.next, .int .i64 y.mod, .slice none 0 0, .slice none 0 0, .int .i64 y.hor] : List Value).toArray 42) := ⟨_, rfl⟩
 have x0 : HasObj X w.heap.size 42 [.string y.name, .int .i64 y.valid, .int .i64 y.next, .int .i64 y.mod, .slice none 0 0, .slice none 0 0, .int .i64 y.hor] := by rw [hX]; exact HasObj.new _ _ _
 have hbX : Below w.heap.size w X := by rw [hX]; exact (Below.refl _ _).alloc (Nat.le_refl _) _
 have nq : w.heap.size ≠ q := Nat.ne_of_gt hq.lt
 have Q0 := hide (hq.ups hbX)
 have OX : Hid (OwnPt B X (.slice a0 n c0) (P.map (·.2))) := hp.up hbX
 have OO : Hid (ObjsB B X (P ++ [((⟨y, .slice none 0 0, .slice none 0 0⟩ : Lb), w.heap.size)])) := ObjsB.snoc (p := ((⟨y, .slice none 0 0, .slice none 0 0⟩ : Lb), w.heap.size)) (ho.up hbX) hB x0 ⟨by unfold OwnMl; rw [hm1]; exact World.ownsRow_nil _ _ _ _, by unfold OwnTb; rw [ht1]; exact World.ownsRow_nil _ _ _ _⟩
 have MM := hide (hm.up hbX); have X0 := hide x0; have HBX := hide hbX
 have RLT : Hid (∀ g, Value.ownBlock (.slice a0 n c0) = some g → g < w.heap.size) := fun g hg => (World.ownsRow.lt hp g hg).2
 have HX := hX.symm; have HN := hide hn0
 have hn9 : n ≤ 1000 := by omega
 have HSP := hide hSP; clear hX x0 hbX hq hp ho hap hm hSP hn0
 go_enter Try.func23, Try.ntmps23
 go_wp2
 clear HX
 go_loopw [4] (fun i wr => ∃ k : Nat, k ≤ n ∧ i = .int .i64 k ∧ (∀ p ∈ P.take k, ltB p.1.b.name y.name = true) ∧ Below X.heap.size X wr) (fun i _ => n - (intOf i).toNat)
 case atStart => exact ⟨0, Nat.zero_le _, rfl, by simp, Below.refl _ _⟩
 case round =>
  obtain ⟨k, hk, rfl, hlow, hb0⟩ := hrel
  obtain ⟨wo, hwo⟩ : ∃ wo, wo = wr := ⟨_, rfl⟩
  subst hwo
  have HLOW := hide hlow; have Q1 := hide ((uh Q0).ups hb0)
  have O1 : Hid (OwnPt B wo (.slice a0 n c0) (P.map (·.2))) := (uh OX).up hb0
  have B1 := hide ((uh OO).up hb0); have M1 := hide ((uh MM).up hb0); have X1 := hide ((uh X0).ups hb0); have BB := hide hb0; clear hlow hb0
  by_cases hlt : k < n
  ·have hkl : k < P.length := by rw [← uh HN]; exact hlt
   have hx : P[k]? = some P[k] := List.getElem?_eq_getElem hkl
   have hmx : P[k] ∈ P ++ [((⟨y, .slice none 0 0, .slice none 0 0⟩ : Lb), w.heap.size)] := List.mem_append_left _ (List.getElem_mem hkl)
   have hxg : (P.map (·.2))[k]? = some P[k].2 := by rw [List.getElem?_map, hx]; rfl
   have TK := hide (take_snoc hx); have HPK := hide hx
   obtain ⟨qa, c9, e3, pc⟩ := pt_read (uh O1) hxg
   have e5 := (Value.slice.inj e3).1; clear e3
   subst e5
   generalize P[k] = x at *
   obtain ⟨⟨b, m, t⟩, g1⟩ := x
   simp only at pc hxg
   have nc := ((uh B1) _ hmx).2.1.cell 0 rfl
   simp only at nc
   have kq0 := (uh Q1).cell 0 rfl; have ky := (uh X1).cell 0 rfl
   have i1 : (0 : Int) ≤ (k : Int) := by omega
   have i2 : (k : Int) < (n : Int) := by omega
   clear hx hmx hxg hkl
   go_wp2
   cases hd : Op.bytesLess b.name.toList y.name.toList with
   | true =>
    refine wp_region_held_drew (S := fun w' => w'.cell? ⟨q, 0, none⟩ = some (.slice (some ⟨qa, 0, none⟩) n c0) ∧ w'.cell? ⟨qa, k, none⟩ = some (.pointer (some ⟨g1, 0, none⟩)) ∧ w'.cell? ⟨g1, 0, none⟩ = some (.string b.name) ∧ w'.cell? ⟨w.heap.size, 0, none⟩ = some (.string y.name)) (by kernel_rfl) ⟨kq0, pc, nc, ky⟩ (fun hHeld => ?_)
    clear kq0 pc nc ky
    refine tv 0 5 ?_; refine tv 1 6 ?_; refine tv 2 7 ?_; refine tv 3 8 ?_; refine tv 4 9 ?_; refine tv 5 10 ?_; refine tv 6 11 ?_; refine tv 7 12 ?_; refine tv 8 13 ?_; refine tv 9 14 ?_; refine tv 10 15 ?_; refine tv 11 16 ?_; refine tv 12 17 ?_; refine tv 13 18 ?_; refine tv 14 19 ?_; refine tv 15 20 ?_; refine tv 16 21 ?_; refine tv 17 22 ?_; refine tv 18 23 ?_; refine tv 19 24 ?_; refine tv 20 25 ?_; refine tv 21 26 ?_
    refine wpAnyH_done (by kernel_rfl) ?_ _
    have NX : Hid (∀ p ∈ P.take (k + 1), ltB p.1.b.name y.name = true) := fun p hp => by rw [uh TK] at hp; rcases List.mem_append.1 hp with h9 | h9; exact uh HLOW p h9; simp at h9; rw [h9]; exact hd
    have BD : Hid (Below X.heap.size X wo.drew) := (uh BB).drew
    go_wp2
    clear hd
    go_roundw
    case rel => exact ⟨k + 1, by omega, by go_num, uh NX, uh BD⟩
    case measure => simp [intOf]; omega
   | false =>
    refine wp_region_held_drew (S := fun w' => w'.cell? ⟨q, 0, none⟩ = some (.slice (some ⟨qa, 0, none⟩) n c0) ∧ w'.cell? ⟨qa, k, none⟩ = some (.pointer (some ⟨g1, 0, none⟩)) ∧ w'.cell? ⟨g1, 0, none⟩ = some (.string b.name) ∧ w'.cell? ⟨w.heap.size, 0, none⟩ = some (.string y.name)) (by kernel_rfl) ⟨kq0, pc, nc, ky⟩ (fun hHeld => ?_)
    clear kq0 pc nc ky
    refine tv 0 5 ?_; refine tv 1 6 ?_; refine tv 2 7 ?_; refine tv 3 8 ?_; refine tv 4 9 ?_; refine tv 5 10 ?_; refine tv 6 11 ?_; refine tv 7 12 ?_; refine tv 8 13 ?_; refine tv 9 14 ?_; refine tv 10 15 ?_; refine tv 11 16 ?_; refine tv 12 17 ?_; refine tv 13 18 ?_; refine tv 14 19 ?_; refine tv 15 20 ?_; refine tv 16 21 ?_; refine tv 17 22 ?_; refine tv 18 23 ?_; refine tv 19 24 ?_; refine tv 20 25 ?_; refine tv 21 26 ?_
    refine wpAnyH_done (by kernel_rfl) ?_ _
    have HD : Hid (ltB b.name y.name = false) := hd
    clear hd; have Q2 := hide (uh Q1).drewn
    have O2 : Hid (OwnPt B wo.drew (.slice (some ⟨qa, 0, none⟩) n c0) (P.map (·.2))) := (uh O1).drew
    have B2 := hide (uh B1).drew; have M2 := hide (uh M1).drew; have X2 := hide (uh X1).drewn
    have BB2 : Hid (Below X.heap.size X wo.drew) := (uh BB).drew
    clear Q1 O1 B1 M1 X1 BB; have Q1 := Q2; have O1 := O2; have B1 := B2; have M1 := M2; have X1 := X2; have BB := BB2; clear Q2 O2 B2 M2 X2 BB2
    obtain ⟨wd, hwd⟩ : ∃ x, x = wo.drew := ⟨_, rfl⟩
    rw [← hwd] at Q1 O1 B1 M1 X1 BB ⊢
    clear hwd
    obtain ⟨U, hU⟩ : ∃ U, U = wd.alloc (.cells ([.pointer (some ⟨w.heap.size, 0, none⟩)] : List Value).toArray 52) := ⟨_, rfl⟩
    have u0 : HasObj U wd.heap.size 52 [.pointer (some ⟨w.heap.size, 0, none⟩)] := by rw [hU]; exact HasObj.new _ _ _
    have hbU : Below wd.heap.size wd U := by rw [hU]; exact (Below.refl _ _).alloc (Nat.le_refl _) _
    have LW : Hid (w.heap.size ≤ wd.heap.size) := Nat.le_trans (uh HBX).size (uh BB).size
    have OU := hide ((uh O1).up hbU); have QU := hide ((uh Q1).ups hbU); have BU := hide ((uh B1).up hbU); have MU0 := hide ((uh M1).up hbU); have XU := hide ((uh X1).ups hbU)
    have GU : Hid (GrownBut w U (fun z => z = q ∨ (Value.slice (some ⟨qa, 0, none⟩) n c0).ownBlock = some z ∨ z = mb)) := ((GrownBut.below (uh HBX) rfl).then ((GrownBut.below (uh BB) rfl).then (GrownBut.below hbU rfl))).mono (fun k hk hx => by rcases hx with hx | hx | hx <;> exact absurd hx id)
    have INS := hide (insertPt (P.map (·.2)) (.slice (some ⟨qa, 0, none⟩) n c0) B w.heap.size wd.heap.size k U (by rw [List.length_map]; exact hl) (uh OU) u0 (by have := hbU.size; have := uh LW; omega) (by rw [List.length_map, ← uh HN]; omega) (fun e => by have q1_ := uh RLT _ e; have q2_ := uh LW; omega))
    have k0 := (uh Q1).cell 0 rfl; have HU := hU.symm; clear hU u0 hbU O1 Q1 B1 M1 X1 BB; go_wp2_with fail; clear HU k0
    refine (uh INS).mono ?_
    rintro e w1 ⟨v', rfl, ov, hg1⟩
    have q1 := (uh QU).kept hg1 (fun e => (uh QU).not_row (by decide) (uh OU) e.symm)
    have x1 := (uh XU).kept hg1 (fun e => by have q1_ := uh RLT _ e.symm; omega)
    have o1 := (uh BU).aside (uh OU) hg1 (by decide) (by decide) (by decide)
    have m1 := (uh MU0).kept hg1 (fun e => (uh MU0).no_row (uh OU) e.symm)
    have g1 : GrownBut w w1 (fun z => z = q ∨ (Value.slice (some ⟨qa, 0, none⟩) n c0).ownBlock = some z ∨ z = mb) := ((uh GU).then (GrownBut.of hg1)).mono (fun k hk hx => by rcases hx with hx | hx; exact hx; exact .inr (.inl hx))
    obtain ⟨l2, hl2⟩ : ∃ z, z = (P.map (·.2)).take k ++ w.heap.size :: (P.map (·.2)).drop k := ⟨_, rfl⟩
    rw [← hl2] at ov
    have HL2 := hide hl2; clear hl2
    obtain ⟨a1, c1, rfl⟩ := g_shape ov
    have f0 := q1.frozen 0; have k0 := q1.cell 0 rfl
    obtain ⟨Y, hY⟩ : ∃ Y, Y = w1.setCell ⟨q, 0, none⟩ (.slice a1 l2.length c1) := ⟨_, rfl⟩
    have q2 := q1.set 0 (.slice a1 l2.length c1); have x2 := x1.other (j := 0) nq (.slice a1 l2.length c1)
    have r2 : OwnPt B (w1.setCell ⟨q, 0, none⟩ (.slice a1 l2.length c1)) (.slice a1 l2.length c1) l2 := q1.row (j := 0) (by decide) ov (.slice a1 l2.length c1)
    have o2 := o1.set (j := 0) q1 (by decide) (by decide) (by decide) (.slice a1 l2.length c1)
    have m2 := m1.set (j := 0) q1 (.slice a1 l2.length c1); have g2 := g1.then (GrownBut.of (g_store (j := 0) (g_self w1 (some q)) (.slice a1 l2.length c1)))
    rw [← hY] at q2 x2 r2 o2 m2 g2
    have HY := hY.symm; have Q2 := hide q2; have R2 := hide r2; have O2 := hide o2; have M2 := hide m2; have X2 := hide x2; have G2 := hide g2; clear INS q1 x1 ov o1 m1 hg1 g1 hY q2 x2 r2 o2 m2 g2 OU QU BU MU0 XU GU; have kx := (uh X2).cell 0 rfl; have k1 := (uh Q2).cell 1 rfl
    go_wp2
    have HYD : Hid (Named B Y.drew mb S) := (uh M2).drew
    obtain ⟨Z, MU, _, GZ⟩ := (uh HYD).put (n := y.name) (g := w.heap.size) hn (by have h1 := uh HSP; omega)
    have Q3 := hide (((uh Q2).drewn).kept GZ (fun e => (uh HYD).no_obj (uh Q2).drewn (by injection e)))
    have X3 := hide (((uh X2).drewn).kept GZ (fun e => (uh HYD).no_obj (uh X2).drewn (by injection e)))
    have O3 := hide ((uh O2).drew.mapped (uh HYD) GZ)
    have R3 : Hid (OwnPt B Z (.slice a1 l2.length c1) l2) := g_aside (uh R2).drew GZ (fun i hi e => (uh HYD).no_row (uh R2).drew (by rw [hi, ← e]))
    have G3 : Hid (GrownBut w Z (fun z => z = q ∨ (Value.slice (some ⟨qa, 0, none⟩) n c0).ownBlock = some z ∨ z = mb)) := ((uh G2).drews.then (GrownBut.of GZ)).mono (fun k hk hx => by
     rcases hx with (hx | hx) | hx
     ·exact hx
     ·exact .inl (Option.some.inj hx).symm
     ·exact .inr (.inr (Option.some.inj hx).symm))
    clear GZ Q2 R2 O2 M2 X2 G2 HYD HY f0 k0
    refine wp_region_held_drew (S := fun w' => w'.cell? ⟨w.heap.size, 0, none⟩ = some (.string y.name) ∧ w'.cell? ⟨q, 1, none⟩ = some (.map (some mb))) (by kernel_rfl) ⟨kx, k1⟩ (fun hHeld => ?_)
    clear kx k1
    refine tv 0 39 ?_; refine tv 1 40 ?_; refine tv 2 41 ?_; refine tv 3 42 ?_; refine tv 4 43 ?_; refine tv 5 44 ?_
    refine wpAnyH_ready (rs := [6]) (by kernel_rfl) (by simp) ?_
    refine AllReadyH.cons rfl (fun K hK => ?_) AllReadyH.nil
    go_simp
    refine hK.out _ _ ⟨(uh X3).cell 0 rfl, (uh Q3).cell 1 rfl⟩ (fun hHeld2 => ?_)
    clear hK K hHeld hHeld2 MU
    refine wpAnyH_done (by kernel_rfl) ?_ _
    have kv := (uh X3).cell 1 rfl; have kq := (uh Q3).cell 2 rfl; have fq := (uh Q3).frozen 2
    obtain ⟨E, hE⟩ : ∃ E, E = Z.setCell ⟨q, 2, none⟩ (.int .i64 (y.valid + 1)) := ⟨_, rfl⟩
    have q4 := (uh Q3).set 2 (.int .i64 (y.valid + 1))
    have r4 : OwnPt B (Z.setCell ⟨q, 2, none⟩ (.int .i64 (y.valid + 1))) (.slice a1 l2.length c1) l2 := (uh Q3).row (j := 2) (by decide) (uh R3) _
    have o4 := (uh O3).set (j := 2) (uh Q3) (by decide) (by decide) (by decide) (.int .i64 (y.valid + 1))
    have g4 := (uh G3).then (GrownBut.of (g_store (j := 2) (g_self Z (some q)) (.int .i64 (y.valid + 1))))
    rw [← hE] at q4 r4 o4 g4
    have HE := hE.symm; have Q4 := hide q4; have R4 := hide r4; have O4 := hide o4; have G4 := hide g4; clear hE q4 r4 o4 g4 Q3 R3 O3 G3 X3
    go_wp2
    go_end0
    refine ⟨rfl, _, k, by omega, uh HLOW, ?_, uh Q4, ?_, uh O4, (uh G4).mono (fun k hk hx => ?_)⟩
    ·intro p hp; rw [uh HPK] at hp; cases hp; exact uh HD
    ·rw [← uh HL2]; exact uh R4
    ·rcases hx with hx | hx
     ·exact hx
     ·exact .inl (Option.some.inj hx).symm
  ·obtain rfl : k = n := by omega
   have kq0 := (uh Q1).cell 0 rfl
   go_wp2
   refine wp_region_held_drew (S := fun w' => w'.cell? ⟨q, 0, none⟩ = some (.slice a0 k c0)) (by kernel_rfl) kq0 (fun hHeld => ?_)
   clear kq0
   refine tv 0 5 ?_; refine tv 1 6 ?_; refine tv 2 7 ?_; refine tv 3 8 ?_; refine tv 4 9 ?_; refine tv 5 10 ?_; refine tv 6 11 ?_; refine tv 7 12 ?_; refine tk 8 13 ?_; refine tk 9 14 ?_; refine tk 10 15 ?_; refine tk 11 16 ?_; refine tk 12 17 ?_; refine tk 13 18 ?_; refine tk 14 19 ?_; refine tk 15 20 ?_; refine tk 16 21 ?_; refine tk 17 22 ?_; refine tk 18 23 ?_; refine tk 19 24 ?_; refine tk 20 25 ?_; refine tv 21 26 ?_
   refine wpAnyH_done (by kernel_rfl) ?_ _
   have Q2 := hide (uh Q1).drewn
   have O2 : Hid (OwnPt B wo.drew (.slice a0 k c0) (P.map (·.2))) := (uh O1).drew
   have B2 := hide (uh B1).drew; have M2 := hide (uh M1).drew; have X2 := hide (uh X1).drewn
   have BB2 : Hid (Below X.heap.size X wo.drew) := (uh BB).drew
   clear Q1 O1 B1 M1 X1 BB; have Q1 := Q2; have O1 := O2; have B1 := B2; have M1 := M2; have X1 := X2; have BB := BB2; clear Q2 O2 B2 M2 X2 BB2
   obtain ⟨wd, hwd⟩ : ∃ x, x = wo.drew := ⟨_, rfl⟩
   rw [← hwd] at Q1 O1 B1 M1 X1 BB ⊢
   clear hwd
   obtain ⟨U, hU⟩ : ∃ U, U = wd.alloc (.cells ([.pointer (some ⟨w.heap.size, 0, none⟩)] : List Value).toArray 52) := ⟨_, rfl⟩
   have u0 : HasObj U wd.heap.size 52 [.pointer (some ⟨w.heap.size, 0, none⟩)] := by rw [hU]; exact HasObj.new _ _ _
   have hbU : Below wd.heap.size wd U := by rw [hU]; exact (Below.refl _ _).alloc (Nat.le_refl _) _
   have LW : Hid (w.heap.size ≤ wd.heap.size) := Nat.le_trans (uh HBX).size (uh BB).size
   have OU := hide ((uh O1).up hbU); have QU := hide ((uh Q1).ups hbU); have BU := hide ((uh B1).up hbU); have MU0 := hide ((uh M1).up hbU); have XU := hide ((uh X1).ups hbU)
   have GU : Hid (GrownBut w U (fun z => z = q ∨ (Value.slice a0 k c0).ownBlock = some z ∨ z = mb)) := ((GrownBut.below (uh HBX) rfl).then ((GrownBut.below (uh BB) rfl).then (GrownBut.below hbU rfl))).mono (fun k hk hx => by rcases hx with hx | hx | hx <;> exact absurd hx id)
   have INS := hide (insertPt (P.map (·.2)) (.slice a0 k c0) B w.heap.size wd.heap.size k U (by rw [List.length_map]; exact hl) (uh OU) u0 (by have := hbU.size; have := uh LW; omega) (by rw [List.length_map, ← uh HN]; omega) (fun e => by have q1_ := uh RLT _ e; have q2_ := uh LW; omega))
   have k0 := (uh Q1).cell 0 rfl; have HU := hU.symm; clear hU u0 hbU O1 Q1 B1 M1 X1 BB; go_wp2_with fail; clear HU k0
   refine (uh INS).mono ?_
   rintro e w1 ⟨v', rfl, ov, hg1⟩
   have q1 := (uh QU).kept hg1 (fun e => (uh QU).not_row (by decide) (uh OU) e.symm)
   have x1 := (uh XU).kept hg1 (fun e => by have q1_ := uh RLT _ e.symm; omega)
   have o1 := (uh BU).aside (uh OU) hg1 (by decide) (by decide) (by decide)
   have m1 := (uh MU0).kept hg1 (fun e => (uh MU0).no_row (uh OU) e.symm)
   have g1 : GrownBut w w1 (fun z => z = q ∨ (Value.slice a0 k c0).ownBlock = some z ∨ z = mb) := ((uh GU).then (GrownBut.of hg1)).mono (fun k hk hx => by rcases hx with hx | hx; exact hx; exact .inr (.inl hx))
   obtain ⟨l2, hl2⟩ : ∃ z, z = (P.map (·.2)).take k ++ w.heap.size :: (P.map (·.2)).drop k := ⟨_, rfl⟩
   rw [← hl2] at ov
   have HL2 := hide hl2; clear hl2
   obtain ⟨a1, c1, rfl⟩ := g_shape ov
   have f0 := q1.frozen 0; have k0 := q1.cell 0 rfl
   obtain ⟨Y, hY⟩ : ∃ Y, Y = w1.setCell ⟨q, 0, none⟩ (.slice a1 l2.length c1) := ⟨_, rfl⟩
   have q2 := q1.set 0 (.slice a1 l2.length c1); have x2 := x1.other (j := 0) nq (.slice a1 l2.length c1)
   have r2 : OwnPt B (w1.setCell ⟨q, 0, none⟩ (.slice a1 l2.length c1)) (.slice a1 l2.length c1) l2 := q1.row (j := 0) (by decide) ov (.slice a1 l2.length c1)
   have o2 := o1.set (j := 0) q1 (by decide) (by decide) (by decide) (.slice a1 l2.length c1)
   have m2 := m1.set (j := 0) q1 (.slice a1 l2.length c1); have g2 := g1.then (GrownBut.of (g_store (j := 0) (g_self w1 (some q)) (.slice a1 l2.length c1)))
   rw [← hY] at q2 x2 r2 o2 m2 g2
   have HY := hY.symm; have Q2 := hide q2; have R2 := hide r2; have O2 := hide o2; have M2 := hide m2; have X2 := hide x2; have G2 := hide g2; clear INS q1 x1 ov o1 m1 hg1 g1 hY q2 x2 r2 o2 m2 g2 OU QU BU MU0 XU GU; have kx := (uh X2).cell 0 rfl; have k1 := (uh Q2).cell 1 rfl
   go_wp2
   have HYD : Hid (Named B Y.drew mb S) := (uh M2).drew
   obtain ⟨Z, MU, _, GZ⟩ := (uh HYD).put (n := y.name) (g := w.heap.size) hn (by have h1 := uh HSP; omega)
   have Q3 := hide (((uh Q2).drewn).kept GZ (fun e => (uh HYD).no_obj (uh Q2).drewn (by injection e)))
   have X3 := hide (((uh X2).drewn).kept GZ (fun e => (uh HYD).no_obj (uh X2).drewn (by injection e)))
   have O3 := hide ((uh O2).drew.mapped (uh HYD) GZ)
   have R3 : Hid (OwnPt B Z (.slice a1 l2.length c1) l2) := g_aside (uh R2).drew GZ (fun i hi e => (uh HYD).no_row (uh R2).drew (by rw [hi, ← e]))
   have G3 : Hid (GrownBut w Z (fun z => z = q ∨ (Value.slice a0 k c0).ownBlock = some z ∨ z = mb)) := ((uh G2).drews.then (GrownBut.of GZ)).mono (fun k hk hx => by
    rcases hx with (hx | hx) | hx
    ·exact hx
    ·exact .inl (Option.some.inj hx).symm
    ·exact .inr (.inr (Option.some.inj hx).symm))
   clear GZ Q2 R2 O2 M2 X2 G2 HYD HY f0 k0
   refine wp_region_held_drew (S := fun w' => w'.cell? ⟨w.heap.size, 0, none⟩ = some (.string y.name) ∧ w'.cell? ⟨q, 1, none⟩ = some (.map (some mb))) (by kernel_rfl) ⟨kx, k1⟩ (fun hHeld => ?_)
   clear kx k1
   refine tv 0 39 ?_; refine tv 1 40 ?_; refine tv 2 41 ?_; refine tv 3 42 ?_; refine tv 4 43 ?_; refine tv 5 44 ?_
   refine wpAnyH_ready (rs := [6]) (by kernel_rfl) (by simp) ?_
   refine AllReadyH.cons rfl (fun K hK => ?_) AllReadyH.nil
   go_simp
   refine hK.out _ _ ⟨(uh X3).cell 0 rfl, (uh Q3).cell 1 rfl⟩ (fun hHeld2 => ?_)
   clear hK K hHeld hHeld2 MU
   refine wpAnyH_done (by kernel_rfl) ?_ _
   have kv := (uh X3).cell 1 rfl; have kq := (uh Q3).cell 2 rfl; have fq := (uh Q3).frozen 2
   obtain ⟨E, hE⟩ : ∃ E, E = Z.setCell ⟨q, 2, none⟩ (.int .i64 (y.valid + 1)) := ⟨_, rfl⟩
   have q4 := (uh Q3).set 2 (.int .i64 (y.valid + 1))
   have r4 : OwnPt B (Z.setCell ⟨q, 2, none⟩ (.int .i64 (y.valid + 1))) (.slice a1 l2.length c1) l2 := (uh Q3).row (j := 2) (by decide) (uh R3) _
   have o4 := (uh O3).set (j := 2) (uh Q3) (by decide) (by decide) (by decide) (.int .i64 (y.valid + 1))
   have g4 := (uh G3).then (GrownBut.of (g_store (j := 2) (g_self Z (some q)) (.int .i64 (y.valid + 1))))
   rw [← hE] at q4 r4 o4 g4
   have HE := hE.symm; have Q4 := hide q4; have R4 := hide r4; have O4 := hide o4; have G4 := hide g4; clear hE q4 r4 o4 g4 Q3 R3 O3 G3 X3
   go_wp2
   go_end0
   refine ⟨rfl, _, k, by omega, uh HLOW, ?_, uh Q4, ?_, uh O4, (uh G4).mono (fun k hk hx => ?_)⟩
   ·intro p hp; rw [List.getElem?_eq_none (by have := uh HN; omega)] at hp; cases hp
   ·rw [← uh HL2]; exact uh R4
   ·rcases hx with hx | hx
    ·exact hx
    ·exact .inl (Option.some.inj hx).symm
end Go.Proofs.Ytanapiaobpoebaa
