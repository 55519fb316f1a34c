/- Several texts in one. -/
import Derived.Test.YtlngjflhbkannaaGreatBoxA
import Derived.Test.YtlngjflhbkannaaGreatBoxNameS
import Derived.BigQuiet
import Derived.Test.YtlngjflhbkannaaGreatTv
import Derived.Test.YtlngjflhbkannaaGreatRegA
import Derived.Test.YtlngjflhbkannaaGreatSetA
namespace Go.Proofs.YtlngjflhbkannaaGreat
open Go.RowKit
open Plain
set_option linter.unusedVariables false
set_option linter.unusedSimpArgs false

/-- A row of mails that is read, a beginning of a row too. -/
def ReadM (w : World) (v : Value) (l : List Ml) : Prop := ∃ a c, v = .slice a l.length c ∧ ∀ (k : Nat) (f : Ml), l[k]? = some f →
 ∃ g, a = some ⟨g, 0, none⟩ ∧ g < w.heap.size ∧ w.cell? ⟨g, k * 4, none⟩ = some (.int .i64 f.uid) ∧ w.cell? ⟨g, k * 4 + 1, none⟩ = some (.int .i64 f.flags) ∧ w.cell? ⟨g, k * 4 + 2, none⟩ = some (.int .i64 f.mod) ∧ w.cell? ⟨g, k * 4 + 3, none⟩ = some (.string f.text)
theorem OwnMl.read {B : Nat} {w : World} {v : Value} {l : List Ml} (h : OwnMl B w v l) : ReadM w v l := by
 obtain ⟨a, c, hv⟩ := g_shape h
 refine ⟨a, c, hv, fun k f hx => ?_⟩
 obtain ⟨g, c', e, hg, c0, c1, c2, c3⟩ := ml_read h (Below.refl _ _) hx
 rw [hv] at e
 exact ⟨g, (Value.slice.inj e).1, hg, c0, c1, c2, c3⟩
theorem below_dM (W : World) (q : Nat) : Below W.heap.size W (W.drewN q) := ⟨rfl, rfl, rfl, Nat.le_refl _, fun _ _ => rfl⟩

end Go.Proofs.YtlngjflhbkannaaGreat

namespace Go.Proofs.YtlngjflhbkannaaGreat
open Go.RowKit
open Plain
set_option linter.unusedVariables false
set_option linter.unusedSimpArgs false

theorem belowS {w W W' : World} (h : Below w.heap.size w W) (hb : Below W.heap.size W W') : Below w.heap.size w W' := h.trans (hb.mono h.size)
set_option maxHeartbeats 8000000 in
set_option maxRecDepth 100000 in
theorem l19SameBox_same (b : Bx) (m1 t1 m2 t2 : Value) (B1 B2 : Nat) (w : World) (hl1 : b.mails.length ≤ 1048576) (hl2 : b.tombs.length ≤ 1048576) (h1 : OwnBx B1 w m1 t1 b) (h2 : OwnBx B2 w m2 t2 b) :
  Calls Tryz.prog 135 #[boxV b m1 t1, boxV b m2 t2] w fun e w' => e = .returned (.bool true) ∧ Below w.heap.size w w' := by
 have M1 := hide (fun (W : World) hb k f hx => ml_read (W := W) h1.1 hb (k := k) (f := f) hx)
 have M2 := hide (fun (W : World) hb k f hx => ml_read (W := W) h2.1 hb (k := k) (f := f) hx)
 have T1 := hide (fun (W : World) hb k f hx => tb_read (W := W) h1.2 hb (k := k) (f := f) hx)
 have T2 := hide (fun (W : World) hb k f hx => tb_read (W := W) h2.2 hb (k := k) (f := f) hx)
 obtain ⟨am, cm, rfl⟩ := g_shape h1.1
 obtain ⟨at1, ct1, rfl⟩ := g_shape h1.2
 obtain ⟨an, cn, rfl⟩ := g_shape h2.1
 obtain ⟨at2, ct2, rfl⟩ := g_shape h2.2
 clear h1 h2; have BB := hide (Below.refl w.heap.size w)
 obtain ⟨w1, hA⟩ : ∃ X, X = w.alloc (.cells ([.string b.name, .int .i64 b.valid, .int .i64 b.next, .int .i64 b.mod, .slice am b.mails.length cm, .slice at1 b.tombs.length ct1, .int .i64 b.hor] : List Value).toArray 50) := ⟨_, rfl⟩
 have Ax : HasObj w1 w.heap.size 50 [.string b.name, .int .i64 b.valid, .int .i64 b.next, .int .i64 b.mod, .slice am b.mails.length cm, .slice at1 b.tombs.length ct1, .int .i64 b.hor] := by rw [hA]; exact HasObj.new _ _ _
 have hbn : Below w.heap.size w w1 := by rw [hA]; exact (Below.refl _ _).alloc (Nat.le_refl _) _
 have loA : w.heap.size ≤ w.heap.size := (uh BB).size
 have EA := hA.symm; clear hA; have sz1 := hide (hbn.size); replace BB := hide (below_y (uh BB) hbn); clear hbn; have A := hide Ax; clear Ax
 obtain ⟨w2, hC⟩ : ∃ X, X = w1.alloc (.cells ([.string b.name, .int .i64 b.valid, .int .i64 b.next, .int .i64 b.mod, .slice an b.mails.length cn, .slice at2 b.tombs.length ct2, .int .i64 b.hor] : List Value).toArray 50) := ⟨_, rfl⟩
 have Cx : HasObj w2 w1.heap.size 50 [.string b.name, .int .i64 b.valid, .int .i64 b.next, .int .i64 b.mod, .slice an b.mails.length cn, .slice at2 b.tombs.length ct2, .int .i64 b.hor] := by rw [hC]; exact HasObj.new _ _ _
 have hbn : Below w1.heap.size w1 w2 := by rw [hC]; exact (Below.refl _ _).alloc (Nat.le_refl _) _
 have neAC : w.heap.size ≠ w1.heap.size := Nat.ne_of_lt (uh A).lt
 have loC : w.heap.size ≤ w1.heap.size := (uh BB).size
 have EC := hC.symm; clear hC; replace A := hide ((uh A).ups hbn); have sz2 := hide (hbn.size); replace BB := hide (below_y (uh BB) hbn); clear hbn; have C := hide Cx; clear Cx; have Ac0_1 := (uh A).cell 0 rfl; have Ac1_1 := (uh A).cell 1 rfl; have Ac2_1 := (uh A).cell 2 rfl; have Ac3_1 := (uh A).cell 3 rfl; have Ac4_1 := (uh A).cell 4 rfl; have Ac5_1 := (uh A).cell 5 rfl; have Ac6_1 := (uh A).cell 6 rfl; have Cc0_2 := (uh C).cell 0 rfl; have Cc1_2 := (uh C).cell 1 rfl; have Cc2_2 := (uh C).cell 2 rfl; have Cc3_2 := (uh C).cell 3 rfl; have Cc4_2 := (uh C).cell 4 rfl; have Cc5_2 := (uh C).cell 5 rfl; have Cc6_2 := (uh C).cell 6 rfl
 go_enter Tryz.func135, Tryz.ntmps135
 go_wp2
 clear Ac0_1 Ac1_1 Ac2_1 Ac3_1 Ac4_1 Ac5_1 Ac6_1 Cc0_2 Cc1_2 Cc2_2 Cc3_2 Cc4_2 Cc5_2 Cc6_2 EA EC
 go_loopw [5] (fun i wr => ∃ k : Nat, k ≤ b.mails.length ∧ i = .int .i64 k ∧ HasObj wr w.heap.size 50 [.string b.name, .int .i64 b.valid, .int .i64 b.next, .int .i64 b.mod, .slice am b.mails.length cm, .slice at1 b.tombs.length ct1, .int .i64 b.hor] ∧ HasObj wr w1.heap.size 50 [.string b.name, .int .i64 b.valid, .int .i64 b.next, .int .i64 b.mod, .slice an b.mails.length cn, .slice at2 b.tombs.length ct2, .int .i64 b.hor] ∧ Below w.heap.size w wr) (fun i _ => b.mails.length - (intOf i).toNat)
 case atStart => exact ⟨0, Nat.zero_le _, rfl, uh A, uh C, uh BB⟩
 clear A C BB
 case round =>
  obtain ⟨k, hk, rfl, oA, oC, hbel⟩ := hrel
  obtain ⟨wo5, hwo⟩ : ∃ wo, wo = wr := ⟨_, rfl⟩
  subst hwo
  by_cases hlt : k < b.mails.length
  ·have hgk : b.mails[k]? = some b.mails[k] := List.getElem?_eq_getElem hlt
   obtain ⟨g1, q1, e1, _, c0, c1, c2, c3⟩ := uh M1 wo5 hbel k _ hgk
   obtain ⟨g2, q2, e2, _, d0, d1, d2, d3⟩ := uh M2 wo5 hbel k _ hgk
   have e3 := (Value.slice.inj e1).1; have e4 := (Value.slice.inj e2).1; clear e1 e2
   subst e3 e4
   generalize b.mails[k] = x at *
   obtain ⟨x0, x1, x2, x3⟩ := x
   simp only at c0 c1 c2 c3 d0 d1 d2 d3
   clear hgk
   have i1 : (0 : Int) ≤ (k : Int) := by omega
   have i2 : (k : Int) < (b.mails.length : Int) := by omega
   have ca := oA.cell 4 rfl; have cc := oC.cell 4 rfl; have A := hide oA; have C := hide oC; have BB := hide hbel; clear oA oC hbel
   go_wp2
   go_quiet (fail)
   obtain ⟨wq, hwq⟩ : ∃ X, X = wo5.drewN nq := ⟨_, rfl⟩
   rw [← hwq]
   have hb : Below wo5.heap.size wo5 wq := by rw [hwq]; exact below_dM _ _
   have A_ := hide ((uh A).ups hb); have C_ := hide ((uh C).ups hb); have BB_ := hide (belowS (uh BB) hb); clear hwq hb A C BB ca cc c0 c1 c2 c3 d0 d1 d2 d3
   go_wp2
   go_roundw
   case rel => exact ⟨k + 1, by omega, by go_num, uh A_, uh C_, uh BB_⟩
   case measure => simp [intOf]; omega
  ·obtain rfl : k = b.mails.length := by omega
   have ca := oA.cell 4 rfl; have cc := oC.cell 4 rfl; have cb := oA.cell 5 rfl; have A := hide oA; have C := hide oC; have BB := hide hbel; clear oA oC hbel hlt hk
   go_wp2
   clear ca cc cb
   go_loopw [6] (fun i wr => ∃ k : Nat, k ≤ b.tombs.length ∧ i = .int .i64 k ∧ HasObj wr w.heap.size 50 [.string b.name, .int .i64 b.valid, .int .i64 b.next, .int .i64 b.mod, .slice am b.mails.length cm, .slice at1 b.tombs.length ct1, .int .i64 b.hor] ∧ HasObj wr w1.heap.size 50 [.string b.name, .int .i64 b.valid, .int .i64 b.next, .int .i64 b.mod, .slice an b.mails.length cn, .slice at2 b.tombs.length ct2, .int .i64 b.hor] ∧ Below w.heap.size w wr) (fun i _ => b.tombs.length - (intOf i).toNat)
   case atStart => exact ⟨0, Nat.zero_le _, rfl, uh A, uh C, uh BB⟩
   clear A C BB
   case round =>
    obtain ⟨k, hk, rfl, oA, oC, hbel⟩ := hrel
    obtain ⟨wo6, hwo⟩ : ∃ wo, wo = wr := ⟨_, rfl⟩
    subst hwo
    by_cases hlt : k < b.tombs.length
    ·have hgk : b.tombs[k]? = some b.tombs[k] := List.getElem?_eq_getElem hlt
     obtain ⟨g1, q1, e1, _, c0, c1⟩ := uh T1 wo6 hbel k _ hgk
     obtain ⟨g2, q2, e2, _, d0, d1⟩ := uh T2 wo6 hbel k _ hgk
     have e3 := (Value.slice.inj e1).1; have e4 := (Value.slice.inj e2).1; clear e1 e2
     subst e3 e4
     generalize b.tombs[k] = x at *
     obtain ⟨x0, x1⟩ := x
     simp only at c0 c1 d0 d1
     clear hgk
     have i1 : (0 : Int) ≤ (k : Int) := by omega
     have i2 : (k : Int) < (b.tombs.length : Int) := by omega
     have ca := oA.cell 5 rfl; have cc := oC.cell 5 rfl; have A := hide oA; have C := hide oC; have BB := hide hbel; clear oA oC hbel
     go_wp2
     go_quiet (fail)
     obtain ⟨wq, hwq⟩ : ∃ X, X = wo6.drewN nq := ⟨_, rfl⟩
     rw [← hwq]
     have hb : Below wo6.heap.size wo6 wq := by rw [hwq]; exact below_dM _ _
     have A_ := hide ((uh A).ups hb); have C_ := hide ((uh C).ups hb); have BB_ := hide (belowS (uh BB) hb); clear hwq hb A C BB ca cc c0 c1 d0 d1
     go_wp2
     go_roundw
     case rel => exact ⟨k + 1, by omega, by go_num, uh A_, uh C_, uh BB_⟩
     case measure => simp [intOf]; omega
    ·obtain rfl : k = b.tombs.length := by omega
     have ca := oA.cell 5 rfl; have cc := oC.cell 5 rfl; have A := hide oA; have C := hide oC; have BB := hide hbel; clear oA oC hbel hlt hk
     go_wp2
     go_ret
     exact ⟨rfl, uh BB⟩
set_option maxHeartbeats 8000000 in
set_option maxRecDepth 100000 in
theorem SameStore_one (b : Bx) (m1 t1 m2 t2 : Value) (B1 B2 g1 g2 : Nat) (w : World) (hl1 : b.mails.length ≤ 1048576) (hl2 : b.tombs.length ≤ 1048576) (h1 : OwnBx B1 w m1 t1 b) (h2 : OwnBx B2 w m2 t2 b) (k1 : HasObj w g1 50 (boxL b m1 t1)) (k2 : HasObj w g2 50 (boxL b m2 t2)) :
  Calls Tryz.prog 92 #[.agg #[.slice (some ⟨g1, 0, none⟩) 1 1, .int .i64 0], .agg #[.slice (some ⟨g2, 0, none⟩) 1 1, .int .i64 0]] w fun e w' => e = .returned (.bool true) ∧ Below w.heap.size w w' := by
 obtain ⟨am, cm, rfl⟩ := g_shape h1.1
 obtain ⟨at1, ct1, rfl⟩ := g_shape h1.2
 obtain ⟨an, cn, rfl⟩ := g_shape h2.1
 obtain ⟨at2, ct2, rfl⟩ := g_shape h2.2
 have O1 := hide h1; have O2 := hide h2; have K1 := hide k1; have K2 := hide k2; clear h1 h2 k1 k2; have BB := hide (Below.refl w.heap.size w)
 obtain ⟨ws1, hA⟩ : ∃ X, X = w.alloc (.cells ([.slice (some ⟨g1, 0, none⟩) 1 1, .int .i64 0] : List Value).toArray 32) := ⟨_, rfl⟩
 have Ax : HasObj ws1 w.heap.size 32 [.slice (some ⟨g1, 0, none⟩) 1 1, .int .i64 0] := by rw [hA]; exact HasObj.new _ _ _
 have hbn : Below w.heap.size w ws1 := by rw [hA]; exact (Below.refl _ _).alloc (Nat.le_refl _) _
 have neK1A : g1 ≠ w.heap.size := Nat.ne_of_lt (uh K1).lt
 have neK2A : g2 ≠ w.heap.size := Nat.ne_of_lt (uh K2).lt
 have loA : w.heap.size ≤ w.heap.size := (uh BB).size
 have EA := hA.symm; clear hA; replace K1 := hide ((uh K1).ups hbn); replace K2 := hide ((uh K2).ups hbn); replace O1 := hide ((uh O1).up hbn); replace O2 := hide ((uh O2).up hbn); have sz1 := hide (hbn.size); replace BB := hide (below_y (uh BB) hbn); clear hbn; have A := hide Ax; clear Ax
 obtain ⟨ws2, hC⟩ : ∃ X, X = ws1.alloc (.cells ([.slice (some ⟨g2, 0, none⟩) 1 1, .int .i64 0] : List Value).toArray 32) := ⟨_, rfl⟩
 have Cx : HasObj ws2 ws1.heap.size 32 [.slice (some ⟨g2, 0, none⟩) 1 1, .int .i64 0] := by rw [hC]; exact HasObj.new _ _ _
 have hbn : Below ws1.heap.size ws1 ws2 := by rw [hC]; exact (Below.refl _ _).alloc (Nat.le_refl _) _
 have neK1C : g1 ≠ ws1.heap.size := Nat.ne_of_lt (uh K1).lt
 have neK2C : g2 ≠ ws1.heap.size := Nat.ne_of_lt (uh K2).lt
 have neAC : w.heap.size ≠ ws1.heap.size := Nat.ne_of_lt (uh A).lt
 have loC : w.heap.size ≤ ws1.heap.size := (uh BB).size
 have EC := hC.symm; clear hC; replace K1 := hide ((uh K1).ups hbn); replace K2 := hide ((uh K2).ups hbn); replace A := hide ((uh A).ups hbn); replace O1 := hide ((uh O1).up hbn); replace O2 := hide ((uh O2).up hbn); have sz2 := hide (hbn.size); replace BB := hide (below_y (uh BB) hbn); clear hbn; have C := hide Cx; clear Cx; have Ac0_1 := (uh A).cell 0 rfl; have Ac1_1 := (uh A).cell 1 rfl; have Cc0_2 := (uh C).cell 0 rfl; have Cc1_2 := (uh C).cell 1 rfl
 go_enter Tryz.func92, Tryz.ntmps92
 go_wp2
 clear Ac0_1 Ac1_1 Cc0_2 Cc1_2 EA EC
 go_loopw [5] (fun i wr => ∃ k : Nat, k ≤ 1 ∧ i = .int .i64 k ∧ HasObj wr w.heap.size 32 [.slice (some ⟨g1, 0, none⟩) 1 1, .int .i64 0] ∧ HasObj wr ws1.heap.size 32 [.slice (some ⟨g2, 0, none⟩) 1 1, .int .i64 0] ∧ HasObj wr g1 50 [.string b.name, .int .i64 b.valid, .int .i64 b.next, .int .i64 b.mod, .slice am b.mails.length cm, .slice at1 b.tombs.length ct1, .int .i64 b.hor] ∧ HasObj wr g2 50 [.string b.name, .int .i64 b.valid, .int .i64 b.next, .int .i64 b.mod, .slice an b.mails.length cn, .slice at2 b.tombs.length ct2, .int .i64 b.hor] ∧ OwnBx B1 wr (.slice am b.mails.length cm) (.slice at1 b.tombs.length ct1) b ∧ OwnBx B2 wr (.slice an b.mails.length cn) (.slice at2 b.tombs.length ct2) b ∧ Below w.heap.size w wr) (fun i _ => 1 - (intOf i).toNat)
 case atStart => exact ⟨0, by omega, rfl, uh A, uh C, uh K1, uh K2, uh O1, uh O2, uh BB⟩
 clear A C K1 K2 O1 O2 BB
 case round =>
  obtain ⟨k, hk, rfl, oA, oC, oK1, oK2, oO1, oO2, hbel⟩ := hrel
  obtain ⟨wo, hwo⟩ : ∃ wo, wo = wr := ⟨_, rfl⟩
  subst hwo
  have A := hide oA; have C := hide oC; have K1 := hide oK1; have K2 := hide oK2; have O1 := hide oO1; have O2 := hide oO2; have BB := hide hbel; clear oA oC oK1 oK2 oO1 oO2 hbel
  have hk2 : k = 0 ∨ k = 1 := by omega
  rcases hk2 with rfl | rfl
  ·simp only [show ((0 : Nat) : Int) = 0 from rfl]
   have Ac0_3 := (uh A).cell 0 rfl; have Ac1_3 := (uh A).cell 1 rfl; have Cc0_4 := (uh C).cell 0 rfl; have Cc1_4 := (uh C).cell 1 rfl; have K1c0_5 := (uh K1).cell 0 rfl; have K1c1_5 := (uh K1).cell 1 rfl; have K1c2_5 := (uh K1).cell 2 rfl; have K1c3_5 := (uh K1).cell 3 rfl; have K1c4_5 := (uh K1).cell 4 rfl; have K1c5_5 := (uh K1).cell 5 rfl; have K1c6_5 := (uh K1).cell 6 rfl; have K2c0_6 := (uh K2).cell 0 rfl; have K2c1_6 := (uh K2).cell 1 rfl; have K2c2_6 := (uh K2).cell 2 rfl; have K2c3_6 := (uh K2).cell 3 rfl; have K2c4_6 := (uh K2).cell 4 rfl; have K2c5_6 := (uh K2).cell 5 rfl; have K2c6_6 := (uh K2).cell 6 rfl
   go_wp2
   refine wp_region_held_drew (S := fun w' => w'.cell? ⟨w.heap.size, 0, none⟩ = some (.slice (some ⟨g1, 0, none⟩) 1 1) ∧ w'.cell? ⟨ws1.heap.size, 0, none⟩ = some (.slice (some ⟨g2, 0, none⟩) 1 1) ∧ w'.cell? ⟨g1, 0, none⟩ = some (.string b.name) ∧ w'.cell? ⟨g1, 1, none⟩ = some (.int .i64 b.valid) ∧ w'.cell? ⟨g1, 2, none⟩ = some (.int .i64 b.next) ∧ w'.cell? ⟨g1, 3, none⟩ = some (.int .i64 b.mod) ∧ w'.cell? ⟨g1, 4, none⟩ = some (.slice am b.mails.length cm) ∧ w'.cell? ⟨g1, 5, none⟩ = some (.slice at1 b.tombs.length ct1) ∧ w'.cell? ⟨g1, 6, none⟩ = some (.int .i64 b.hor) ∧ w'.cell? ⟨g2, 0, none⟩ = some (.string b.name) ∧ w'.cell? ⟨g2, 1, none⟩ = some (.int .i64 b.valid) ∧ w'.cell? ⟨g2, 2, none⟩ = some (.int .i64 b.next) ∧ w'.cell? ⟨g2, 3, none⟩ = some (.int .i64 b.mod) ∧ w'.cell? ⟨g2, 4, none⟩ = some (.slice an b.mails.length cn) ∧ w'.cell? ⟨g2, 5, none⟩ = some (.slice at2 b.tombs.length ct2) ∧ w'.cell? ⟨g2, 6, none⟩ = some (.int .i64 b.hor)) (by kernel_rfl) (⟨(uh A).cell 0 rfl, (uh C).cell 0 rfl, (uh K1).cell 0 rfl, (uh K1).cell 1 rfl, (uh K1).cell 2 rfl, (uh K1).cell 3 rfl, (uh K1).cell 4 rfl, (uh K1).cell 5 rfl, (uh K1).cell 6 rfl, (uh K2).cell 0 rfl, (uh K2).cell 1 rfl, (uh K2).cell 2 rfl, (uh K2).cell 3 rfl, (uh K2).cell 4 rfl, (uh K2).cell 5 rfl, (uh K2).cell 6 rfl⟩) (fun hHeld => ?_)
   clear Ac0_3 Ac1_3 Cc0_4 Cc1_4 K1c0_5 K1c1_5 K1c2_5 K1c3_5 K1c4_5 K1c5_5 K1c6_5 K2c0_6 K2c1_6 K2c2_6 K2c3_6 K2c4_6 K2c5_6 K2c6_6; replace K1 := hide ((uh K1).drew); replace K2 := hide ((uh K2).drew); replace A := hide ((uh A).drew); replace C := hide ((uh C).drew); replace O1 := hide ((uh O1).drew); replace O2 := hide ((uh O2).drew); replace BB := hide ((uh BB).drew)
   have sz51 : Hid (wo.heap.size ≤ wo.drew.heap.size) := Nat.le_refl _
   refine tv 0 27 ?_; refine tv 1 28 ?_; refine tv 2 29 ?_; refine tv 3 30 ?_; refine tv 4 31 ?_; refine tv 5 32 ?_; refine tv 6 33 ?_; refine tv 7 34 ?_; refine tv 8 35 ?_; refine tv 9 36 ?_
   refine wpAnyH_ready (rs := [10]) (by kernel_rfl) (by simp) ?_
   refine AllReadyH.cons rfl (fun K hK => ?_) AllReadyH.nil
   go_simp
   refine (l19SameBox_same b _ _ _ _ _ _ _ hl1 hl2 (uh O1) (uh O2)).mono ?_
   rintro e wt1 ⟨rfl, hb⟩
   replace K1 := hide ((uh K1).ups hb); replace K2 := hide ((uh K2).ups hb); replace A := hide ((uh A).ups hb); replace C := hide ((uh C).ups hb); replace O1 := hide ((uh O1).up hb); replace O2 := hide ((uh O2).up hb); have sz52 := hide (hb.size); replace BB := hide (below_y (uh BB) hb); clear hb; go_wp2_with fail
   refine hK.out _ _ (⟨(uh A).cell 0 rfl, (uh C).cell 0 rfl, (uh K1).cell 0 rfl, (uh K1).cell 1 rfl, (uh K1).cell 2 rfl, (uh K1).cell 3 rfl, (uh K1).cell 4 rfl, (uh K1).cell 5 rfl, (uh K1).cell 6 rfl, (uh K2).cell 0 rfl, (uh K2).cell 1 rfl, (uh K2).cell 2 rfl, (uh K2).cell 3 rfl, (uh K2).cell 4 rfl, (uh K2).cell 5 rfl, (uh K2).cell 6 rfl⟩) (fun hHeld2 => ?_)
   clear hK K hHeld; have hHeld := hHeld2; clear hHeld2
   try simp only [Act.put, p1, p2, p3]
   refine tv 11 38 ?_
   refine wpAnyH_done (by kernel_rfl) ?_ _
   go_wp2
   go_roundw
   case rel => exact ⟨1, by omega, by go_num, uh A, uh C, uh K1, uh K2, uh O1, uh O2, uh BB⟩
   case measure => simp [intOf]
  ·simp only [show ((1 : Nat) : Int) = 1 from rfl]
   have Ac0_3 := (uh A).cell 0 rfl; have Ac1_3 := (uh A).cell 1 rfl; have Cc0_4 := (uh C).cell 0 rfl; have Cc1_4 := (uh C).cell 1 rfl
   go_wp2
   go_ret
   exact ⟨rfl, uh BB⟩
set_option maxHeartbeats 8000000 in
set_option maxRecDepth 100000 in
theorem sameBox_same (b : Bx) (m1 t1 m2 t2 : Value) (B1 B2 : Nat) (w : World) (hl1 : b.mails.length ≤ 1048576) (hl2 : b.tombs.length ≤ 1048576) (h1 : OwnBx B1 w m1 t1 b) (h2 : OwnBx B2 w m2 t2 b) :
  Calls Tryz.prog 30 #[boxV b m1 t1, boxV b m2 t2] w fun e w' => e = .returned (.bool true) ∧ Below w.heap.size w w' := by
 obtain ⟨am, cm, rfl⟩ := g_shape h1.1
 obtain ⟨at1, ct1, rfl⟩ := g_shape h1.2
 obtain ⟨an, cn, rfl⟩ := g_shape h2.1
 obtain ⟨at2, ct2, rfl⟩ := g_shape h2.2
 have O1 := hide h1; have O2 := hide h2; clear h1 h2; have BB := hide (Below.refl w.heap.size w)
 obtain ⟨wu1, hP⟩ : ∃ X, X = w.alloc (.cells ([.string b.name, .int .i64 b.valid, .int .i64 b.next, .int .i64 b.mod, .slice am b.mails.length cm, .slice at1 b.tombs.length ct1, .int .i64 b.hor] : List Value).toArray 50) := ⟨_, rfl⟩
 have Px : HasObj wu1 w.heap.size 50 [.string b.name, .int .i64 b.valid, .int .i64 b.next, .int .i64 b.mod, .slice am b.mails.length cm, .slice at1 b.tombs.length ct1, .int .i64 b.hor] := by rw [hP]; exact HasObj.new _ _ _
 have hbn : Below w.heap.size w wu1 := by rw [hP]; exact (Below.refl _ _).alloc (Nat.le_refl _) _
 have loP : w.heap.size ≤ w.heap.size := (uh BB).size
 have EP := hP.symm; clear hP; replace O1 := hide ((uh O1).up hbn); replace O2 := hide ((uh O2).up hbn); have sz1 := hide (hbn.size); replace BB := hide (below_y (uh BB) hbn); clear hbn; have P := hide Px; clear Px
 obtain ⟨wu2, hQ⟩ : ∃ X, X = wu1.alloc (.cells ([.string b.name, .int .i64 b.valid, .int .i64 b.next, .int .i64 b.mod, .slice an b.mails.length cn, .slice at2 b.tombs.length ct2, .int .i64 b.hor] : List Value).toArray 50) := ⟨_, rfl⟩
 have Qx : HasObj wu2 wu1.heap.size 50 [.string b.name, .int .i64 b.valid, .int .i64 b.next, .int .i64 b.mod, .slice an b.mails.length cn, .slice at2 b.tombs.length ct2, .int .i64 b.hor] := by rw [hQ]; exact HasObj.new _ _ _
 have hbn : Below wu1.heap.size wu1 wu2 := by rw [hQ]; exact (Below.refl _ _).alloc (Nat.le_refl _) _
 have nePQ : w.heap.size ≠ wu1.heap.size := Nat.ne_of_lt (uh P).lt
 have loQ : w.heap.size ≤ wu1.heap.size := (uh BB).size
 have EQ := hQ.symm; clear hQ; replace P := hide ((uh P).ups hbn); replace O1 := hide ((uh O1).up hbn); replace O2 := hide ((uh O2).up hbn); have sz2 := hide (hbn.size); replace BB := hide (below_y (uh BB) hbn); clear hbn; have Q := hide Qx; clear Qx; have Pc0_1 := (uh P).cell 0 rfl; have Pc1_1 := (uh P).cell 1 rfl; have Pc2_1 := (uh P).cell 2 rfl; have Pc3_1 := (uh P).cell 3 rfl; have Pc4_1 := (uh P).cell 4 rfl; have Pc5_1 := (uh P).cell 5 rfl; have Pc6_1 := (uh P).cell 6 rfl; have Qc0_2 := (uh Q).cell 0 rfl; have Qc1_2 := (uh Q).cell 1 rfl; have Qc2_2 := (uh Q).cell 2 rfl; have Qc3_2 := (uh Q).cell 3 rfl; have Qc4_2 := (uh Q).cell 4 rfl; have Qc5_2 := (uh Q).cell 5 rfl; have Qc6_2 := (uh Q).cell 6 rfl
 obtain ⟨wu3, hK1⟩ : ∃ X, X = wu2.alloc (.cells ([.string b.name, .int .i64 b.valid, .int .i64 b.next, .int .i64 b.mod, .slice am b.mails.length cm, .slice at1 b.tombs.length ct1, .int .i64 b.hor] : List Value).toArray 50) := ⟨_, rfl⟩
 have K1x : HasObj wu3 wu2.heap.size 50 [.string b.name, .int .i64 b.valid, .int .i64 b.next, .int .i64 b.mod, .slice am b.mails.length cm, .slice at1 b.tombs.length ct1, .int .i64 b.hor] := by rw [hK1]; exact HasObj.new _ _ _
 have hbn : Below wu2.heap.size wu2 wu3 := by rw [hK1]; exact (Below.refl _ _).alloc (Nat.le_refl _) _
 have nePK1 : w.heap.size ≠ wu2.heap.size := Nat.ne_of_lt (uh P).lt
 have neQK1 : wu1.heap.size ≠ wu2.heap.size := Nat.ne_of_lt (uh Q).lt
 have loK1 : w.heap.size ≤ wu2.heap.size := (uh BB).size
 have EK1 := hK1.symm; clear hK1; replace P := hide ((uh P).ups hbn); replace Q := hide ((uh Q).ups hbn); replace O1 := hide ((uh O1).up hbn); replace O2 := hide ((uh O2).up hbn); have sz3 := hide (hbn.size); replace BB := hide (below_y (uh BB) hbn); clear hbn; have K1 := hide K1x; clear K1x; have Qc0_3 := (uh Q).cell 0 rfl; have Qc1_3 := (uh Q).cell 1 rfl; have Qc2_3 := (uh Q).cell 2 rfl; have Qc3_3 := (uh Q).cell 3 rfl; have Qc4_3 := (uh Q).cell 4 rfl; have Qc5_3 := (uh Q).cell 5 rfl; have Qc6_3 := (uh Q).cell 6 rfl
 obtain ⟨wu4, hK2⟩ : ∃ X, X = wu3.alloc (.cells ([.string b.name, .int .i64 b.valid, .int .i64 b.next, .int .i64 b.mod, .slice an b.mails.length cn, .slice at2 b.tombs.length ct2, .int .i64 b.hor] : List Value).toArray 50) := ⟨_, rfl⟩
 have K2x : HasObj wu4 wu3.heap.size 50 [.string b.name, .int .i64 b.valid, .int .i64 b.next, .int .i64 b.mod, .slice an b.mails.length cn, .slice at2 b.tombs.length ct2, .int .i64 b.hor] := by rw [hK2]; exact HasObj.new _ _ _
 have hbn : Below wu3.heap.size wu3 wu4 := by rw [hK2]; exact (Below.refl _ _).alloc (Nat.le_refl _) _
 have nePK2 : w.heap.size ≠ wu3.heap.size := Nat.ne_of_lt (uh P).lt
 have neQK2 : wu1.heap.size ≠ wu3.heap.size := Nat.ne_of_lt (uh Q).lt
 have neK1K2 : wu2.heap.size ≠ wu3.heap.size := Nat.ne_of_lt (uh K1).lt
 have loK2 : w.heap.size ≤ wu3.heap.size := (uh BB).size
 have EK2 := hK2.symm; clear hK2; replace P := hide ((uh P).ups hbn); replace Q := hide ((uh Q).ups hbn); replace K1 := hide ((uh K1).ups hbn); replace O1 := hide ((uh O1).up hbn); replace O2 := hide ((uh O2).up hbn); have sz4 := hide (hbn.size); replace BB := hide (below_y (uh BB) hbn); clear hbn; have K2 := hide K2x; clear K2x
 go_enter Tryz.func30, Tryz.ntmps30
 go_wp2_with fail; clear Pc0_1 Pc1_1 Pc2_1 Pc3_1 Pc4_1 Pc5_1 Pc6_1 Qc0_2 Qc1_2 Qc2_2 Qc3_2 Qc4_2 Qc5_2 Qc6_2 Qc0_3 Qc1_3 Qc2_3 Qc3_3 Qc4_3 Qc5_3 Qc6_3 EP EQ EK1 EK2
 refine (SameStore_one b _ _ _ _ _ _ _ _ _ hl1 hl2 (uh O1) (uh O2) (uh K1) (uh K2)).mono ?_
 rintro e wu5 ⟨rfl, hb⟩
 replace P := hide ((uh P).ups hb); replace Q := hide ((uh Q).ups hb); replace K1 := hide ((uh K1).ups hb); replace K2 := hide ((uh K2).ups hb); replace O1 := hide ((uh O1).up hb); replace O2 := hide ((uh O2).up hb); have sz5 := hide (hb.size); replace BB := hide (below_y (uh BB) hb); clear hb
 go_wp2
 go_ret
 exact ⟨rfl, uh BB⟩
end Go.Proofs.YtlngjflhbkannaaGreat

namespace Go.Proofs.YtlngjflhbkannaaGreat
open Go.RowKit
open Plain
set_option linter.unusedVariables false

/-- Sets that stay. -/
def RowsR (w W : World) (l : List (Value × List Rg)) : Prop := (∀ p ∈ l, OwnR w.heap.size W p.1 p.2) ∧ Below w.heap.size w W
theorem RowsR.up {w W W' : World} {l : List (Value × List Rg)} (h : RowsR w W l) (hb : Below W.heap.size W W') : RowsR w W' l :=
 ⟨fun p hp => (h.1 p hp).up hb, h.2.trans (hb.mono h.2.size)⟩
theorem RowsR.more {w W W' : World} {l : List (Value × List Rg)} (h : RowsR w W l) (hb : Below W.heap.size W W') {v : Value} {s : List Rg} (ho : OwnR W.heap.size W' v s) : RowsR w W' ((v, s) :: l) :=
 ⟨fun p hp => by
  rcases List.mem_cons.1 hp with e | hp
  ·subst e; exact g_based ho h.2.size
  ·exact (h.1 p hp).up hb, h.2.trans (hb.mono h.2.size)⟩
theorem RowsR.get {w W : World} {l : List (Value × List Rg)} (h : RowsR w W l) (v : Value) (s : List Rg) (hm : (v, s) ∈ l) : OwnR w.heap.size W v s := h.1 _ hm

set_option maxHeartbeats 1000000 in
set_option maxRecDepth 100000 in
theorem sameSet_same (l : List Rg) (v1 v2 : Value) (w : World) (hs : l.length ≤ 1048576) (h1 : ReadR w v1 l) (h2 : ReadR w v2 l) :
  Calls Tryz.prog 31 #[v1, v2] w fun e w' => e = .returned (.bool true) ∧ ∃ q, w' = w.drewN q := by
 obtain ⟨a1, c1, rfl, r1⟩ := h1
 obtain ⟨a2, c2, rfl, r2⟩ := h2
 obtain ⟨n, hn⟩ : ∃ n, n = l.length := ⟨_, rfl⟩
 rw [← hn] at hs ⊢
 have R1 := hide r1; have R2 := hide r2; have HN := hide hn; clear r1 r2 hn
 go_enter Tryz.func31, Tryz.ntmps31
 go_wp2
 go_loopw [5] (fun i wr => ∃ k q : Nat, k ≤ n ∧ i = .int .i64 k ∧ wr = w.drewN q) (fun i _ => n - (intOf i).toNat)
 case atStart => exact ⟨0, 0, Nat.zero_le _, rfl, rfl⟩
 case round =>
  obtain ⟨k, q, hk, rfl, rfl⟩ := hrel
  by_cases hlt : k < n
  ·have hkl : k < l.length := by rw [← uh HN]; exact hlt
   obtain ⟨g1, rfl, b1, e1, e2⟩ := uh R1 k l[k] (List.getElem?_eq_getElem hkl)
   obtain ⟨g2, rfl, b2, d1, d2⟩ := uh R2 k l[k] (List.getElem?_eq_getElem hkl)
   generalize l[k] = x at *
   obtain ⟨xl, xh⟩ := x
   simp only at e1 e2 d1 d2
   go_wp2
   go_quiet (fail)
   go_wp2
   go_roundw
   case rel => exact ⟨k + 1, _, by omega, by go_num, rfl⟩
   case measure => simp [intOf]; omega
  ·go_wp2
   go_ret
   exact ⟨rfl, q, rfl⟩
end Go.Proofs.YtlngjflhbkannaaGreat
