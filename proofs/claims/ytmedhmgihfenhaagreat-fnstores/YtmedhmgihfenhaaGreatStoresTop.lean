/- FnStores's walk. -/
import Derived.Test.YtmedhmgihfenhaaGreatBoxA
import Derived.Test.YtmedhmgihfenhaaGreatBoxNameS
import Derived.BigQuiet
import Derived.Test.YtmedhmgihfenhaaGreatRegA
import Derived.Test.YtmedhmgihfenhaaGreatSetA
import Derived.Test.YtmedhmgihfenhaaGreatBoxKeeps
import Derived.Test.YtmedhmgihfenhaaGreatDrawTop
import Derived.Test.YtmedhmgihfenhaaGreatDrawKit
/- Rows of mails that are read; laws.sameMails of equal rows. -/
namespace Go.Proofs.YtmedhmgihfenhaaGreat
open Go.RowKit
open Plain
set_option linter.unusedVariables false
set_option linter.unusedSimpArgs false

/-- A row of mails that is read, a beginning of a row too. -/
def ReadM (w : World) (v : Value) (l : List Ml) : Prop := ∃ a c, v = .slice a l.length c ∧ ∀ (k : Nat) (f : Ml), l[k]? = some f →
  ∃ g, a = some ⟨g, 0, none⟩ ∧ g < w.heap.size ∧ w.cell? ⟨g, k * 4, none⟩ = some (.int .i64 f.uid) ∧ w.cell? ⟨g, k * 4 + 1, none⟩ = some (.int .i64 f.flags) ∧ w.cell? ⟨g, k * 4 + 2, none⟩ = some (.int .i64 f.mod) ∧ w.cell? ⟨g, k * 4 + 3, none⟩ = some (.string f.text)
theorem OwnMl.read {B : Nat} {w : World} {v : Value} {l : List Ml} (h : OwnMl B w v l) : ReadM w v l := by
  obtain ⟨a, c, hv⟩ := g_shape h
  refine ⟨a, c, hv, fun k f hx => ?_⟩
  obtain ⟨g, c', e, hg, c0, c1, c2, c3⟩ := ml_read h (Below.refl _ _) hx
  rw [hv] at e
  exact ⟨g, (Value.slice.inj e).1, hg, c0, c1, c2, c3⟩
theorem below_dM (W : World) (q : Nat) : Below W.heap.size W (W.drewN q) := ⟨rfl, rfl, rfl, Nat.le_refl _, fun _ _ => rfl⟩

end Go.Proofs.YtmedhmgihfenhaaGreat

/- Boxes that are the same: the specification's l19SameBox and SameStore, laws.sameBox, of equal boxes. Made by gen_samebox.py. -/
namespace Go.Proofs.YtmedhmgihfenhaaGreat
open Go.RowKit
open Plain
set_option linter.unusedVariables false
set_option linter.unusedSimpArgs false

theorem belowS {w W W' : World} (h : Below w.heap.size w W) (hb : Below W.heap.size W W') : Below w.heap.size w W' := h.trans (hb.mono h.size)
set_option maxHeartbeats 8000000 in
set_option maxRecDepth 100000 in
theorem l19SameBox_same (b : Bx) (m1 t1 m2 t2 : Value) (B1 B2 : Nat) (w : World) (hl1 : b.mails.length ≤ 1048576) (hl2 : b.tombs.length ≤ 1048576) (h1 : OwnBx B1 w m1 t1 b) (h2 : OwnBx B2 w m2 t2 b) :
    Calls Tryz.prog 85 #[boxV b m1 t1, boxV b m2 t2] w fun e w' => e = .returned (.bool true) ∧ Below w.heap.size w w' := by
  have M1 := hide (fun (W : World) hb k f hx => ml_read (W := W) h1.1 hb (k := k) (f := f) hx)
  have M2 := hide (fun (W : World) hb k f hx => ml_read (W := W) h2.1 hb (k := k) (f := f) hx)
  have T1 := hide (fun (W : World) hb k f hx => tb_read (W := W) h1.2 hb (k := k) (f := f) hx)
  have T2 := hide (fun (W : World) hb k f hx => tb_read (W := W) h2.2 hb (k := k) (f := f) hx)
  obtain ⟨am, cm, rfl⟩ := g_shape h1.1
  obtain ⟨at1, ct1, rfl⟩ := g_shape h1.2
  obtain ⟨an, cn, rfl⟩ := g_shape h2.1
  obtain ⟨at2, ct2, rfl⟩ := g_shape h2.2
  clear h1 h2; have BB := hide (Below.refl w.heap.size w)
  obtain ⟨w1, hA⟩ : ∃ X, X = w.alloc (.cells ([.string b.name, .int .i64 b.valid, .int .i64 b.next, .int .i64 b.mod, .slice am b.mails.length cm, .slice at1 b.tombs.length ct1, .int .i64 b.hor] : List Value).toArray 27) := ⟨_, rfl⟩
  have Ax : HasObj w1 w.heap.size 27 [.string b.name, .int .i64 b.valid, .int .i64 b.next, .int .i64 b.mod, .slice am b.mails.length cm, .slice at1 b.tombs.length ct1, .int .i64 b.hor] := by rw [hA]; exact HasObj.new _ _ _
  have hbn : Below w.heap.size w w1 := by rw [hA]; exact (Below.refl _ _).alloc (Nat.le_refl _) _
  have loA : w.heap.size ≤ w.heap.size := (unhide BB).size
  have EA := hA.symm; clear hA; have sz1 := hide (hbn.size); replace BB := hide (below_y (unhide BB) hbn); clear hbn; have A := hide Ax; clear Ax
  obtain ⟨w2, hC⟩ : ∃ X, X = w1.alloc (.cells ([.string b.name, .int .i64 b.valid, .int .i64 b.next, .int .i64 b.mod, .slice an b.mails.length cn, .slice at2 b.tombs.length ct2, .int .i64 b.hor] : List Value).toArray 27) := ⟨_, rfl⟩
  have Cx : HasObj w2 w1.heap.size 27 [.string b.name, .int .i64 b.valid, .int .i64 b.next, .int .i64 b.mod, .slice an b.mails.length cn, .slice at2 b.tombs.length ct2, .int .i64 b.hor] := by rw [hC]; exact HasObj.new _ _ _
  have hbn : Below w1.heap.size w1 w2 := by rw [hC]; exact (Below.refl _ _).alloc (Nat.le_refl _) _
  have neAC : w.heap.size ≠ w1.heap.size := Nat.ne_of_lt (unhide A).lt
  have loC : w.heap.size ≤ w1.heap.size := (unhide BB).size
  have EC := hC.symm; clear hC; replace A := hide ((unhide A).ups hbn); have sz2 := hide (hbn.size); replace BB := hide (below_y (unhide BB) hbn); clear hbn; have C := hide Cx; clear Cx; have Ac0_1 := (unhide A).cell 0 rfl; have Ac1_1 := (unhide A).cell 1 rfl; have Ac2_1 := (unhide A).cell 2 rfl; have Ac3_1 := (unhide A).cell 3 rfl; have Ac4_1 := (unhide A).cell 4 rfl; have Ac5_1 := (unhide A).cell 5 rfl; have Ac6_1 := (unhide A).cell 6 rfl; have Cc0_2 := (unhide C).cell 0 rfl; have Cc1_2 := (unhide C).cell 1 rfl; have Cc2_2 := (unhide C).cell 2 rfl; have Cc3_2 := (unhide C).cell 3 rfl; have Cc4_2 := (unhide C).cell 4 rfl; have Cc5_2 := (unhide C).cell 5 rfl; have Cc6_2 := (unhide C).cell 6 rfl
  go_enter Tryz.func85, Tryz.ntmps85
  go_wp2
  clear Ac0_1 Ac1_1 Ac2_1 Ac3_1 Ac4_1 Ac5_1 Ac6_1 Cc0_2 Cc1_2 Cc2_2 Cc3_2 Cc4_2 Cc5_2 Cc6_2 EA EC
  go_loopw [5] (fun i wr => ∃ k : Nat, k ≤ b.mails.length ∧ i = .int .i64 k ∧ HasObj wr w.heap.size 27 [.string b.name, .int .i64 b.valid, .int .i64 b.next, .int .i64 b.mod, .slice am b.mails.length cm, .slice at1 b.tombs.length ct1, .int .i64 b.hor] ∧ HasObj wr w1.heap.size 27 [.string b.name, .int .i64 b.valid, .int .i64 b.next, .int .i64 b.mod, .slice an b.mails.length cn, .slice at2 b.tombs.length ct2, .int .i64 b.hor] ∧ Below w.heap.size w wr) (fun i _ => b.mails.length - (intOf i).toNat)
  case atStart => exact ⟨0, Nat.zero_le _, rfl, unhide A, unhide C, unhide BB⟩
  clear A C BB
  case round =>
    obtain ⟨k, hk, rfl, oA, oC, hbel⟩ := hrel
    obtain ⟨wo5, hwo⟩ : ∃ wo, wo = wr := ⟨_, rfl⟩
    subst hwo
    by_cases hlt : k < b.mails.length
    · have hgk : b.mails[k]? = some b.mails[k] := List.getElem?_eq_getElem hlt
      obtain ⟨g1, q1, e1, _, c0, c1, c2, c3⟩ := unhide M1 wo5 hbel k _ hgk
      obtain ⟨g2, q2, e2, _, d0, d1, d2, d3⟩ := unhide M2 wo5 hbel k _ hgk
      have e3 := (Value.slice.inj e1).1; have e4 := (Value.slice.inj e2).1; clear e1 e2
      subst e3 e4
      generalize b.mails[k] = x at *
      obtain ⟨x0, x1, x2, x3⟩ := x
      simp only at c0 c1 c2 c3 d0 d1 d2 d3
      clear hgk
      have i1 : (0 : Int) ≤ (k : Int) := by omega
      have i2 : (k : Int) < (b.mails.length : Int) := by omega
      have ca := oA.cell 4 rfl; have cc := oC.cell 4 rfl; have A := hide oA; have C := hide oC; have BB := hide hbel; clear oA oC hbel
      go_wp2
      go_quiet (fail)
      obtain ⟨wq, hwq⟩ : ∃ X, X = wo5.drewN nq := ⟨_, rfl⟩
      rw [← hwq]
      have hb : Below wo5.heap.size wo5 wq := by rw [hwq]; exact below_dM _ _
      have A_ := hide ((unhide A).ups hb); have C_ := hide ((unhide C).ups hb); have BB_ := hide (belowS (unhide BB) hb); clear hwq hb A C BB ca cc c0 c1 c2 c3 d0 d1 d2 d3
      go_wp2
      go_roundw
      case rel => exact ⟨k + 1, by omega, by go_num, unhide A_, unhide C_, unhide BB_⟩
      case measure => simp [intOf]; omega
    · obtain rfl : k = b.mails.length := by omega
      have ca := oA.cell 4 rfl; have cc := oC.cell 4 rfl; have cb := oA.cell 5 rfl; have A := hide oA; have C := hide oC; have BB := hide hbel; clear oA oC hbel hlt hk
      go_wp2
      clear ca cc cb
      go_loopw [6] (fun i wr => ∃ k : Nat, k ≤ b.tombs.length ∧ i = .int .i64 k ∧ HasObj wr w.heap.size 27 [.string b.name, .int .i64 b.valid, .int .i64 b.next, .int .i64 b.mod, .slice am b.mails.length cm, .slice at1 b.tombs.length ct1, .int .i64 b.hor] ∧ HasObj wr w1.heap.size 27 [.string b.name, .int .i64 b.valid, .int .i64 b.next, .int .i64 b.mod, .slice an b.mails.length cn, .slice at2 b.tombs.length ct2, .int .i64 b.hor] ∧ Below w.heap.size w wr) (fun i _ => b.tombs.length - (intOf i).toNat)
      case atStart => exact ⟨0, Nat.zero_le _, rfl, unhide A, unhide C, unhide BB⟩
      clear A C BB
      case round =>
        obtain ⟨k, hk, rfl, oA, oC, hbel⟩ := hrel
        obtain ⟨wo6, hwo⟩ : ∃ wo, wo = wr := ⟨_, rfl⟩
        subst hwo
        by_cases hlt : k < b.tombs.length
        · have hgk : b.tombs[k]? = some b.tombs[k] := List.getElem?_eq_getElem hlt
          obtain ⟨g1, q1, e1, _, c0, c1⟩ := unhide T1 wo6 hbel k _ hgk
          obtain ⟨g2, q2, e2, _, d0, d1⟩ := unhide T2 wo6 hbel k _ hgk
          have e3 := (Value.slice.inj e1).1; have e4 := (Value.slice.inj e2).1; clear e1 e2
          subst e3 e4
          generalize b.tombs[k] = x at *
          obtain ⟨x0, x1⟩ := x
          simp only at c0 c1 d0 d1
          clear hgk
          have i1 : (0 : Int) ≤ (k : Int) := by omega
          have i2 : (k : Int) < (b.tombs.length : Int) := by omega
          have ca := oA.cell 5 rfl; have cc := oC.cell 5 rfl; have A := hide oA; have C := hide oC; have BB := hide hbel; clear oA oC hbel
          go_wp2
          go_quiet (fail)
          obtain ⟨wq, hwq⟩ : ∃ X, X = wo6.drewN nq := ⟨_, rfl⟩
          rw [← hwq]
          have hb : Below wo6.heap.size wo6 wq := by rw [hwq]; exact below_dM _ _
          have A_ := hide ((unhide A).ups hb); have C_ := hide ((unhide C).ups hb); have BB_ := hide (belowS (unhide BB) hb); clear hwq hb A C BB ca cc c0 c1 d0 d1
          go_wp2
          go_roundw
          case rel => exact ⟨k + 1, by omega, by go_num, unhide A_, unhide C_, unhide BB_⟩
          case measure => simp [intOf]; omega
        · obtain rfl : k = b.tombs.length := by omega
          have ca := oA.cell 5 rfl; have cc := oC.cell 5 rfl; have A := hide oA; have C := hide oC; have BB := hide hbel; clear oA oC hbel hlt hk
          go_wp2
          go_ret
          exact ⟨rfl, unhide BB⟩
set_option maxHeartbeats 8000000 in
set_option maxRecDepth 100000 in
theorem SameStore_one (b : Bx) (m1 t1 m2 t2 : Value) (B1 B2 g1 g2 : Nat) (w : World) (hl1 : b.mails.length ≤ 1048576) (hl2 : b.tombs.length ≤ 1048576) (h1 : OwnBx B1 w m1 t1 b) (h2 : OwnBx B2 w m2 t2 b) (k1 : HasObj w g1 27 (boxL b m1 t1)) (k2 : HasObj w g2 27 (boxL b m2 t2)) :
    Calls Tryz.prog 57 #[.agg #[.slice (some ⟨g1, 0, none⟩) 1 1, .int .i64 0], .agg #[.slice (some ⟨g2, 0, none⟩) 1 1, .int .i64 0]] w fun e w' => e = .returned (.bool true) ∧ Below w.heap.size w w' := by
  obtain ⟨am, cm, rfl⟩ := g_shape h1.1
  obtain ⟨at1, ct1, rfl⟩ := g_shape h1.2
  obtain ⟨an, cn, rfl⟩ := g_shape h2.1
  obtain ⟨at2, ct2, rfl⟩ := g_shape h2.2
  have O1 := hide h1; have O2 := hide h2; have K1 := hide k1; have K2 := hide k2; clear h1 h2 k1 k2; have BB := hide (Below.refl w.heap.size w)
  obtain ⟨ws1, hA⟩ : ∃ X, X = w.alloc (.cells ([.slice (some ⟨g1, 0, none⟩) 1 1, .int .i64 0] : List Value).toArray 87) := ⟨_, rfl⟩
  have Ax : HasObj ws1 w.heap.size 87 [.slice (some ⟨g1, 0, none⟩) 1 1, .int .i64 0] := by rw [hA]; exact HasObj.new _ _ _
  have hbn : Below w.heap.size w ws1 := by rw [hA]; exact (Below.refl _ _).alloc (Nat.le_refl _) _
  have neK1A : g1 ≠ w.heap.size := Nat.ne_of_lt (unhide K1).lt
  have neK2A : g2 ≠ w.heap.size := Nat.ne_of_lt (unhide K2).lt
  have loA : w.heap.size ≤ w.heap.size := (unhide BB).size
  have EA := hA.symm; clear hA; replace K1 := hide ((unhide K1).ups hbn); replace K2 := hide ((unhide K2).ups hbn); replace O1 := hide ((unhide O1).up hbn); replace O2 := hide ((unhide O2).up hbn); have sz1 := hide (hbn.size); replace BB := hide (below_y (unhide BB) hbn); clear hbn; have A := hide Ax; clear Ax
  obtain ⟨ws2, hC⟩ : ∃ X, X = ws1.alloc (.cells ([.slice (some ⟨g2, 0, none⟩) 1 1, .int .i64 0] : List Value).toArray 87) := ⟨_, rfl⟩
  have Cx : HasObj ws2 ws1.heap.size 87 [.slice (some ⟨g2, 0, none⟩) 1 1, .int .i64 0] := by rw [hC]; exact HasObj.new _ _ _
  have hbn : Below ws1.heap.size ws1 ws2 := by rw [hC]; exact (Below.refl _ _).alloc (Nat.le_refl _) _
  have neK1C : g1 ≠ ws1.heap.size := Nat.ne_of_lt (unhide K1).lt
  have neK2C : g2 ≠ ws1.heap.size := Nat.ne_of_lt (unhide K2).lt
  have neAC : w.heap.size ≠ ws1.heap.size := Nat.ne_of_lt (unhide A).lt
  have loC : w.heap.size ≤ ws1.heap.size := (unhide BB).size
  have EC := hC.symm; clear hC; replace K1 := hide ((unhide K1).ups hbn); replace K2 := hide ((unhide K2).ups hbn); replace A := hide ((unhide A).ups hbn); replace O1 := hide ((unhide O1).up hbn); replace O2 := hide ((unhide O2).up hbn); have sz2 := hide (hbn.size); replace BB := hide (below_y (unhide BB) hbn); clear hbn; have C := hide Cx; clear Cx; have Ac0_1 := (unhide A).cell 0 rfl; have Ac1_1 := (unhide A).cell 1 rfl; have Cc0_2 := (unhide C).cell 0 rfl; have Cc1_2 := (unhide C).cell 1 rfl
  go_enter Tryz.func57, Tryz.ntmps57
  go_wp2
  clear Ac0_1 Ac1_1 Cc0_2 Cc1_2 EA EC
  go_loopw [5] (fun i wr => ∃ k : Nat, k ≤ 1 ∧ i = .int .i64 k ∧ HasObj wr w.heap.size 87 [.slice (some ⟨g1, 0, none⟩) 1 1, .int .i64 0] ∧ HasObj wr ws1.heap.size 87 [.slice (some ⟨g2, 0, none⟩) 1 1, .int .i64 0] ∧ HasObj wr g1 27 [.string b.name, .int .i64 b.valid, .int .i64 b.next, .int .i64 b.mod, .slice am b.mails.length cm, .slice at1 b.tombs.length ct1, .int .i64 b.hor] ∧ HasObj wr g2 27 [.string b.name, .int .i64 b.valid, .int .i64 b.next, .int .i64 b.mod, .slice an b.mails.length cn, .slice at2 b.tombs.length ct2, .int .i64 b.hor] ∧ OwnBx B1 wr (.slice am b.mails.length cm) (.slice at1 b.tombs.length ct1) b ∧ OwnBx B2 wr (.slice an b.mails.length cn) (.slice at2 b.tombs.length ct2) b ∧ Below w.heap.size w wr) (fun i _ => 1 - (intOf i).toNat)
  case atStart => exact ⟨0, by omega, rfl, unhide A, unhide C, unhide K1, unhide K2, unhide O1, unhide O2, unhide BB⟩
  clear A C K1 K2 O1 O2 BB
  case round =>
    obtain ⟨k, hk, rfl, oA, oC, oK1, oK2, oO1, oO2, hbel⟩ := hrel
    obtain ⟨wo, hwo⟩ : ∃ wo, wo = wr := ⟨_, rfl⟩
    subst hwo
    have A := hide oA; have C := hide oC; have K1 := hide oK1; have K2 := hide oK2; have O1 := hide oO1; have O2 := hide oO2; have BB := hide hbel; clear oA oC oK1 oK2 oO1 oO2 hbel
    have hk2 : k = 0 ∨ k = 1 := by omega
    rcases hk2 with rfl | rfl
    · simp only [show ((0 : Nat) : Int) = 0 from rfl]
      have Ac0_3 := (unhide A).cell 0 rfl; have Ac1_3 := (unhide A).cell 1 rfl; have Cc0_4 := (unhide C).cell 0 rfl; have Cc1_4 := (unhide C).cell 1 rfl; have K1c0_5 := (unhide K1).cell 0 rfl; have K1c1_5 := (unhide K1).cell 1 rfl; have K1c2_5 := (unhide K1).cell 2 rfl; have K1c3_5 := (unhide K1).cell 3 rfl; have K1c4_5 := (unhide K1).cell 4 rfl; have K1c5_5 := (unhide K1).cell 5 rfl; have K1c6_5 := (unhide K1).cell 6 rfl; have K2c0_6 := (unhide K2).cell 0 rfl; have K2c1_6 := (unhide K2).cell 1 rfl; have K2c2_6 := (unhide K2).cell 2 rfl; have K2c3_6 := (unhide K2).cell 3 rfl; have K2c4_6 := (unhide K2).cell 4 rfl; have K2c5_6 := (unhide K2).cell 5 rfl; have K2c6_6 := (unhide K2).cell 6 rfl
      go_wp2
      refine wp_region_held_drew (S := fun w' => w'.cell? ⟨w.heap.size, 0, none⟩ = some (.slice (some ⟨g1, 0, none⟩) 1 1) ∧ w'.cell? ⟨ws1.heap.size, 0, none⟩ = some (.slice (some ⟨g2, 0, none⟩) 1 1) ∧ w'.cell? ⟨g1, 0, none⟩ = some (.string b.name) ∧ w'.cell? ⟨g1, 1, none⟩ = some (.int .i64 b.valid) ∧ w'.cell? ⟨g1, 2, none⟩ = some (.int .i64 b.next) ∧ w'.cell? ⟨g1, 3, none⟩ = some (.int .i64 b.mod) ∧ w'.cell? ⟨g1, 4, none⟩ = some (.slice am b.mails.length cm) ∧ w'.cell? ⟨g1, 5, none⟩ = some (.slice at1 b.tombs.length ct1) ∧ w'.cell? ⟨g1, 6, none⟩ = some (.int .i64 b.hor) ∧ w'.cell? ⟨g2, 0, none⟩ = some (.string b.name) ∧ w'.cell? ⟨g2, 1, none⟩ = some (.int .i64 b.valid) ∧ w'.cell? ⟨g2, 2, none⟩ = some (.int .i64 b.next) ∧ w'.cell? ⟨g2, 3, none⟩ = some (.int .i64 b.mod) ∧ w'.cell? ⟨g2, 4, none⟩ = some (.slice an b.mails.length cn) ∧ w'.cell? ⟨g2, 5, none⟩ = some (.slice at2 b.tombs.length ct2) ∧ w'.cell? ⟨g2, 6, none⟩ = some (.int .i64 b.hor)) (by kernel_rfl) (⟨(unhide A).cell 0 rfl, (unhide C).cell 0 rfl, (unhide K1).cell 0 rfl, (unhide K1).cell 1 rfl, (unhide K1).cell 2 rfl, (unhide K1).cell 3 rfl, (unhide K1).cell 4 rfl, (unhide K1).cell 5 rfl, (unhide K1).cell 6 rfl, (unhide K2).cell 0 rfl, (unhide K2).cell 1 rfl, (unhide K2).cell 2 rfl, (unhide K2).cell 3 rfl, (unhide K2).cell 4 rfl, (unhide K2).cell 5 rfl, (unhide K2).cell 6 rfl⟩) (fun hHeld => ?_)
      clear Ac0_3 Ac1_3 Cc0_4 Cc1_4 K1c0_5 K1c1_5 K1c2_5 K1c3_5 K1c4_5 K1c5_5 K1c6_5 K2c0_6 K2c1_6 K2c2_6 K2c3_6 K2c4_6 K2c5_6 K2c6_6; replace K1 := hide ((unhide K1).drew); replace K2 := hide ((unhide K2).drew); replace A := hide ((unhide A).drew); replace C := hide ((unhide C).drew); replace O1 := hide ((unhide O1).drew); replace O2 := hide ((unhide O2).drew); replace BB := hide ((unhide BB).drew)
      have sz51 : Hid (wo.heap.size ≤ wo.drew.heap.size) := Nat.le_refl _
      refine takeVal 0 (some 27) ?_ rfl (by kernel_rfl) (by kernel_rfl) (by kernel_rfl) rfl (fun _ _ _ h => h) (by rfl) (by assumption) ?_ ?_; rotate_left; (intro w hSw; (try dsimp only at hSw); go_simp <;> with_reducible rfl); simp only [Act.put, List.setIfInBounds_toArray, List.set_cons_zero, List.set_cons_succ]
      refine takeVal 1 (some 28) ?_ rfl (by kernel_rfl) (by kernel_rfl) (by kernel_rfl) rfl (fun _ _ _ h => h) (by rfl) (by assumption) ?_ ?_; rotate_left; (intro w hSw; (try dsimp only at hSw); go_simp <;> with_reducible rfl); simp only [Act.put, List.setIfInBounds_toArray, List.set_cons_zero, List.set_cons_succ]
      refine takeVal 2 (some 29) ?_ rfl (by kernel_rfl) (by kernel_rfl) (by kernel_rfl) rfl (fun _ _ _ h => h) (by rfl) (by assumption) ?_ ?_; rotate_left; (intro w hSw; (try dsimp only at hSw); go_simp <;> with_reducible rfl); simp only [Act.put, List.setIfInBounds_toArray, List.set_cons_zero, List.set_cons_succ]
      refine takeVal 3 (some 30) ?_ rfl (by kernel_rfl) (by kernel_rfl) (by kernel_rfl) rfl (fun _ _ _ h => h) (by rfl) (by assumption) ?_ ?_; rotate_left; (intro w hSw; (try dsimp only at hSw); go_simp <;> with_reducible rfl); simp only [Act.put, List.setIfInBounds_toArray, List.set_cons_zero, List.set_cons_succ]
      refine takeVal 4 (some 31) ?_ rfl (by kernel_rfl) (by kernel_rfl) (by kernel_rfl) rfl (fun _ _ _ h => h) (by rfl) (by assumption) ?_ ?_; rotate_left; (intro w hSw; (try dsimp only at hSw); go_simp <;> with_reducible rfl); simp only [Act.put, List.setIfInBounds_toArray, List.set_cons_zero, List.set_cons_succ]
      refine takeVal 5 (some 32) ?_ rfl (by kernel_rfl) (by kernel_rfl) (by kernel_rfl) rfl (fun _ _ _ h => h) (by rfl) (by assumption) ?_ ?_; rotate_left; (intro w hSw; (try dsimp only at hSw); go_simp <;> with_reducible rfl); simp only [Act.put, List.setIfInBounds_toArray, List.set_cons_zero, List.set_cons_succ]
      refine takeVal 6 (some 33) ?_ rfl (by kernel_rfl) (by kernel_rfl) (by kernel_rfl) rfl (fun _ _ _ h => h) (by rfl) (by assumption) ?_ ?_; rotate_left; (intro w hSw; (try dsimp only at hSw); go_simp <;> with_reducible rfl); simp only [Act.put, List.setIfInBounds_toArray, List.set_cons_zero, List.set_cons_succ]
      refine takeVal 7 (some 34) ?_ rfl (by kernel_rfl) (by kernel_rfl) (by kernel_rfl) rfl (fun _ _ _ h => h) (by rfl) (by assumption) ?_ ?_; rotate_left; (intro w hSw; (try dsimp only at hSw); go_simp <;> with_reducible rfl); simp only [Act.put, List.setIfInBounds_toArray, List.set_cons_zero, List.set_cons_succ]
      refine takeVal 8 (some 35) ?_ rfl (by kernel_rfl) (by kernel_rfl) (by kernel_rfl) rfl (fun _ _ _ h => h) (by rfl) (by assumption) ?_ ?_; rotate_left; (intro w hSw; (try dsimp only at hSw); go_simp <;> with_reducible rfl); simp only [Act.put, List.setIfInBounds_toArray, List.set_cons_zero, List.set_cons_succ]
      refine takeVal 9 (some 36) ?_ rfl (by kernel_rfl) (by kernel_rfl) (by kernel_rfl) rfl (fun _ _ _ h => h) (by rfl) (by assumption) ?_ ?_; rotate_left; (intro w hSw; (try dsimp only at hSw); go_simp <;> with_reducible rfl); simp only [Act.put, List.setIfInBounds_toArray, List.set_cons_zero, List.set_cons_succ]
      refine wpAnyH_ready (rs := [10]) (by kernel_rfl) (by simp) ?_
      refine AllReadyH.cons rfl (fun K hK => ?_) AllReadyH.nil
      go_simp
      refine (l19SameBox_same b _ _ _ _ _ _ _ hl1 hl2 (unhide O1) (unhide O2)).mono ?_
      rintro e wt1 ⟨rfl, hb⟩
      replace K1 := hide ((unhide K1).ups hb); replace K2 := hide ((unhide K2).ups hb); replace A := hide ((unhide A).ups hb); replace C := hide ((unhide C).ups hb); replace O1 := hide ((unhide O1).up hb); replace O2 := hide ((unhide O2).up hb); have sz52 := hide (hb.size); replace BB := hide (below_y (unhide BB) hb); clear hb; go_wp2_with fail
      refine hK.out _ _ (⟨(unhide A).cell 0 rfl, (unhide C).cell 0 rfl, (unhide K1).cell 0 rfl, (unhide K1).cell 1 rfl, (unhide K1).cell 2 rfl, (unhide K1).cell 3 rfl, (unhide K1).cell 4 rfl, (unhide K1).cell 5 rfl, (unhide K1).cell 6 rfl, (unhide K2).cell 0 rfl, (unhide K2).cell 1 rfl, (unhide K2).cell 2 rfl, (unhide K2).cell 3 rfl, (unhide K2).cell 4 rfl, (unhide K2).cell 5 rfl, (unhide K2).cell 6 rfl⟩) (fun hHeld2 => ?_)
      clear hK K hHeld; have hHeld := hHeld2; clear hHeld2
      try simp only [Act.put, List.setIfInBounds_toArray, List.set_cons_zero, List.set_cons_succ]
      refine takeVal 11 (some 38) ?_ rfl (by kernel_rfl) (by kernel_rfl) (by kernel_rfl) rfl (fun _ _ _ h => h) (by rfl) (by assumption) ?_ ?_; rotate_left; (intro w hSw; (try dsimp only at hSw); go_simp <;> with_reducible rfl); simp only [Act.put, List.setIfInBounds_toArray, List.set_cons_zero, List.set_cons_succ]
      refine wpAnyH_done (by kernel_rfl) ?_ _
      go_wp2
      go_roundw
      case rel => exact ⟨1, by omega, by go_num, unhide A, unhide C, unhide K1, unhide K2, unhide O1, unhide O2, unhide BB⟩
      case measure => simp [intOf]
    · simp only [show ((1 : Nat) : Int) = 1 from rfl]
      have Ac0_3 := (unhide A).cell 0 rfl; have Ac1_3 := (unhide A).cell 1 rfl; have Cc0_4 := (unhide C).cell 0 rfl; have Cc1_4 := (unhide C).cell 1 rfl
      go_wp2
      go_ret
      exact ⟨rfl, unhide BB⟩
set_option maxHeartbeats 8000000 in
set_option maxRecDepth 100000 in
theorem sameBox_same (b : Bx) (m1 t1 m2 t2 : Value) (B1 B2 : Nat) (w : World) (hl1 : b.mails.length ≤ 1048576) (hl2 : b.tombs.length ≤ 1048576) (h1 : OwnBx B1 w m1 t1 b) (h2 : OwnBx B2 w m2 t2 b) :
    Calls Tryz.prog 12 #[boxV b m1 t1, boxV b m2 t2] w fun e w' => e = .returned (.bool true) ∧ Below w.heap.size w w' := by
  obtain ⟨am, cm, rfl⟩ := g_shape h1.1
  obtain ⟨at1, ct1, rfl⟩ := g_shape h1.2
  obtain ⟨an, cn, rfl⟩ := g_shape h2.1
  obtain ⟨at2, ct2, rfl⟩ := g_shape h2.2
  have O1 := hide h1; have O2 := hide h2; clear h1 h2; have BB := hide (Below.refl w.heap.size w)
  obtain ⟨wu1, hP⟩ : ∃ X, X = w.alloc (.cells ([.string b.name, .int .i64 b.valid, .int .i64 b.next, .int .i64 b.mod, .slice am b.mails.length cm, .slice at1 b.tombs.length ct1, .int .i64 b.hor] : List Value).toArray 27) := ⟨_, rfl⟩
  have Px : HasObj wu1 w.heap.size 27 [.string b.name, .int .i64 b.valid, .int .i64 b.next, .int .i64 b.mod, .slice am b.mails.length cm, .slice at1 b.tombs.length ct1, .int .i64 b.hor] := by rw [hP]; exact HasObj.new _ _ _
  have hbn : Below w.heap.size w wu1 := by rw [hP]; exact (Below.refl _ _).alloc (Nat.le_refl _) _
  have loP : w.heap.size ≤ w.heap.size := (unhide BB).size
  have EP := hP.symm; clear hP; replace O1 := hide ((unhide O1).up hbn); replace O2 := hide ((unhide O2).up hbn); have sz1 := hide (hbn.size); replace BB := hide (below_y (unhide BB) hbn); clear hbn; have P := hide Px; clear Px
  obtain ⟨wu2, hQ⟩ : ∃ X, X = wu1.alloc (.cells ([.string b.name, .int .i64 b.valid, .int .i64 b.next, .int .i64 b.mod, .slice an b.mails.length cn, .slice at2 b.tombs.length ct2, .int .i64 b.hor] : List Value).toArray 27) := ⟨_, rfl⟩
  have Qx : HasObj wu2 wu1.heap.size 27 [.string b.name, .int .i64 b.valid, .int .i64 b.next, .int .i64 b.mod, .slice an b.mails.length cn, .slice at2 b.tombs.length ct2, .int .i64 b.hor] := by rw [hQ]; exact HasObj.new _ _ _
  have hbn : Below wu1.heap.size wu1 wu2 := by rw [hQ]; exact (Below.refl _ _).alloc (Nat.le_refl _) _
  have nePQ : w.heap.size ≠ wu1.heap.size := Nat.ne_of_lt (unhide P).lt
  have loQ : w.heap.size ≤ wu1.heap.size := (unhide BB).size
  have EQ := hQ.symm; clear hQ; replace P := hide ((unhide P).ups hbn); replace O1 := hide ((unhide O1).up hbn); replace O2 := hide ((unhide O2).up hbn); have sz2 := hide (hbn.size); replace BB := hide (below_y (unhide BB) hbn); clear hbn; have Q := hide Qx; clear Qx; have Pc0_1 := (unhide P).cell 0 rfl; have Pc1_1 := (unhide P).cell 1 rfl; have Pc2_1 := (unhide P).cell 2 rfl; have Pc3_1 := (unhide P).cell 3 rfl; have Pc4_1 := (unhide P).cell 4 rfl; have Pc5_1 := (unhide P).cell 5 rfl; have Pc6_1 := (unhide P).cell 6 rfl; have Qc0_2 := (unhide Q).cell 0 rfl; have Qc1_2 := (unhide Q).cell 1 rfl; have Qc2_2 := (unhide Q).cell 2 rfl; have Qc3_2 := (unhide Q).cell 3 rfl; have Qc4_2 := (unhide Q).cell 4 rfl; have Qc5_2 := (unhide Q).cell 5 rfl; have Qc6_2 := (unhide Q).cell 6 rfl
  obtain ⟨wu3, hK1⟩ : ∃ X, X = wu2.alloc (.cells ([.string b.name, .int .i64 b.valid, .int .i64 b.next, .int .i64 b.mod, .slice am b.mails.length cm, .slice at1 b.tombs.length ct1, .int .i64 b.hor] : List Value).toArray 27) := ⟨_, rfl⟩
  have K1x : HasObj wu3 wu2.heap.size 27 [.string b.name, .int .i64 b.valid, .int .i64 b.next, .int .i64 b.mod, .slice am b.mails.length cm, .slice at1 b.tombs.length ct1, .int .i64 b.hor] := by rw [hK1]; exact HasObj.new _ _ _
  have hbn : Below wu2.heap.size wu2 wu3 := by rw [hK1]; exact (Below.refl _ _).alloc (Nat.le_refl _) _
  have nePK1 : w.heap.size ≠ wu2.heap.size := Nat.ne_of_lt (unhide P).lt
  have neQK1 : wu1.heap.size ≠ wu2.heap.size := Nat.ne_of_lt (unhide Q).lt
  have loK1 : w.heap.size ≤ wu2.heap.size := (unhide BB).size
  have EK1 := hK1.symm; clear hK1; replace P := hide ((unhide P).ups hbn); replace Q := hide ((unhide Q).ups hbn); replace O1 := hide ((unhide O1).up hbn); replace O2 := hide ((unhide O2).up hbn); have sz3 := hide (hbn.size); replace BB := hide (below_y (unhide BB) hbn); clear hbn; have K1 := hide K1x; clear K1x; have Qc0_3 := (unhide Q).cell 0 rfl; have Qc1_3 := (unhide Q).cell 1 rfl; have Qc2_3 := (unhide Q).cell 2 rfl; have Qc3_3 := (unhide Q).cell 3 rfl; have Qc4_3 := (unhide Q).cell 4 rfl; have Qc5_3 := (unhide Q).cell 5 rfl; have Qc6_3 := (unhide Q).cell 6 rfl
  obtain ⟨wu4, hK2⟩ : ∃ X, X = wu3.alloc (.cells ([.string b.name, .int .i64 b.valid, .int .i64 b.next, .int .i64 b.mod, .slice an b.mails.length cn, .slice at2 b.tombs.length ct2, .int .i64 b.hor] : List Value).toArray 27) := ⟨_, rfl⟩
  have K2x : HasObj wu4 wu3.heap.size 27 [.string b.name, .int .i64 b.valid, .int .i64 b.next, .int .i64 b.mod, .slice an b.mails.length cn, .slice at2 b.tombs.length ct2, .int .i64 b.hor] := by rw [hK2]; exact HasObj.new _ _ _
  have hbn : Below wu3.heap.size wu3 wu4 := by rw [hK2]; exact (Below.refl _ _).alloc (Nat.le_refl _) _
  have nePK2 : w.heap.size ≠ wu3.heap.size := Nat.ne_of_lt (unhide P).lt
  have neQK2 : wu1.heap.size ≠ wu3.heap.size := Nat.ne_of_lt (unhide Q).lt
  have neK1K2 : wu2.heap.size ≠ wu3.heap.size := Nat.ne_of_lt (unhide K1).lt
  have loK2 : w.heap.size ≤ wu3.heap.size := (unhide BB).size
  have EK2 := hK2.symm; clear hK2; replace P := hide ((unhide P).ups hbn); replace Q := hide ((unhide Q).ups hbn); replace K1 := hide ((unhide K1).ups hbn); replace O1 := hide ((unhide O1).up hbn); replace O2 := hide ((unhide O2).up hbn); have sz4 := hide (hbn.size); replace BB := hide (below_y (unhide BB) hbn); clear hbn; have K2 := hide K2x; clear K2x
  go_enter Tryz.func12, Tryz.ntmps12
  go_wp2_with fail; clear Pc0_1 Pc1_1 Pc2_1 Pc3_1 Pc4_1 Pc5_1 Pc6_1 Qc0_2 Qc1_2 Qc2_2 Qc3_2 Qc4_2 Qc5_2 Qc6_2 Qc0_3 Qc1_3 Qc2_3 Qc3_3 Qc4_3 Qc5_3 Qc6_3 EP EQ EK1 EK2
  refine (SameStore_one b _ _ _ _ _ _ _ _ _ hl1 hl2 (unhide O1) (unhide O2) (unhide K1) (unhide K2)).mono ?_
  rintro e wu5 ⟨rfl, hb⟩
  replace P := hide ((unhide P).ups hb); replace Q := hide ((unhide Q).ups hb); replace K1 := hide ((unhide K1).ups hb); replace K2 := hide ((unhide K2).ups hb); replace O1 := hide ((unhide O1).up hb); replace O2 := hide ((unhide O2).up hb); have sz5 := hide (hb.size); replace BB := hide (below_y (unhide BB) hb); clear hb
  go_wp2
  go_ret
  exact ⟨rfl, unhide BB⟩
end Go.Proofs.YtmedhmgihfenhaaGreat

/- laws.sameSet of two rows that are the same. -/
namespace Go.Proofs.YtmedhmgihfenhaaGreat
open Go.RowKit
open Plain
set_option linter.unusedVariables false

theorem bigS_any (len cap : Nat) (a : Option Addr) (w : World) (hl : len ≤ 9223372036854775807) :
    Calls Tryz.prog 6 #[.slice a len cap] w fun e w' => e = .returned (.bool (decide ((1048576 : Int) < len))) ∧ w' = w := by
  go_enter Tryz.func6, Tryz.ntmps6
  go_wp2
  go_ret
  exact ⟨rfl, rfl⟩

/-- Sets that stay. -/
def RowsR (w W : World) (l : List (Value × List Rg)) : Prop := (∀ p ∈ l, OwnR w.heap.size W p.1 p.2) ∧ Below w.heap.size w W
theorem RowsR.up {w W W' : World} {l : List (Value × List Rg)} (h : RowsR w W l) (hb : Below W.heap.size W W') : RowsR w W' l :=
  ⟨fun p hp => (h.1 p hp).up hb, h.2.trans (hb.mono h.2.size)⟩
theorem RowsR.more {w W W' : World} {l : List (Value × List Rg)} (h : RowsR w W l) (hb : Below W.heap.size W W') {v : Value} {s : List Rg} (ho : OwnR W.heap.size W' v s) : RowsR w W' ((v, s) :: l) :=
  ⟨fun p hp => by
    rcases List.mem_cons.1 hp with e | hp
    · subst e; exact g_based ho h.2.size
    · exact (h.1 p hp).up hb, h.2.trans (hb.mono h.2.size)⟩
theorem RowsR.get {w W : World} {l : List (Value × List Rg)} (h : RowsR w W l) (v : Value) (s : List Rg) (hm : (v, s) ∈ l) : OwnR w.heap.size W v s := h.1 _ hm

set_option maxHeartbeats 1000000 in
set_option maxRecDepth 100000 in
theorem sameSet_same (l : List Rg) (v1 v2 : Value) (w : World) (hs : l.length ≤ 1048576) (h1 : ReadR w v1 l) (h2 : ReadR w v2 l) :
    Calls Tryz.prog 13 #[v1, v2] w fun e w' => e = .returned (.bool true) ∧ ∃ q, w' = w.drewN q := by
  obtain ⟨a1, c1, rfl, r1⟩ := h1
  obtain ⟨a2, c2, rfl, r2⟩ := h2
  obtain ⟨n, hn⟩ : ∃ n, n = l.length := ⟨_, rfl⟩
  rw [← hn] at hs ⊢
  have R1 := hide r1; have R2 := hide r2; have HN := hide hn; clear r1 r2 hn
  go_enter Tryz.func13, Tryz.ntmps13
  go_wp2
  go_loopw [5] (fun i wr => ∃ k q : Nat, k ≤ n ∧ i = .int .i64 k ∧ wr = w.drewN q) (fun i _ => n - (intOf i).toNat)
  case atStart => exact ⟨0, 0, Nat.zero_le _, rfl, rfl⟩
  case round =>
    obtain ⟨k, q, hk, rfl, rfl⟩ := hrel
    by_cases hlt : k < n
    · have hkl : k < l.length := by rw [← unhide HN]; exact hlt
      obtain ⟨g1, rfl, b1, e1, e2⟩ := unhide R1 k l[k] (List.getElem?_eq_getElem hkl)
      obtain ⟨g2, rfl, b2, d1, d2⟩ := unhide R2 k l[k] (List.getElem?_eq_getElem hkl)
      generalize l[k] = x at *
      obtain ⟨xl, xh⟩ := x
      simp only at e1 e2 d1 d2
      go_wp2
      go_quiet (fail)
      go_wp2
      go_roundw
      case rel => exact ⟨k + 1, _, by omega, by go_num, rfl⟩
      case measure => simp [intOf]; omega
    · go_wp2
      go_ret
      exact ⟨rfl, q, rfl⟩
end Go.Proofs.YtmedhmgihfenhaaGreat

/- Flags that are changed, plainly: what FnStores asks. -/
namespace Go.Proofs.YtmedhmgihfenhaaGreat.Plain
open Go.RowKit
set_option linter.unusedVariables false

theorem uid_one {l : List Ml} (h : l.Pairwise (fun x y => x.uid < y.uid)) {x y : Ml} (hx : x ∈ l) (hy : y ∈ l) (e : x.uid = y.uid) : x = y := by
  obtain ⟨i, hi, rfl⟩ := List.getElem_of_mem hx
  obtain ⟨j, hj, rfl⟩ := List.getElem_of_mem hy
  rcases Nat.lt_trichotomy i j with h1 | h1 | h1
  · have := (List.pairwise_iff_getElem.1 h) i j hi hj h1; omega
  · subst h1; rfl
  · have := (List.pairwise_iff_getElem.1 h) j i hj hi h1; omega
theorem filt_uid {l : List Ml} (h : l.Pairwise (fun x y => x.uid < y.uid)) (p : Ml → Bool) {m : Ml} (hm : m ∈ l) : m.uid ∈ (l.filter p).map (·.uid) ↔ p m = true := by
  constructor
  · intro hx
    obtain ⟨y, hy, e⟩ := List.mem_map.1 hx
    have h1 := List.mem_filter.1 hy
    rw [uid_one h hm h1.1 e.symm]
    exact h1.2
  · intro hp
    exact List.mem_map.2 ⟨m, List.mem_filter.2 ⟨hm, hp⟩, rfl⟩
theorem filt_has {b : Bx} (hb : boxOk b = true) (p : Ml → Bool) : (∀ m ∈ b.mails, hasB (uidsV ((b.mails.filter p).map (·.uid))) m.uid = p m) ∧ (uidsV ((b.mails.filter p).map (·.uid))).length ≤ 1048576 := by
  have hr := right_of hb; have h30 := (head_parts hr.head).2.2.2.2.1
  have hl : ((b.mails.filter p).map (·.uid)).length ≤ 40 := by rw [List.length_map]; exact Nat.le_trans (List.length_filter_le _ _) (by omega)
  have h9 := (inI_iff.1 (head_parts hr.head).2.2.1).2
  obtain ⟨i1, i2, i3⟩ := uidsV_inv _ _ rfl hl (fun x hx => by
    obtain ⟨t, ht, rfl⟩ := List.mem_map.1 hx
    have := hr.mail t (List.mem_filter.1 ht).1
    exact ⟨this.u1, by have := this.u2; omega⟩)
  refine ⟨fun m hm => ?_, by omega⟩
  rw [i3, Bool.eq_iff_iff, decide_eq_true_eq]
  exact filt_uid hr.asc p hm
structure Stores (b n : Bx) (D L : List Rg) (how bits since : Int) : Prop where
  ok : boxOk n = true
  len : n.mails.length = b.mails.length
  each : ∀ (k : Nat) (m : Ml), b.mails[k]? = some m → ∃ m', n.mails[k]? = some m' ∧ (hasB D m.uid = false → m' = m) ∧ (hasB D m.uid = true → m'.flags = afterV m.flags how bits ∧ m'.mod = n.mod) ∧ (hasB L m.uid = true → since < m.mod)
  mod : n.mod = b.mod ∨ (n.mod = b.mod + 1 ∧ n.mod ≠ b.mod)
  d : D.length ≤ 1048576
  l : L.length ≤ 1048576
theorem stores {b : Bx} (s : List Rg) (how bits since : Int) (hb : boxOk b = true) : Stores b (flagsV b s how bits since).1 (flagsV b s how bits since).2.1 (flagsV b s how bits since).2.2 how bits since := by
  have hk := flags_keeps (s := s) (how := how) (bits := bits) (since := since) hb
  by_cases h : fgOk b s how bits = true ∧ boxOk (fgBox b (fgOf b s how bits since)) = true
  · have e := flagsV_yes (b := b) (s := s) (how := how) (bits := bits) (since := since) h.1 h.2
    rw [e] at hk ⊢
    rw [fg_is] at hk ⊢
    obtain ⟨d1, d2⟩ := filt_has hb (isNew s how bits since)
    obtain ⟨l1, l2⟩ := filt_has hb (isLate s since)
    refine ⟨hk, by show (b.mails.map _).length = _; rw [List.length_map], fun k m hm => ⟨newM b s how bits since m, ?_, ?_, ?_, ?_⟩, ?_, d2, l2⟩
    · show (b.mails.map _)[k]? = _
      rw [List.getElem?_map, hm]; rfl
    · intro h1
      have hmem := List.mem_of_getElem? hm
      have h2 : isNew s how bits since m = false := by rw [← d1 m hmem]; exact h1
      unfold newM
      rw [if_neg (by rw [h2]; decide)]
    · intro h1
      have hmem := List.mem_of_getElem? hm
      have h2 : isNew s how bits since m = true := by rw [← d1 m hmem]; exact h1
      have h3 : (newU s how bits since b.mails).isEmpty = false := by
        have : m.uid ∈ newU s how bits since b.mails := (filt_uid (right_of hb).asc _ hmem).2 h2
        cases hq : newU s how bits since b.mails with
        | nil => rw [hq] at this; cases this
        | cons _ _ => rfl
      have h4 : newM b s how bits since m = ⟨m.uid, afterV m.flags how bits, b.mod + 1, m.text⟩ := by unfold newM; rw [if_pos h2]
      rw [h4]
      refine ⟨rfl, ?_⟩
      show b.mod + 1 = if (newU s how bits since b.mails).isEmpty = true then b.mod else b.mod + 1
      rw [h3]; rfl
    · intro h1
      have hmem := List.mem_of_getElem? hm
      have h2 : isLate s since m = true := by rw [← l1 m hmem]; exact h1
      unfold isLate at h2
      simp only [Bool.and_eq_true, decide_eq_true_eq] at h2
      omega
    · show (if (newU s how bits since b.mails).isEmpty = true then b.mod else b.mod + 1) = b.mod ∨ ((if (newU s how bits since b.mails).isEmpty = true then b.mod else b.mod + 1) = b.mod + 1 ∧ (if (newU s how bits since b.mails).isEmpty = true then b.mod else b.mod + 1) ≠ b.mod)
      split <;> omega
  · have e : flagsV b s how bits since = (b, [], []) := if_neg h
    rw [e]
    exact ⟨hb, rfl, fun k m hm => ⟨m, hm, fun _ => rfl, fun h1 => by simp [hasB] at h1, fun h1 => by simp [hasB] at h1⟩, .inl rfl, by simp, by simp⟩
end Go.Proofs.YtmedhmgihfenhaaGreat.Plain

/- FnStores's walk, over whatever contracts of the program's own functions. Made by gen_fnstores.py. -/
namespace Go.Proofs.YtmedhmgihfenhaaGreat
open Go.RowKit
open Plain
set_option linter.unusedVariables false
set_option linter.unusedSimpArgs false

theorem OwnR.drew {B : Nat} {W : World} {v : Value} {l : List Rg} (h : OwnR B W v l) : OwnR B W.drew v l := h
/-- What is asked of the program's functions. -/
structure StoresOk (w : World) : Prop where
  flags : ∀ (b : Bx) (m t vs : Value) (B B2 : Nat) (s : List Rg) (how bits since : Int) (W : World), FitBx b → s.length ≤ 1048576 → OwnBx B W m t b → OwnR B2 W vs s → Below w.heap.size w W → Calls Tryz.prog 10 #[boxV b m t, vs, .int .i64 how, .int .i64 bits, .int .i64 since] W fun e w' => ∃ m' t' vD vL, e = .returned (.tuple #[boxV (flagsV b s how bits since).1 m' t', vD, vL]) ∧ OwnBx W.heap.size w' m' t' (flagsV b s how bits since).1 ∧ OwnR W.heap.size w' vD (flagsV b s how bits since).2.1 ∧ OwnR W.heap.size w' vL (flagsV b s how bits since).2.2 ∧ Below W.heap.size W w'
  has : ∀ (s : List Rg) (n : Int) (v : Value) (B : Nat) (W : World), s.length ≤ 1048576 → OwnR B W v s → Below w.heap.size w W → Calls Tryz.prog 15 #[v, .int .i64 n] W fun e w' => e = .returned (.bool (hasB s n)) ∧ Below W.heap.size W w'
  ok : ∀ (b : Bx) (m t : Value) (B : Nat) (W : World), FitBx b → OwnBx B W m t b → Below w.heap.size w W → Calls Tryz.prog 14 #[boxV b m t] W fun e w' => e = .returned (.bool (boxOk b)) ∧ Below W.heap.size W w'
theorem sameSetS_held (l : List Rg) (v1 v2 : Value) (B1 B2 : Nat) (w : World) (hs : l.length ≤ 1048576) (h1 : OwnR B1 w v1 l) (h2 : OwnR B2 w v2 l) :
    Calls Tryz.prog 13 #[v1, v2] w fun e w' => e = .returned (.bool true) ∧ Below w.heap.size w w' :=
  (sameSet_same l v1 v2 w hs h1.read h2.read).mono fun e w' ⟨h, q, hq⟩ => ⟨h, by rw [hq]; exact below_dM w q⟩
theorem after_held (f how bits : Int) (w : World) : Calls Tryz.prog 16 #[.int .i64 f, .int .i64 how, .int .i64 bits] w fun e w' => e = .returned (.int .i64 (afterV f how bits)) ∧ Below w.heap.size w w' :=
  (spec_FlagsAfter_any f how bits w).mono fun e w' ⟨h, hw⟩ => ⟨h, by rw [hw]; exact Below.refl _ _⟩
theorem mail_at {B : Nat} {w : World} {v : Value} {l : List Ml} {k : Nat} {x : Ml} (hv : OwnMl B w v l) (hx : l[k]? = some x) : ∃ g c, v = .slice (some ⟨g, 0, none⟩) l.length c := by
  obtain ⟨g, c, e, _⟩ := ml_read hv (Below.refl _ _) hx
  exact ⟨g, c, e⟩
theorem mail_cells {B g c n : Nat} {w : World} {l : List Ml} {k : Nat} {x : Ml} (hv : OwnMl B w (.slice (some ⟨g, 0, none⟩) n c) l) (hx : l[k]? = some x) : w.cell? ⟨g, k * 4, none⟩ = some (.int .i64 x.uid) ∧ w.cell? ⟨g, k * 4 + 1, none⟩ = some (.int .i64 x.flags) ∧ w.cell? ⟨g, k * 4 + 2, none⟩ = some (.int .i64 x.mod) ∧ w.cell? ⟨g, k * 4 + 3, none⟩ = some (.string x.text) := by
  obtain ⟨g', c', e, hg, c0, c1, c2, c3⟩ := ml_read hv (Below.refl _ _) hx
  have e1 := Option.some.inj (Value.slice.inj e).1
  have e2 : g = g' := by injection e1
  subst e2
  exact ⟨c0, c1, c2, c3⟩
set_option maxHeartbeats 16000000 in
set_option maxRecDepth 100000 in
theorem FnStores_walk (len cap : Nat) (a : Option Addr) (w : World) (ha : Arg w.heap.size w a len) (CI : StoresOk w) :
    Calls Tryz.prog 3 #[.slice a len cap] w fun e w' => e = .returned (.bool true) ∧ Below w.heap.size w w' := by
  have hl := ha.1
  have q0 := bigF_any len cap a w (by omega)
  rw [decide_eq_false (show ¬ (1048576 : Int) < (len : Int) by omega)] at q0
  have Q0 := hide q0
  have D1 := hide (fun W (hb : Below w.heap.size w W) => DrawBox_any w.heap.size len cap a W (ha.below hb) hb.size)
  have D2 := hide (fun W (hb : Below w.heap.size w W) => DrawSets_any w.heap.size len cap a W (ha.below hb) hb.size)
  have D3 := hide (fun W (hb : Below w.heap.size w W) => DrawPlaces_any w.heap.size len cap a W (ha.below hb) hb.size)
  have CC := hide CI; clear q0 ha CI; have BB := hide (Below.refl w.heap.size w)
  go_enter Tryz.func3, Tryz.ntmps3
  go_wp2_with fail
  refine (unhide Q0).mono ?_
  rintro e w0 ⟨rfl, hw⟩
  subst w0
  go_wp2_with fail
  refine (unhide D1 _ (unhide BB)).mono ?_
  rintro e w1 ⟨b, mB, tB, rfl, hok, oB, hb⟩
  obtain ⟨amB, cmB, rfl⟩ := g_shape oB.1
  obtain ⟨atB, ctB, rfl⟩ := g_shape oB.2
  have FIT := hide (fit_ok hok); have OK := hide hok; have hmod := inI_iff.1 (head_parts (boxOk_iff.1 hok).1).2.2.2.1; have h30 := (head_parts (boxOk_iff.1 hok).1).2.2.2.2.1; have OB_ := hide oB; clear hok oB; have sz1 := hide (hb.size); replace BB := hide (below_y (unhide BB) hb); clear hb; have OB := OB_; clear OB_
  obtain ⟨w2, hB⟩ : ∃ X, X = w1.alloc (.cells ([.string b.name, .int .i64 b.valid, .int .i64 b.next, .int .i64 b.mod, .slice amB b.mails.length cmB, .slice atB b.tombs.length ctB, .int .i64 b.hor] : List Value).toArray 27) := ⟨_, rfl⟩
  have Bx : HasObj w2 w1.heap.size 27 [.string b.name, .int .i64 b.valid, .int .i64 b.next, .int .i64 b.mod, .slice amB b.mails.length cmB, .slice atB b.tombs.length ctB, .int .i64 b.hor] := by rw [hB]; exact HasObj.new _ _ _
  have hbn : Below w1.heap.size w1 w2 := by rw [hB]; exact (Below.refl _ _).alloc (Nat.le_refl _) _
  have loB : w.heap.size ≤ w1.heap.size := (unhide BB).size
  have EB := hB.symm; clear hB; replace OB := hide ((unhide OB).up hbn); have sz2 := hide (hbn.size); replace BB := hide (below_y (unhide BB) hbn); clear hbn; have B := hide Bx; clear Bx; go_wp2_with fail; clear EB
  refine (unhide D2 _ (unhide BB)).mono ?_
  rintro e w3 ⟨vs, vu, s, s9, rfl, hs1, hs2, _, _, oS, _, hb⟩
  have RS_ := hide oS; clear oS hs1; replace B := hide ((unhide B).ups hb); replace OB := hide ((unhide OB).up hb); have sz3 := hide (hb.size); replace BB := hide (below_y (unhide BB) hb); clear hb; have RS := RS_; clear RS_; go_wp2_with fail
  refine (unhide D3 _ (unhide BB)).mono ?_
  rintro e w4 ⟨vp, lp, hlp, hall, rfl, ownP, hb⟩
  obtain ⟨gp, cp, rfl⟩ : ∃ gp cp, vp = .slice (some ⟨gp, 0, none⟩) 12 cp := by
    rcases ownP.2 with ⟨_, h⟩ | ⟨g, c, cur, h, _⟩
    · cases h
    · exact ⟨g, c, h⟩
  obtain ⟨p0, p1, p2, hp0, hp1, hp2, c0, c1, c2⟩ : ∃ p0 p1 p2 : Nat, p0 < 10000 ∧ p1 < 10000 ∧ p2 < 10000 ∧ w4.cell? ⟨gp, 0, none⟩ = some (.int .i64 (p0 : Int)) ∧ w4.cell? ⟨gp, 1, none⟩ = some (.int .i64 (p1 : Int)) ∧ w4.cell? ⟨gp, 2, none⟩ = some (.int .i64 (p2 : Int)) := by
    refine ⟨lp[0], lp[1], lp[2], hall _ (List.getElem_mem _), hall _ (List.getElem_mem _), hall _ (List.getElem_mem _), ?_, ?_, ?_⟩
    · rw [ownP.cellAt 0 (by decide)]; unfold iv; rw [List.getElem?_map, List.getElem?_eq_getElem (by omega)]; rfl
    · rw [ownP.cellAt 1 (by decide)]; unfold iv; rw [List.getElem?_map, List.getElem?_eq_getElem (by omega)]; rfl
    · rw [ownP.cellAt 2 (by decide)]; unfold iv; rw [List.getElem?_map, List.getElem?_eq_getElem (by omega)]; rfl
  clear ownP hall hlp; replace B := hide ((unhide B).ups hb); replace OB := hide ((unhide OB).up hb); replace RS := hide ((unhide RS).up hb); have sz4 := hide (hb.size); replace BB := hide (below_y (unhide BB) hb); clear hb
  obtain ⟨x0, hx0⟩ : ∃ x, x = p0 % 3 := ⟨_, rfl⟩
  obtain ⟨x1, hx1⟩ : ∃ x, x = p1 % 32 := ⟨_, rfl⟩
  have e0 : (p0 : Int) % 3 = (x0 : Int) := by rw [hx0]; omega
  have e1 : (p1 : Int) % 32 = (x1 : Int) := by rw [hx1]; omega
  have k0 : x0 < 3 := by omega
  have k1 : x1 < 32 := by omega
  have f0 : (p0 : Int).tmod 3 = (x0 : Int) := by rw [Int.tmod_eq_emod_of_nonneg (by omega)]; exact e0
  have f1 : (p1 : Int).tmod 32 = (x1 : Int) := by rw [Int.tmod_eq_emod_of_nonneg (by omega)]; exact e1
  clear hx0 hx1
  have n0 : IntKind.i64.wrap (1 + (x0 : Int)) = 1 + (x0 : Int) := by rw [IntKind.wrap_i64]; omega
  have n2 : IntKind.i64.wrap (b.mod + 2) = b.mod + 2 := by rw [IntKind.wrap_i64]; omega
  have nz : ¬ b.mod + 2 = 0 := by omega
  have nz2 : (b.mod + 2 == 0) = false := beq_eq_false_iff_ne.2 nz
  have u0 : 0 ≤ Int.tmod (p2 : Int) (b.mod + 2) := Int.tmod_nonneg _ (by omega)
  have u1 := Int.tmod_lt_of_pos (p2 : Int) (show 0 < b.mod + 2 by omega)
  have n3 : IntKind.i64.wrap (Int.tmod (p2 : Int) (b.mod + 2) - 1) = Int.tmod (p2 : Int) (b.mod + 2) - 1 := by rw [IntKind.wrap_i64]; omega
  have Bc0_1 := (unhide B).cell 0 rfl; have Bc1_1 := (unhide B).cell 1 rfl; have Bc2_1 := (unhide B).cell 2 rfl; have Bc3_1 := (unhide B).cell 3 rfl; have Bc4_1 := (unhide B).cell 4 rfl; have Bc5_1 := (unhide B).cell 5 rfl; have Bc6_1 := (unhide B).cell 6 rfl
  go_wp2
  refine wp_region_held_drew (S := fun w' => w'.cell? ⟨w1.heap.size, 3, none⟩ = some (.int .i64 b.mod) ∧ w'.cell? ⟨gp, 2, none⟩ = some (.int .i64 (p2 : Int))) (by kernel_rfl) (⟨(unhide B).cell 3 rfl, c2⟩) (fun hHeld => ?_)
  clear Bc0_1 Bc1_1 Bc2_1 Bc3_1 Bc4_1 Bc5_1 Bc6_1; replace B := hide ((unhide B).drew); replace OB := hide ((unhide OB).drew); replace RS := hide ((unhide RS).drew); replace BB := hide ((unhide BB).drew)
  have sz5 : Hid (w4.heap.size ≤ w4.drew.heap.size) := Nat.le_refl _
  refine takeVal 0 (some 38) ?_ rfl (by kernel_rfl) (by kernel_rfl) (by kernel_rfl) rfl (fun _ _ _ h => h) (by rfl) (by assumption) ?_ ?_; rotate_left; (intro w hSw; (try dsimp only at hSw); go_simp <;> with_reducible rfl); simp only [Act.put, List.setIfInBounds_toArray, List.set_cons_zero, List.set_cons_succ]
  refine takeVal 1 (some 39) ?_ rfl (by kernel_rfl) (by kernel_rfl) (by kernel_rfl) rfl (fun _ _ _ h => h) (by rfl) (by assumption) ?_ ?_; rotate_left; (intro w hSw; (try dsimp only at hSw); go_simp <;> with_reducible rfl); simp only [Act.put, List.setIfInBounds_toArray, List.set_cons_zero, List.set_cons_succ]
  refine takeVal 2 (some 40) ?_ rfl (by kernel_rfl) (by kernel_rfl) (by kernel_rfl) rfl (fun _ _ _ h => h) (by rfl) (by assumption) ?_ ?_; rotate_left; (intro w hSw; (try dsimp only at hSw); go_simp <;> with_reducible rfl); simp only [Act.put, List.setIfInBounds_toArray, List.set_cons_zero, List.set_cons_succ]
  refine takeVal 3 (some 41) ?_ rfl (by kernel_rfl) (by kernel_rfl) (by kernel_rfl) rfl (fun _ _ _ h => h) (by rfl) (by assumption) ?_ ?_; rotate_left; (intro w hSw; (try dsimp only at hSw); go_simp <;> with_reducible rfl); simp only [Act.put, List.setIfInBounds_toArray, List.set_cons_zero, List.set_cons_succ]
  refine takeVal 4 (some 42) ?_ rfl (by kernel_rfl) (by kernel_rfl) (by kernel_rfl) rfl (fun _ _ _ h => h) (by rfl) (by assumption) ?_ ?_; rotate_left; (intro w hSw; (try dsimp only at hSw); go_simp <;> with_reducible rfl); simp only [Act.put, List.setIfInBounds_toArray, List.set_cons_zero, List.set_cons_succ]
  refine takeVal 5 (some 43) ?_ rfl (by kernel_rfl) (by kernel_rfl) (by kernel_rfl) rfl (fun _ _ _ h => h) (by rfl) (by assumption) ?_ ?_; rotate_left; (intro w hSw; (try dsimp only at hSw); go_simp <;> with_reducible rfl); simp only [Act.put, List.setIfInBounds_toArray, List.set_cons_zero, List.set_cons_succ]
  refine takeVal 6 (some 44) ?_ rfl (by kernel_rfl) (by kernel_rfl) (by kernel_rfl) rfl (fun _ _ _ h => h) (by rfl) (by assumption) ?_ ?_; rotate_left; (intro w hSw; (try dsimp only at hSw); go_simp <;> with_reducible rfl); simp only [Act.put, List.setIfInBounds_toArray, List.set_cons_zero, List.set_cons_succ]
  refine takeVal 7 (some 45) ?_ rfl (by kernel_rfl) (by kernel_rfl) (by kernel_rfl) rfl (fun _ _ _ h => h) (by rfl) (by assumption) ?_ ?_; rotate_left; (intro w hSw; (try dsimp only at hSw); go_simp <;> with_reducible rfl); simp only [Act.put, List.setIfInBounds_toArray, List.set_cons_zero, List.set_cons_succ]
  refine takeVal 8 (some 9) ?_ rfl (by kernel_rfl) (by kernel_rfl) (by kernel_rfl) rfl (fun _ _ _ h => h) (by rfl) (by assumption) ?_ ?_; rotate_left; (intro w hSw; (try dsimp only at hSw); go_simp <;> with_reducible rfl); simp only [Act.put, List.setIfInBounds_toArray, List.set_cons_zero, List.set_cons_succ]
  refine wpAnyH_done (by kernel_rfl) ?_ _
  clear c0 c1 c2 e0 e1 f0 f1 n0 n2 nz nz2 n3
  obtain ⟨how, hhow⟩ : ∃ x, x = 1 + (x0 : Int) := ⟨_, rfl⟩
  obtain ⟨bits, hbits⟩ : ∃ x, x = (x1 : Int) := ⟨_, rfl⟩
  obtain ⟨since, hsince⟩ : ∃ x, x = Int.tmod (p2 : Int) (b.mod + 2) - 1 := ⟨_, rfl⟩
  rw [← hhow, ← hbits, ← hsince]
  clear hhow hbits hsince u0 u1 k0 k1; have ST := stores s how bits since (unhide OK)
  obtain ⟨X, hX⟩ : ∃ X, X = flagsV b s how bits since := ⟨_, rfl⟩
  rw [← hX] at ST
  have HX := hide hX; clear hX
  obtain ⟨n, D, L⟩ := X
  simp only at ST
  have OKN := hide ST.ok; have FITN := hide (fit_ok ST.ok); have c30 := (head_parts (boxOk_iff.1 ST.ok).1).2.2.2.2.1; have c40 := (head_parts (boxOk_iff.1 ST.ok).1).2.2.2.2.2.1; have LEN := hide ST.len; have EACH := hide ST.each; have MOD := hide ST.mod; have dD := ST.d; have dL := ST.l; clear ST; have Bc0_2 := (unhide B).cell 0 rfl; have Bc1_2 := (unhide B).cell 1 rfl; have Bc2_2 := (unhide B).cell 2 rfl; have Bc3_2 := (unhide B).cell 3 rfl; have Bc4_2 := (unhide B).cell 4 rfl; have Bc5_2 := (unhide B).cell 5 rfl; have Bc6_2 := (unhide B).cell 6 rfl; go_wp2_with fail; clear Bc0_2 Bc1_2 Bc2_2 Bc3_2 Bc4_2 Bc5_2 Bc6_2
  refine ((unhide CC).flags b _ _ _ _ _ s how bits since _ (unhide FIT) (by omega) (unhide OB) (unhide RS) (unhide BB)).mono ?_
  rintro e w5 ⟨mN, tN, vD, vL, rfl, oN, oD, oL, hb⟩
  rw [← unhide HX] at oN oD oL ⊢
  simp only at oN oD oL ⊢
  obtain ⟨amN, cmN, rfl⟩ := g_shape oN.1
  obtain ⟨atN, ctN, rfl⟩ := g_shape oN.2
  rw [unhide LEN] at oN ⊢
  have ON_ := hide oN; have RD_ := hide oD; have RL_ := hide oL; clear oN oD oL; replace B := hide ((unhide B).ups hb); replace OB := hide ((unhide OB).up hb); replace RS := hide ((unhide RS).up hb); have sz6 := hide (hb.size); replace BB := hide (below_y (unhide BB) hb); clear hb; have ON := ON_; have RD := RD_; have RL := RL_; clear ON_ RD_ RL_
  obtain ⟨w6, hN⟩ : ∃ X, X = w5.alloc (.cells ([.string n.name, .int .i64 n.valid, .int .i64 n.next, .int .i64 n.mod, .slice amN b.mails.length cmN, .slice atN n.tombs.length ctN, .int .i64 n.hor] : List Value).toArray 27) := ⟨_, rfl⟩
  have Nx : HasObj w6 w5.heap.size 27 [.string n.name, .int .i64 n.valid, .int .i64 n.next, .int .i64 n.mod, .slice amN b.mails.length cmN, .slice atN n.tombs.length ctN, .int .i64 n.hor] := by rw [hN]; exact HasObj.new _ _ _
  have hbn : Below w5.heap.size w5 w6 := by rw [hN]; exact (Below.refl _ _).alloc (Nat.le_refl _) _
  have neBN : w1.heap.size ≠ w5.heap.size := Nat.ne_of_lt (unhide B).lt
  have loN : w.heap.size ≤ w5.heap.size := (unhide BB).size
  have EN := hN.symm; clear hN; replace B := hide ((unhide B).ups hbn); replace OB := hide ((unhide OB).up hbn); replace RS := hide ((unhide RS).up hbn); replace ON := hide ((unhide ON).up hbn); replace RD := hide ((unhide RD).up hbn); replace RL := hide ((unhide RL).up hbn); have sz7 := hide (hbn.size); replace BB := hide (below_y (unhide BB) hbn); clear hbn; have N := hide Nx; clear Nx; have Bc0_3 := (unhide B).cell 0 rfl; have Bc1_3 := (unhide B).cell 1 rfl; have Bc2_3 := (unhide B).cell 2 rfl; have Bc3_3 := (unhide B).cell 3 rfl; have Bc4_3 := (unhide B).cell 4 rfl; have Bc5_3 := (unhide B).cell 5 rfl; have Bc6_3 := (unhide B).cell 6 rfl; go_wp2_with fail; clear Bc0_3 Bc1_3 Bc2_3 Bc3_3 Bc4_3 Bc5_3 Bc6_3 EN
  refine (spec_SetFlags_any b _ _ _ s _ how bits since _ (unhide FIT) (by omega) (unhide RS).read (unhide OB)).mono ?_
  rintro e w7 ⟨mW, tW, vX, vY, rfl, oW, oX, oY, hb⟩
  rw [← unhide HX] at oW oX oY ⊢
  simp only at oW oX oY ⊢
  obtain ⟨amW, cmW, rfl⟩ := g_shape oW.1
  obtain ⟨atW, ctW, rfl⟩ := g_shape oW.2
  rw [unhide LEN] at oW ⊢
  have OW_ := hide oW; have RX_ := hide oX; have RY_ := hide oY; clear oW oX oY; replace B := hide ((unhide B).ups hb); replace N := hide ((unhide N).ups hb); replace OB := hide ((unhide OB).up hb); replace RS := hide ((unhide RS).up hb); replace ON := hide ((unhide ON).up hb); replace RD := hide ((unhide RD).up hb); replace RL := hide ((unhide RL).up hb); have sz8 := hide (hb.size); replace BB := hide (below_y (unhide BB) hb); clear hb; have OW := OW_; have RX := RX_; have RY := RY_; clear OW_ RX_ RY_
  obtain ⟨w8, hW⟩ : ∃ X, X = w7.alloc (.cells ([.string n.name, .int .i64 n.valid, .int .i64 n.next, .int .i64 n.mod, .slice amW b.mails.length cmW, .slice atW n.tombs.length ctW, .int .i64 n.hor] : List Value).toArray 27) := ⟨_, rfl⟩
  have Wx : HasObj w8 w7.heap.size 27 [.string n.name, .int .i64 n.valid, .int .i64 n.next, .int .i64 n.mod, .slice amW b.mails.length cmW, .slice atW n.tombs.length ctW, .int .i64 n.hor] := by rw [hW]; exact HasObj.new _ _ _
  have hbn : Below w7.heap.size w7 w8 := by rw [hW]; exact (Below.refl _ _).alloc (Nat.le_refl _) _
  have neBW : w1.heap.size ≠ w7.heap.size := Nat.ne_of_lt (unhide B).lt
  have neNW : w5.heap.size ≠ w7.heap.size := Nat.ne_of_lt (unhide N).lt
  have loW : w.heap.size ≤ w7.heap.size := (unhide BB).size
  have EW := hW.symm; clear hW; replace B := hide ((unhide B).ups hbn); replace N := hide ((unhide N).ups hbn); replace OB := hide ((unhide OB).up hbn); replace RS := hide ((unhide RS).up hbn); replace ON := hide ((unhide ON).up hbn); replace RD := hide ((unhide RD).up hbn); replace RL := hide ((unhide RL).up hbn); replace OW := hide ((unhide OW).up hbn); replace RX := hide ((unhide RX).up hbn); replace RY := hide ((unhide RY).up hbn); have sz9 := hide (hbn.size); replace BB := hide (below_y (unhide BB) hbn); clear hbn; have W := hide Wx; clear Wx; have Nc0_4 := (unhide N).cell 0 rfl; have Nc1_4 := (unhide N).cell 1 rfl; have Nc2_4 := (unhide N).cell 2 rfl; have Nc3_4 := (unhide N).cell 3 rfl; have Nc4_4 := (unhide N).cell 4 rfl; have Nc5_4 := (unhide N).cell 5 rfl; have Nc6_4 := (unhide N).cell 6 rfl; have Wc0_5 := (unhide W).cell 0 rfl; have Wc1_5 := (unhide W).cell 1 rfl; have Wc2_5 := (unhide W).cell 2 rfl; have Wc3_5 := (unhide W).cell 3 rfl; have Wc4_5 := (unhide W).cell 4 rfl; have Wc5_5 := (unhide W).cell 5 rfl; have Wc6_5 := (unhide W).cell 6 rfl; go_wp2_with fail; clear Nc0_4 Nc1_4 Nc2_4 Nc3_4 Nc4_4 Nc5_4 Nc6_4 Wc0_5 Wc1_5 Wc2_5 Wc3_5 Wc4_5 Wc5_5 Wc6_5 EW
  refine (sameBox_same n _ _ _ _ _ _ _ (by omega) (by omega) (unhide ON) (unhide OW)).mono ?_
  rintro e w9 ⟨rfl, hb⟩
  replace B := hide ((unhide B).ups hb); replace N := hide ((unhide N).ups hb); replace W := hide ((unhide W).ups hb); replace OB := hide ((unhide OB).up hb); replace RS := hide ((unhide RS).up hb); replace ON := hide ((unhide ON).up hb); replace RD := hide ((unhide RD).up hb); replace RL := hide ((unhide RL).up hb); replace OW := hide ((unhide OW).up hb); replace RX := hide ((unhide RX).up hb); replace RY := hide ((unhide RY).up hb); have sz10 := hide (hb.size); replace BB := hide (below_y (unhide BB) hb); clear hb; go_wp2_with fail
  refine (sameSetS_held D vD vX _ _ _ dD (unhide RD) (unhide RX)).mono ?_
  rintro e w10 ⟨rfl, hb⟩
  replace B := hide ((unhide B).ups hb); replace N := hide ((unhide N).ups hb); replace W := hide ((unhide W).ups hb); replace OB := hide ((unhide OB).up hb); replace RS := hide ((unhide RS).up hb); replace ON := hide ((unhide ON).up hb); replace RD := hide ((unhide RD).up hb); replace RL := hide ((unhide RL).up hb); replace OW := hide ((unhide OW).up hb); replace RX := hide ((unhide RX).up hb); replace RY := hide ((unhide RY).up hb); have sz11 := hide (hb.size); replace BB := hide (below_y (unhide BB) hb); clear hb; go_wp2_with fail
  refine (sameSetS_held L vL vY _ _ _ dL (unhide RL) (unhide RY)).mono ?_
  rintro e w11 ⟨rfl, hb⟩
  replace B := hide ((unhide B).ups hb); replace N := hide ((unhide N).ups hb); replace W := hide ((unhide W).ups hb); replace OB := hide ((unhide OB).up hb); replace RS := hide ((unhide RS).up hb); replace ON := hide ((unhide ON).up hb); replace RD := hide ((unhide RD).up hb); replace RL := hide ((unhide RL).up hb); replace OW := hide ((unhide OW).up hb); replace RX := hide ((unhide RX).up hb); replace RY := hide ((unhide RY).up hb); have sz12 := hide (hb.size); replace BB := hide (below_y (unhide BB) hb); clear hb; have Nc0_6 := (unhide N).cell 0 rfl; have Nc1_6 := (unhide N).cell 1 rfl; have Nc2_6 := (unhide N).cell 2 rfl; have Nc3_6 := (unhide N).cell 3 rfl; have Nc4_6 := (unhide N).cell 4 rfl; have Nc5_6 := (unhide N).cell 5 rfl; have Nc6_6 := (unhide N).cell 6 rfl; go_wp2_with fail; clear Nc0_6 Nc1_6 Nc2_6 Nc3_6 Nc4_6 Nc5_6 Nc6_6
  refine ((unhide CC).ok n _ _ _ _ (unhide FITN) (unhide ON) (unhide BB)).mono ?_
  rintro e w12 ⟨rfl, hb⟩
  replace B := hide ((unhide B).ups hb); replace N := hide ((unhide N).ups hb); replace W := hide ((unhide W).ups hb); replace OB := hide ((unhide OB).up hb); replace RS := hide ((unhide RS).up hb); replace ON := hide ((unhide ON).up hb); replace RD := hide ((unhide RD).up hb); replace RL := hide ((unhide RL).up hb); replace OW := hide ((unhide OW).up hb); replace RX := hide ((unhide RX).up hb); replace RY := hide ((unhide RY).up hb); have sz13 := hide (hb.size); replace BB := hide (below_y (unhide BB) hb); clear hb
  rw [unhide OKN]
  clear OW RX RY W RS; have Nc0_7 := (unhide N).cell 0 rfl; have Nc1_7 := (unhide N).cell 1 rfl; have Nc2_7 := (unhide N).cell 2 rfl; have Nc3_7 := (unhide N).cell 3 rfl; have Nc4_7 := (unhide N).cell 4 rfl; have Nc5_7 := (unhide N).cell 5 rfl; have Nc6_7 := (unhide N).cell 6 rfl; have Bc0_8 := (unhide B).cell 0 rfl; have Bc1_8 := (unhide B).cell 1 rfl; have Bc2_8 := (unhide B).cell 2 rfl; have Bc3_8 := (unhide B).cell 3 rfl; have Bc4_8 := (unhide B).cell 4 rfl; have Bc5_8 := (unhide B).cell 5 rfl; have Bc6_8 := (unhide B).cell 6 rfl
  go_wp2
  clear Nc0_7 Nc1_7 Nc2_7 Nc3_7 Nc4_7 Nc5_7 Nc6_7 Bc0_8 Bc1_8 Bc2_8 Bc3_8 Bc4_8 Bc5_8 Bc6_8
  obtain ⟨REL, HREL⟩ : ∃ REL : Value → World → Prop, Hid (REL = fun i wr => ∃ k : Nat, k ≤ b.mails.length ∧ i = .int .i64 k ∧ HasObj wr (w1.heap.size) 27 [.string b.name, .int .i64 b.valid, .int .i64 b.next, .int .i64 b.mod, .slice amB b.mails.length cmB, .slice atB b.tombs.length ctB, .int .i64 b.hor] ∧ HasObj wr (w5.heap.size) 27 [.string n.name, .int .i64 n.valid, .int .i64 n.next, .int .i64 n.mod, .slice amN b.mails.length cmN, .slice atN n.tombs.length ctN, .int .i64 n.hor] ∧ OwnBx w.heap.size wr (.slice amB b.mails.length cmB) (.slice atB b.tombs.length ctB) b ∧ OwnBx w4.drew.heap.size wr (.slice amN b.mails.length cmN) (.slice atN n.tombs.length ctN) n ∧ OwnR w4.drew.heap.size wr vD D ∧ OwnR w4.drew.heap.size wr vL L ∧ Below w.heap.size w wr) := ⟨_, rfl⟩
  go_loopw [16] (fun i wr => REL i wr) (fun i _ => b.mails.length - (intOf i).toNat)
  case atStart => rw [unhide HREL]; exact ⟨0, Nat.zero_le _, rfl, unhide B, unhide N, unhide OB, unhide ON, unhide RD, unhide RL, unhide BB⟩
  clear B N OB ON RD RL BB
  case round =>
    rw [unhide HREL] at hrel
    obtain ⟨k, hk, rfl, oB, oN, rB, rN, rD, rL, hbel⟩ := hrel
    obtain ⟨wo, hwo⟩ : ∃ wo, wo = wr := ⟨_, rfl⟩
    subst hwo
    by_cases hlt : k < b.mails.length
    · have hgk : b.mails[k]? = some b.mails[k] := List.getElem?_eq_getElem hlt
      obtain ⟨m9, hm9, ea, eb, ec⟩ := unhide EACH k _ hgk
      obtain ⟨gb, qb, e1⟩ := mail_at rB.1 hgk
      obtain ⟨gn, qn, e2⟩ := mail_at rN.1 hm9
      have e3 := (Value.slice.inj e1).1; have e4 := (Value.slice.inj e2).1; clear e1 e2
      subst e3 e4
      obtain ⟨c0, c1, c2, c3⟩ := mail_cells rB.1 hgk
      have HM9 := hide hm9
      generalize b.mails[k] = f at *
      have EA := hide ea; have EB := hide eb; have EC := hide ec; clear ea eb ec hgk hm9
      have i1 : (0 : Int) ≤ (k : Int) := by omega
      have i2 : (k : Int) < (b.mails.length : Int) := by omega
      have B := hide oB; have N := hide oN; have OB := hide rB; have ON := hide rN; have RD := hide rD; have RL := hide rL; have BB := hide hbel; clear oB oN rB rN rD rL hbel; have Bc0_9 := (unhide B).cell 0 rfl; have Bc1_9 := (unhide B).cell 1 rfl; have Bc2_9 := (unhide B).cell 2 rfl; have Bc3_9 := (unhide B).cell 3 rfl; have Bc4_9 := (unhide B).cell 4 rfl; have Bc5_9 := (unhide B).cell 5 rfl; have Bc6_9 := (unhide B).cell 6 rfl
      obtain ⟨wr1, hM⟩ : ∃ X, X = wo.alloc (.cells ([.int .i64 f.uid, .int .i64 f.flags, .int .i64 f.mod, .string f.text] : List Value).toArray 40) := ⟨_, rfl⟩
      have Mx : HasObj wr1 wo.heap.size 40 [.int .i64 f.uid, .int .i64 f.flags, .int .i64 f.mod, .string f.text] := by rw [hM]; exact HasObj.new _ _ _
      have hbn : Below wo.heap.size wo wr1 := by rw [hM]; exact (Below.refl _ _).alloc (Nat.le_refl _) _
      have neBM : w1.heap.size ≠ wo.heap.size := Nat.ne_of_lt (unhide B).lt
      have neNM : w5.heap.size ≠ wo.heap.size := Nat.ne_of_lt (unhide N).lt
      have loM : w.heap.size ≤ wo.heap.size := (unhide BB).size
      have EM := hM.symm; clear hM; replace B := hide ((unhide B).ups hbn); replace N := hide ((unhide N).ups hbn); replace OB := hide ((unhide OB).up hbn); replace ON := hide ((unhide ON).up hbn); replace RD := hide ((unhide RD).up hbn); replace RL := hide ((unhide RL).up hbn); have sz301 := hide (hbn.size); replace BB := hide (below_y (unhide BB) hbn); clear hbn; have M := hide Mx; clear Mx
      have NC := hide (fun (W : World) (h : OwnBx w4.drew.heap.size W (.slice (some ⟨gn, 0, none⟩) b.mails.length cmN) (.slice atN n.tombs.length ctN) n) => mail_cells h.1 (unhide HM9))
      cases hd : hasB D f.uid with
      | false =>
        have e9 := unhide EA hd
        subst e9
        clear EA EB; have Mc0_10 := (unhide M).cell 0 rfl; have Mc1_10 := (unhide M).cell 1 rfl; have Mc2_10 := (unhide M).cell 2 rfl; have Mc3_10 := (unhide M).cell 3 rfl; have Nc0_11 := (unhide N).cell 0 rfl; have Nc1_11 := (unhide N).cell 1 rfl; have Nc2_11 := (unhide N).cell 2 rfl; have Nc3_11 := (unhide N).cell 3 rfl; have Nc4_11 := (unhide N).cell 4 rfl; have Nc5_11 := (unhide N).cell 5 rfl; have Nc6_11 := (unhide N).cell 6 rfl
        cases hl9 : hasB L m9.uid with
        | false =>
          go_wp2
          clear c0 c1 c2 c3
          refine wp_region_held_drew (S := fun w' => w'.cell? ⟨w5.heap.size, 3, none⟩ = some (.int .i64 n.mod) ∧ w'.cell? ⟨w5.heap.size, 4, none⟩ = some (.slice (some ⟨gn, 0, none⟩) b.mails.length cmN) ∧ w'.cell? ⟨wo.heap.size, 0, none⟩ = some (.int .i64 m9.uid) ∧ w'.cell? ⟨wo.heap.size, 1, none⟩ = some (.int .i64 m9.flags) ∧ w'.cell? ⟨wo.heap.size, 2, none⟩ = some (.int .i64 m9.mod) ∧ w'.cell? ⟨wo.heap.size, 3, none⟩ = some (.string m9.text) ∧ w'.cell? ⟨gn, k * 4, none⟩ = some (.int .i64 m9.uid) ∧ w'.cell? ⟨gn, k * 4 + 1, none⟩ = some (.int .i64 m9.flags) ∧ w'.cell? ⟨gn, k * 4 + 2, none⟩ = some (.int .i64 m9.mod) ∧ w'.cell? ⟨gn, k * 4 + 3, none⟩ = some (.string m9.text)) (by kernel_rfl) (⟨(unhide N).cell 3 rfl, (unhide N).cell 4 rfl, (unhide M).cell 0 rfl, (unhide M).cell 1 rfl, (unhide M).cell 2 rfl, (unhide M).cell 3 rfl, (unhide NC _ (unhide ON)).1, (unhide NC _ (unhide ON)).2.1, (unhide NC _ (unhide ON)).2.2.1, (unhide NC _ (unhide ON)).2.2.2⟩) (fun hHeld => ?_)
          clear Bc0_9 Bc1_9 Bc2_9 Bc3_9 Bc4_9 Bc5_9 Bc6_9 Mc0_10 Mc1_10 Mc2_10 Mc3_10 Nc0_11 Nc1_11 Nc2_11 Nc3_11 Nc4_11 Nc5_11 Nc6_11 EM; replace B := hide ((unhide B).drew); replace N := hide ((unhide N).drew); replace M := hide ((unhide M).drew); replace OB := hide ((unhide OB).drew); replace ON := hide ((unhide ON).drew); replace RD := hide ((unhide RD).drew); replace RL := hide ((unhide RL).drew); replace BB := hide ((unhide BB).drew)
          have sz302 : Hid (wr1.heap.size ≤ wr1.drew.heap.size) := Nat.le_refl _
          refine takeVal 0 (some 108) ?_ rfl (by kernel_rfl) (by kernel_rfl) (by kernel_rfl) rfl (fun _ _ _ h => h) (by rfl) (by assumption) ?_ ?_; rotate_left; (intro w hSw; (try dsimp only at hSw); go_simp <;> with_reducible rfl); simp only [Act.put, List.setIfInBounds_toArray, List.set_cons_zero, List.set_cons_succ]
          refine takeVal 1 (some 109) ?_ rfl (by kernel_rfl) (by kernel_rfl) (by kernel_rfl) rfl (fun _ _ _ h => h) (by rfl) (by assumption) ?_ ?_; rotate_left; (intro w hSw; (try dsimp only at hSw); go_simp <;> with_reducible rfl); simp only [Act.put, List.setIfInBounds_toArray, List.set_cons_zero, List.set_cons_succ]
          refine takeVal 2 (some 110) ?_ rfl (by kernel_rfl) (by kernel_rfl) (by kernel_rfl) rfl (fun _ _ _ h => h) (by rfl) (by assumption) ?_ ?_; rotate_left; (intro w hSw; (try dsimp only at hSw); go_simp <;> with_reducible rfl); simp only [Act.put, List.setIfInBounds_toArray, List.set_cons_zero, List.set_cons_succ]
          refine wpAnyH_ready (rs := [3]) (by kernel_rfl) (by simp) ?_
          refine AllReadyH.cons rfl (fun K hK => ?_) AllReadyH.nil
          go_simp
          refine ((unhide CC).has D m9.uid vD _ _ dD (unhide RD) (unhide BB)).mono ?_
          rintro e wek2 ⟨rfl, hb⟩
          rw [hd]
          replace B := hide ((unhide B).ups hb); replace N := hide ((unhide N).ups hb); replace M := hide ((unhide M).ups hb); replace OB := hide ((unhide OB).up hb); replace ON := hide ((unhide ON).up hb); replace RD := hide ((unhide RD).up hb); replace RL := hide ((unhide RL).up hb); have sz303 := hide (hb.size); replace BB := hide (below_y (unhide BB) hb); clear hb; go_wp2_with fail
          refine hK.out _ _ (⟨(unhide N).cell 3 rfl, (unhide N).cell 4 rfl, (unhide M).cell 0 rfl, (unhide M).cell 1 rfl, (unhide M).cell 2 rfl, (unhide M).cell 3 rfl, (unhide NC _ (unhide ON)).1, (unhide NC _ (unhide ON)).2.1, (unhide NC _ (unhide ON)).2.2.1, (unhide NC _ (unhide ON)).2.2.2⟩) (fun hHeld2 => ?_)
          clear hK K hHeld; have hHeld := hHeld2; clear hHeld2
          try simp only [Act.put, List.setIfInBounds_toArray, List.set_cons_zero, List.set_cons_succ]
          refine takeVal 4 (some 112) ?_ rfl (by kernel_rfl) (by kernel_rfl) (by kernel_rfl) rfl (fun _ _ _ h => h) (by rfl) (by assumption) ?_ ?_; rotate_left; (intro w hSw; (try dsimp only at hSw); go_simp <;> with_reducible rfl); simp only [Act.put, List.setIfInBounds_toArray, List.set_cons_zero, List.set_cons_succ]
          refine takeVal 5 (some 113) ?_ rfl (by kernel_rfl) (by kernel_rfl) (by kernel_rfl) rfl (fun _ _ _ h => h) (by rfl) (by assumption) ?_ ?_; rotate_left; (intro w hSw; (try dsimp only at hSw); go_simp <;> with_reducible rfl); simp only [Act.put, List.setIfInBounds_toArray, List.set_cons_zero, List.set_cons_succ]
          refine takeVal 6 (some 114) ?_ rfl (by kernel_rfl) (by kernel_rfl) (by kernel_rfl) rfl (fun _ _ _ h => h) (by rfl) (by assumption) ?_ ?_; rotate_left; (intro w hSw; (try dsimp only at hSw); go_simp <;> with_reducible rfl); simp only [Act.put, List.setIfInBounds_toArray, List.set_cons_zero, List.set_cons_succ]
          refine takeVal 7 (some 115) ?_ rfl (by kernel_rfl) (by kernel_rfl) (by kernel_rfl) rfl (fun _ _ _ h => h) (by rfl) (by assumption) ?_ ?_; rotate_left; (intro w hSw; (try dsimp only at hSw); go_simp <;> with_reducible rfl); simp only [Act.put, List.setIfInBounds_toArray, List.set_cons_zero, List.set_cons_succ]
          refine takeVal 8 (some 116) ?_ rfl (by kernel_rfl) (by kernel_rfl) (by kernel_rfl) rfl (fun _ _ _ h => h) (by rfl) (by assumption) ?_ ?_; rotate_left; (intro w hSw; (try dsimp only at hSw); go_simp <;> with_reducible rfl); simp only [Act.put, List.setIfInBounds_toArray, List.set_cons_zero, List.set_cons_succ]
          refine takeVal 9 (some 117) ?_ rfl (by kernel_rfl) (by kernel_rfl) (by kernel_rfl) rfl (fun _ _ _ h => h) (by rfl) (by assumption) ?_ ?_; rotate_left; (intro w hSw; (try dsimp only at hSw); go_simp <;> with_reducible rfl); simp only [Act.put, List.setIfInBounds_toArray, List.set_cons_zero, List.set_cons_succ]
          refine takeVal 10 (some 118) ?_ rfl (by kernel_rfl) (by kernel_rfl) (by kernel_rfl) rfl (fun _ _ _ h => h) (by rfl) (by assumption) ?_ ?_; rotate_left; (intro w hSw; (try dsimp only at hSw); go_simp <;> with_reducible rfl); simp only [Act.put, List.setIfInBounds_toArray, List.set_cons_zero, List.set_cons_succ]
          refine takeVal 11 (some 119) ?_ rfl (by kernel_rfl) (by kernel_rfl) (by kernel_rfl) rfl (fun _ _ _ h => h) (by rfl) (by assumption) ?_ ?_; rotate_left; (intro w hSw; (try dsimp only at hSw); go_simp <;> with_reducible rfl); simp only [Act.put, List.setIfInBounds_toArray, List.set_cons_zero, List.set_cons_succ]
          refine takeVal 12 (some 120) ?_ rfl (by kernel_rfl) (by kernel_rfl) (by kernel_rfl) rfl (fun _ _ _ h => h) (by rfl) (by assumption) ?_ ?_; rotate_left; (intro w hSw; (try dsimp only at hSw); go_simp <;> with_reducible rfl); simp only [Act.put, List.setIfInBounds_toArray, List.set_cons_zero, List.set_cons_succ]
          refine takeVal 13 (some 121) ?_ rfl (by kernel_rfl) (by kernel_rfl) (by kernel_rfl) rfl (fun _ _ _ h => h) (by rfl) (by assumption) ?_ ?_; rotate_left; (intro w hSw; (try dsimp only at hSw); go_simp <;> with_reducible rfl); simp only [Act.put, List.setIfInBounds_toArray, List.set_cons_zero, List.set_cons_succ]
          refine takeVal 14 (some 122) ?_ rfl (by kernel_rfl) (by kernel_rfl) (by kernel_rfl) rfl (fun _ _ _ h => h) (by rfl) (by assumption) ?_ ?_; rotate_left; (intro w hSw; (try dsimp only at hSw); go_simp <;> with_reducible rfl); simp only [Act.put, List.setIfInBounds_toArray, List.set_cons_zero, List.set_cons_succ]
          refine takeVal 15 (some 123) ?_ rfl (by kernel_rfl) (by kernel_rfl) (by kernel_rfl) rfl (fun _ _ _ h => h) (by rfl) (by assumption) ?_ ?_; rotate_left; (intro w hSw; (try dsimp only at hSw); go_simp <;> with_reducible rfl); simp only [Act.put, List.setIfInBounds_toArray, List.set_cons_zero, List.set_cons_succ]
          refine takeVal 16 (some 124) ?_ rfl (by kernel_rfl) (by kernel_rfl) (by kernel_rfl) rfl (fun _ _ _ h => h) (by rfl) (by assumption) ?_ ?_; rotate_left; (intro w hSw; (try dsimp only at hSw); go_simp <;> with_reducible rfl); simp only [Act.put, List.setIfInBounds_toArray, List.set_cons_zero, List.set_cons_succ]
          refine takeVal 17 (some 125) ?_ rfl (by kernel_rfl) (by kernel_rfl) (by kernel_rfl) rfl (fun _ _ _ h => h) (by rfl) (by assumption) ?_ ?_; rotate_left; (intro w hSw; (try dsimp only at hSw); go_simp <;> with_reducible rfl); simp only [Act.put, List.setIfInBounds_toArray, List.set_cons_zero, List.set_cons_succ]
          refine wpAnyH_ready (rs := [18]) (by kernel_rfl) (by simp) ?_
          refine AllReadyH.cons rfl (fun K hK => ?_) AllReadyH.nil
          go_simp
          refine ((unhide CC).has D m9.uid vD _ _ dD (unhide RD) (unhide BB)).mono ?_
          rintro e wek3 ⟨rfl, hb⟩
          rw [hd]
          replace B := hide ((unhide B).ups hb); replace N := hide ((unhide N).ups hb); replace M := hide ((unhide M).ups hb); replace OB := hide ((unhide OB).up hb); replace ON := hide ((unhide ON).up hb); replace RD := hide ((unhide RD).up hb); replace RL := hide ((unhide RL).up hb); have sz304 := hide (hb.size); replace BB := hide (below_y (unhide BB) hb); clear hb; go_wp2_with fail
          refine hK.out _ _ (⟨(unhide N).cell 3 rfl, (unhide N).cell 4 rfl, (unhide M).cell 0 rfl, (unhide M).cell 1 rfl, (unhide M).cell 2 rfl, (unhide M).cell 3 rfl, (unhide NC _ (unhide ON)).1, (unhide NC _ (unhide ON)).2.1, (unhide NC _ (unhide ON)).2.2.1, (unhide NC _ (unhide ON)).2.2.2⟩) (fun hHeld2 => ?_)
          clear hK K hHeld; have hHeld := hHeld2; clear hHeld2
          try simp only [Act.put, List.setIfInBounds_toArray, List.set_cons_zero, List.set_cons_succ]
          refine takeVal 19 (some 127) ?_ rfl (by kernel_rfl) (by kernel_rfl) (by kernel_rfl) rfl (fun _ _ _ h => h) (by rfl) (by assumption) ?_ ?_; rotate_left; (intro w hSw; (try dsimp only at hSw); go_simp <;> with_reducible rfl); simp only [Act.put, List.setIfInBounds_toArray, List.set_cons_zero, List.set_cons_succ]
          refine takeSkip 20 (some 128) rfl (by kernel_rfl) (by kernel_rfl) (by kernel_rfl) rfl (fun _ _ _ h => h) (by rfl) (by assumption) ?_
          simp only [Act.put, List.setIfInBounds_toArray, List.set_cons_zero, List.set_cons_succ]
          refine takeSkip 21 (some 129) rfl (by kernel_rfl) (by kernel_rfl) (by kernel_rfl) rfl (fun _ _ _ h => h) (by rfl) (by assumption) ?_
          simp only [Act.put, List.setIfInBounds_toArray, List.set_cons_zero, List.set_cons_succ]
          refine takeSkip 22 (some 130) rfl (by kernel_rfl) (by kernel_rfl) (by kernel_rfl) rfl (fun _ _ _ h => h) (by rfl) (by assumption) ?_
          simp only [Act.put, List.setIfInBounds_toArray, List.set_cons_zero, List.set_cons_succ]
          refine takeSkip 23 (some 131) rfl (by kernel_rfl) (by kernel_rfl) (by kernel_rfl) rfl (fun _ _ _ h => h) (by rfl) (by assumption) ?_
          simp only [Act.put, List.setIfInBounds_toArray, List.set_cons_zero, List.set_cons_succ]
          refine takeSkip 24 (some 132) rfl (by kernel_rfl) (by kernel_rfl) (by kernel_rfl) rfl (fun _ _ _ h => h) (by rfl) (by assumption) ?_
          simp only [Act.put, List.setIfInBounds_toArray, List.set_cons_zero, List.set_cons_succ]
          refine takeSkip 25 (some 133) rfl (by kernel_rfl) (by kernel_rfl) (by kernel_rfl) rfl (fun _ _ _ h => h) (by rfl) (by assumption) ?_
          simp only [Act.put, List.setIfInBounds_toArray, List.set_cons_zero, List.set_cons_succ]
          refine takeSkip 26 (some 134) rfl (by kernel_rfl) (by kernel_rfl) (by kernel_rfl) rfl (fun _ _ _ h => h) (by rfl) (by assumption) ?_
          simp only [Act.put, List.setIfInBounds_toArray, List.set_cons_zero, List.set_cons_succ]
          refine takeSkip 27 (some 135) rfl (by kernel_rfl) (by kernel_rfl) (by kernel_rfl) rfl (fun _ _ _ h => h) (by rfl) (by assumption) ?_
          simp only [Act.put, List.setIfInBounds_toArray, List.set_cons_zero, List.set_cons_succ]
          refine takeSkip 28 (some 136) rfl (by kernel_rfl) (by kernel_rfl) (by kernel_rfl) rfl (fun _ _ _ h => h) (by rfl) (by assumption) ?_
          simp only [Act.put, List.setIfInBounds_toArray, List.set_cons_zero, List.set_cons_succ]
          refine takeSkip 29 (some 137) rfl (by kernel_rfl) (by kernel_rfl) (by kernel_rfl) rfl (fun _ _ _ h => h) (by rfl) (by assumption) ?_
          simp only [Act.put, List.setIfInBounds_toArray, List.set_cons_zero, List.set_cons_succ]
          refine takeSkip 30 (some 138) rfl (by kernel_rfl) (by kernel_rfl) (by kernel_rfl) rfl (fun _ _ _ h => h) (by rfl) (by assumption) ?_
          simp only [Act.put, List.setIfInBounds_toArray, List.set_cons_zero, List.set_cons_succ]
          refine takeSkip 31 (some 139) rfl (by kernel_rfl) (by kernel_rfl) (by kernel_rfl) rfl (fun _ _ _ h => h) (by rfl) (by assumption) ?_
          simp only [Act.put, List.setIfInBounds_toArray, List.set_cons_zero, List.set_cons_succ]
          refine takeSkip 32 (some 140) rfl (by kernel_rfl) (by kernel_rfl) (by kernel_rfl) rfl (fun _ _ _ h => h) (by rfl) (by assumption) ?_
          simp only [Act.put, List.setIfInBounds_toArray, List.set_cons_zero, List.set_cons_succ]
          refine takeSkip 33 (some 141) rfl (by kernel_rfl) (by kernel_rfl) (by kernel_rfl) rfl (fun _ _ _ h => h) (by rfl) (by assumption) ?_
          simp only [Act.put, List.setIfInBounds_toArray, List.set_cons_zero, List.set_cons_succ]
          refine takeSkip 34 (some 142) rfl (by kernel_rfl) (by kernel_rfl) (by kernel_rfl) rfl (fun _ _ _ h => h) (by rfl) (by assumption) ?_
          simp only [Act.put, List.setIfInBounds_toArray, List.set_cons_zero, List.set_cons_succ]
          refine takeSkip 35 (some 143) rfl (by kernel_rfl) (by kernel_rfl) (by kernel_rfl) rfl (fun _ _ _ h => h) (by rfl) (by assumption) ?_
          simp only [Act.put, List.setIfInBounds_toArray, List.set_cons_zero, List.set_cons_succ]
          refine takeSkip 36 (some 144) rfl (by kernel_rfl) (by kernel_rfl) (by kernel_rfl) rfl (fun _ _ _ h => h) (by rfl) (by assumption) ?_
          simp only [Act.put, List.setIfInBounds_toArray, List.set_cons_zero, List.set_cons_succ]
          refine takeSkip 37 (some 145) rfl (by kernel_rfl) (by kernel_rfl) (by kernel_rfl) rfl (fun _ _ _ h => h) (by rfl) (by assumption) ?_
          simp only [Act.put, List.setIfInBounds_toArray, List.set_cons_zero, List.set_cons_succ]
          refine takeSkip 38 (some 146) rfl (by kernel_rfl) (by kernel_rfl) (by kernel_rfl) rfl (fun _ _ _ h => h) (by rfl) (by assumption) ?_
          simp only [Act.put, List.setIfInBounds_toArray, List.set_cons_zero, List.set_cons_succ]
          refine takeSkip 39 (some 147) rfl (by kernel_rfl) (by kernel_rfl) (by kernel_rfl) rfl (fun _ _ _ h => h) (by rfl) (by assumption) ?_
          simp only [Act.put, List.setIfInBounds_toArray, List.set_cons_zero, List.set_cons_succ]
          refine takeSkip 40 (some 148) rfl (by kernel_rfl) (by kernel_rfl) (by kernel_rfl) rfl (fun _ _ _ h => h) (by rfl) (by assumption) ?_
          simp only [Act.put, List.setIfInBounds_toArray, List.set_cons_zero, List.set_cons_succ]
          refine takeSkip 41 (some 149) rfl (by kernel_rfl) (by kernel_rfl) (by kernel_rfl) rfl (fun _ _ _ h => h) (by rfl) (by assumption) ?_
          simp only [Act.put, List.setIfInBounds_toArray, List.set_cons_zero, List.set_cons_succ]
          refine takeSkip 42 (some 150) rfl (by kernel_rfl) (by kernel_rfl) (by kernel_rfl) rfl (fun _ _ _ h => h) (by rfl) (by assumption) ?_
          simp only [Act.put, List.setIfInBounds_toArray, List.set_cons_zero, List.set_cons_succ]
          refine takeVal 43 (some 151) ?_ rfl (by kernel_rfl) (by kernel_rfl) (by kernel_rfl) rfl (fun _ _ _ h => h) (by rfl) (by assumption) ?_ ?_; rotate_left; (intro w hSw; (try dsimp only at hSw); go_simp <;> with_reducible rfl); simp only [Act.put, List.setIfInBounds_toArray, List.set_cons_zero, List.set_cons_succ]
          refine takeVal 44 (some 152) ?_ rfl (by kernel_rfl) (by kernel_rfl) (by kernel_rfl) rfl (fun _ _ _ h => h) (by rfl) (by assumption) ?_ ?_; rotate_left; (intro w hSw; (try dsimp only at hSw); go_simp <;> with_reducible rfl); simp only [Act.put, List.setIfInBounds_toArray, List.set_cons_zero, List.set_cons_succ]
          refine takeVal 45 (some 153) ?_ rfl (by kernel_rfl) (by kernel_rfl) (by kernel_rfl) rfl (fun _ _ _ h => h) (by rfl) (by assumption) ?_ ?_; rotate_left; (intro w hSw; (try dsimp only at hSw); go_simp <;> with_reducible rfl); simp only [Act.put, List.setIfInBounds_toArray, List.set_cons_zero, List.set_cons_succ]
          refine takeVal 46 (some 154) ?_ rfl (by kernel_rfl) (by kernel_rfl) (by kernel_rfl) rfl (fun _ _ _ h => h) (by rfl) (by assumption) ?_ ?_; rotate_left; (intro w hSw; (try dsimp only at hSw); go_simp <;> with_reducible rfl); simp only [Act.put, List.setIfInBounds_toArray, List.set_cons_zero, List.set_cons_succ]
          refine takeVal 47 (some 155) ?_ rfl (by kernel_rfl) (by kernel_rfl) (by kernel_rfl) rfl (fun _ _ _ h => h) (by rfl) (by assumption) ?_ ?_; rotate_left; (intro w hSw; (try dsimp only at hSw); go_simp <;> with_reducible rfl); simp only [Act.put, List.setIfInBounds_toArray, List.set_cons_zero, List.set_cons_succ]
          refine takeVal 48 (some 156) ?_ rfl (by kernel_rfl) (by kernel_rfl) (by kernel_rfl) rfl (fun _ _ _ h => h) (by rfl) (by assumption) ?_ ?_; rotate_left; (intro w hSw; (try dsimp only at hSw); go_simp <;> with_reducible rfl); simp only [Act.put, List.setIfInBounds_toArray, List.set_cons_zero, List.set_cons_succ]
          refine wpAnyH_ready (rs := [49]) (by kernel_rfl) (by simp) ?_
          refine AllReadyH.cons rfl (fun K hK => ?_) AllReadyH.nil
          go_simp
          refine ((unhide CC).has L m9.uid vL _ _ dL (unhide RL) (unhide BB)).mono ?_
          rintro e wek4 ⟨rfl, hb⟩
          rw [hl9]
          replace B := hide ((unhide B).ups hb); replace N := hide ((unhide N).ups hb); replace M := hide ((unhide M).ups hb); replace OB := hide ((unhide OB).up hb); replace ON := hide ((unhide ON).up hb); replace RD := hide ((unhide RD).up hb); replace RL := hide ((unhide RL).up hb); have sz305 := hide (hb.size); replace BB := hide (below_y (unhide BB) hb); clear hb; go_wp2_with fail
          refine hK.out _ _ (⟨(unhide N).cell 3 rfl, (unhide N).cell 4 rfl, (unhide M).cell 0 rfl, (unhide M).cell 1 rfl, (unhide M).cell 2 rfl, (unhide M).cell 3 rfl, (unhide NC _ (unhide ON)).1, (unhide NC _ (unhide ON)).2.1, (unhide NC _ (unhide ON)).2.2.1, (unhide NC _ (unhide ON)).2.2.2⟩) (fun hHeld2 => ?_)
          clear hK K hHeld; have hHeld := hHeld2; clear hHeld2
          try simp only [Act.put, List.setIfInBounds_toArray, List.set_cons_zero, List.set_cons_succ]
          refine takeVal 50 (some 158) ?_ rfl (by kernel_rfl) (by kernel_rfl) (by kernel_rfl) rfl (fun _ _ _ h => h) (by rfl) (by assumption) ?_ ?_; rotate_left; (intro w hSw; (try dsimp only at hSw); go_simp <;> with_reducible rfl); simp only [Act.put, List.setIfInBounds_toArray, List.set_cons_zero, List.set_cons_succ]
          refine takeSkip 51 (some 159) rfl (by kernel_rfl) (by kernel_rfl) (by kernel_rfl) rfl (fun _ _ _ h => h) (by rfl) (by assumption) ?_
          simp only [Act.put, List.setIfInBounds_toArray, List.set_cons_zero, List.set_cons_succ]
          refine takeSkip 52 (some 160) rfl (by kernel_rfl) (by kernel_rfl) (by kernel_rfl) rfl (fun _ _ _ h => h) (by rfl) (by assumption) ?_
          simp only [Act.put, List.setIfInBounds_toArray, List.set_cons_zero, List.set_cons_succ]
          refine takeSkip 53 (some 161) rfl (by kernel_rfl) (by kernel_rfl) (by kernel_rfl) rfl (fun _ _ _ h => h) (by rfl) (by assumption) ?_
          simp only [Act.put, List.setIfInBounds_toArray, List.set_cons_zero, List.set_cons_succ]
          refine takeSkip 54 (some 162) rfl (by kernel_rfl) (by kernel_rfl) (by kernel_rfl) rfl (fun _ _ _ h => h) (by rfl) (by assumption) ?_
          simp only [Act.put, List.setIfInBounds_toArray, List.set_cons_zero, List.set_cons_succ]
          refine takeVal 55 (some 163) ?_ rfl (by kernel_rfl) (by kernel_rfl) (by kernel_rfl) rfl (fun _ _ _ h => h) (by rfl) (by assumption) ?_ ?_; rotate_left; (intro w hSw; (try dsimp only at hSw); go_simp <;> with_reducible rfl); simp only [Act.put, List.setIfInBounds_toArray, List.set_cons_zero, List.set_cons_succ]
          refine takeVal 56 (some 164) ?_ rfl (by kernel_rfl) (by kernel_rfl) (by kernel_rfl) rfl (fun _ _ _ h => h) (by rfl) (by assumption) ?_ ?_; rotate_left; (intro w hSw; (try dsimp only at hSw); go_simp <;> with_reducible rfl); simp only [Act.put, List.setIfInBounds_toArray, List.set_cons_zero, List.set_cons_succ]
          refine wpAnyH_done (by kernel_rfl) ?_ _
          go_wp2
          go_roundw
          case rel => rw [unhide HREL]; exact ⟨k + 1, by omega, by go_num, unhide B, unhide N, unhide OB, unhide ON, unhide RD, unhide RL, unhide BB⟩
          case measure => simp [intOf]; omega
        | true =>
          have hlm := unhide EC hl9
          have dlm : decide (m9.mod ≤ since) = false := decide_eq_false (by omega)
          go_wp2
          clear c0 c1 c2 c3
          refine wp_region_held_drew (S := fun w' => w'.cell? ⟨w5.heap.size, 3, none⟩ = some (.int .i64 n.mod) ∧ w'.cell? ⟨w5.heap.size, 4, none⟩ = some (.slice (some ⟨gn, 0, none⟩) b.mails.length cmN) ∧ w'.cell? ⟨wo.heap.size, 0, none⟩ = some (.int .i64 m9.uid) ∧ w'.cell? ⟨wo.heap.size, 1, none⟩ = some (.int .i64 m9.flags) ∧ w'.cell? ⟨wo.heap.size, 2, none⟩ = some (.int .i64 m9.mod) ∧ w'.cell? ⟨wo.heap.size, 3, none⟩ = some (.string m9.text) ∧ w'.cell? ⟨gn, k * 4, none⟩ = some (.int .i64 m9.uid) ∧ w'.cell? ⟨gn, k * 4 + 1, none⟩ = some (.int .i64 m9.flags) ∧ w'.cell? ⟨gn, k * 4 + 2, none⟩ = some (.int .i64 m9.mod) ∧ w'.cell? ⟨gn, k * 4 + 3, none⟩ = some (.string m9.text)) (by kernel_rfl) (⟨(unhide N).cell 3 rfl, (unhide N).cell 4 rfl, (unhide M).cell 0 rfl, (unhide M).cell 1 rfl, (unhide M).cell 2 rfl, (unhide M).cell 3 rfl, (unhide NC _ (unhide ON)).1, (unhide NC _ (unhide ON)).2.1, (unhide NC _ (unhide ON)).2.2.1, (unhide NC _ (unhide ON)).2.2.2⟩) (fun hHeld => ?_)
          clear Bc0_9 Bc1_9 Bc2_9 Bc3_9 Bc4_9 Bc5_9 Bc6_9 Mc0_10 Mc1_10 Mc2_10 Mc3_10 Nc0_11 Nc1_11 Nc2_11 Nc3_11 Nc4_11 Nc5_11 Nc6_11 EM; replace B := hide ((unhide B).drew); replace N := hide ((unhide N).drew); replace M := hide ((unhide M).drew); replace OB := hide ((unhide OB).drew); replace ON := hide ((unhide ON).drew); replace RD := hide ((unhide RD).drew); replace RL := hide ((unhide RL).drew); replace BB := hide ((unhide BB).drew)
          have sz302 : Hid (wr1.heap.size ≤ wr1.drew.heap.size) := Nat.le_refl _
          refine takeVal 0 (some 108) ?_ rfl (by kernel_rfl) (by kernel_rfl) (by kernel_rfl) rfl (fun _ _ _ h => h) (by rfl) (by assumption) ?_ ?_; rotate_left; (intro w hSw; (try dsimp only at hSw); go_simp <;> with_reducible rfl); simp only [Act.put, List.setIfInBounds_toArray, List.set_cons_zero, List.set_cons_succ]
          refine takeVal 1 (some 109) ?_ rfl (by kernel_rfl) (by kernel_rfl) (by kernel_rfl) rfl (fun _ _ _ h => h) (by rfl) (by assumption) ?_ ?_; rotate_left; (intro w hSw; (try dsimp only at hSw); go_simp <;> with_reducible rfl); simp only [Act.put, List.setIfInBounds_toArray, List.set_cons_zero, List.set_cons_succ]
          refine takeVal 2 (some 110) ?_ rfl (by kernel_rfl) (by kernel_rfl) (by kernel_rfl) rfl (fun _ _ _ h => h) (by rfl) (by assumption) ?_ ?_; rotate_left; (intro w hSw; (try dsimp only at hSw); go_simp <;> with_reducible rfl); simp only [Act.put, List.setIfInBounds_toArray, List.set_cons_zero, List.set_cons_succ]
          refine wpAnyH_ready (rs := [3]) (by kernel_rfl) (by simp) ?_
          refine AllReadyH.cons rfl (fun K hK => ?_) AllReadyH.nil
          go_simp
          refine ((unhide CC).has D m9.uid vD _ _ dD (unhide RD) (unhide BB)).mono ?_
          rintro e wel2 ⟨rfl, hb⟩
          rw [hd]
          replace B := hide ((unhide B).ups hb); replace N := hide ((unhide N).ups hb); replace M := hide ((unhide M).ups hb); replace OB := hide ((unhide OB).up hb); replace ON := hide ((unhide ON).up hb); replace RD := hide ((unhide RD).up hb); replace RL := hide ((unhide RL).up hb); have sz303 := hide (hb.size); replace BB := hide (below_y (unhide BB) hb); clear hb; go_wp2_with fail
          refine hK.out _ _ (⟨(unhide N).cell 3 rfl, (unhide N).cell 4 rfl, (unhide M).cell 0 rfl, (unhide M).cell 1 rfl, (unhide M).cell 2 rfl, (unhide M).cell 3 rfl, (unhide NC _ (unhide ON)).1, (unhide NC _ (unhide ON)).2.1, (unhide NC _ (unhide ON)).2.2.1, (unhide NC _ (unhide ON)).2.2.2⟩) (fun hHeld2 => ?_)
          clear hK K hHeld; have hHeld := hHeld2; clear hHeld2
          try simp only [Act.put, List.setIfInBounds_toArray, List.set_cons_zero, List.set_cons_succ]
          refine takeVal 4 (some 112) ?_ rfl (by kernel_rfl) (by kernel_rfl) (by kernel_rfl) rfl (fun _ _ _ h => h) (by rfl) (by assumption) ?_ ?_; rotate_left; (intro w hSw; (try dsimp only at hSw); go_simp <;> with_reducible rfl); simp only [Act.put, List.setIfInBounds_toArray, List.set_cons_zero, List.set_cons_succ]
          refine takeVal 5 (some 113) ?_ rfl (by kernel_rfl) (by kernel_rfl) (by kernel_rfl) rfl (fun _ _ _ h => h) (by rfl) (by assumption) ?_ ?_; rotate_left; (intro w hSw; (try dsimp only at hSw); go_simp <;> with_reducible rfl); simp only [Act.put, List.setIfInBounds_toArray, List.set_cons_zero, List.set_cons_succ]
          refine takeVal 6 (some 114) ?_ rfl (by kernel_rfl) (by kernel_rfl) (by kernel_rfl) rfl (fun _ _ _ h => h) (by rfl) (by assumption) ?_ ?_; rotate_left; (intro w hSw; (try dsimp only at hSw); go_simp <;> with_reducible rfl); simp only [Act.put, List.setIfInBounds_toArray, List.set_cons_zero, List.set_cons_succ]
          refine takeVal 7 (some 115) ?_ rfl (by kernel_rfl) (by kernel_rfl) (by kernel_rfl) rfl (fun _ _ _ h => h) (by rfl) (by assumption) ?_ ?_; rotate_left; (intro w hSw; (try dsimp only at hSw); go_simp <;> with_reducible rfl); simp only [Act.put, List.setIfInBounds_toArray, List.set_cons_zero, List.set_cons_succ]
          refine takeVal 8 (some 116) ?_ rfl (by kernel_rfl) (by kernel_rfl) (by kernel_rfl) rfl (fun _ _ _ h => h) (by rfl) (by assumption) ?_ ?_; rotate_left; (intro w hSw; (try dsimp only at hSw); go_simp <;> with_reducible rfl); simp only [Act.put, List.setIfInBounds_toArray, List.set_cons_zero, List.set_cons_succ]
          refine takeVal 9 (some 117) ?_ rfl (by kernel_rfl) (by kernel_rfl) (by kernel_rfl) rfl (fun _ _ _ h => h) (by rfl) (by assumption) ?_ ?_; rotate_left; (intro w hSw; (try dsimp only at hSw); go_simp <;> with_reducible rfl); simp only [Act.put, List.setIfInBounds_toArray, List.set_cons_zero, List.set_cons_succ]
          refine takeVal 10 (some 118) ?_ rfl (by kernel_rfl) (by kernel_rfl) (by kernel_rfl) rfl (fun _ _ _ h => h) (by rfl) (by assumption) ?_ ?_; rotate_left; (intro w hSw; (try dsimp only at hSw); go_simp <;> with_reducible rfl); simp only [Act.put, List.setIfInBounds_toArray, List.set_cons_zero, List.set_cons_succ]
          refine takeVal 11 (some 119) ?_ rfl (by kernel_rfl) (by kernel_rfl) (by kernel_rfl) rfl (fun _ _ _ h => h) (by rfl) (by assumption) ?_ ?_; rotate_left; (intro w hSw; (try dsimp only at hSw); go_simp <;> with_reducible rfl); simp only [Act.put, List.setIfInBounds_toArray, List.set_cons_zero, List.set_cons_succ]
          refine takeVal 12 (some 120) ?_ rfl (by kernel_rfl) (by kernel_rfl) (by kernel_rfl) rfl (fun _ _ _ h => h) (by rfl) (by assumption) ?_ ?_; rotate_left; (intro w hSw; (try dsimp only at hSw); go_simp <;> with_reducible rfl); simp only [Act.put, List.setIfInBounds_toArray, List.set_cons_zero, List.set_cons_succ]
          refine takeVal 13 (some 121) ?_ rfl (by kernel_rfl) (by kernel_rfl) (by kernel_rfl) rfl (fun _ _ _ h => h) (by rfl) (by assumption) ?_ ?_; rotate_left; (intro w hSw; (try dsimp only at hSw); go_simp <;> with_reducible rfl); simp only [Act.put, List.setIfInBounds_toArray, List.set_cons_zero, List.set_cons_succ]
          refine takeVal 14 (some 122) ?_ rfl (by kernel_rfl) (by kernel_rfl) (by kernel_rfl) rfl (fun _ _ _ h => h) (by rfl) (by assumption) ?_ ?_; rotate_left; (intro w hSw; (try dsimp only at hSw); go_simp <;> with_reducible rfl); simp only [Act.put, List.setIfInBounds_toArray, List.set_cons_zero, List.set_cons_succ]
          refine takeVal 15 (some 123) ?_ rfl (by kernel_rfl) (by kernel_rfl) (by kernel_rfl) rfl (fun _ _ _ h => h) (by rfl) (by assumption) ?_ ?_; rotate_left; (intro w hSw; (try dsimp only at hSw); go_simp <;> with_reducible rfl); simp only [Act.put, List.setIfInBounds_toArray, List.set_cons_zero, List.set_cons_succ]
          refine takeVal 16 (some 124) ?_ rfl (by kernel_rfl) (by kernel_rfl) (by kernel_rfl) rfl (fun _ _ _ h => h) (by rfl) (by assumption) ?_ ?_; rotate_left; (intro w hSw; (try dsimp only at hSw); go_simp <;> with_reducible rfl); simp only [Act.put, List.setIfInBounds_toArray, List.set_cons_zero, List.set_cons_succ]
          refine takeVal 17 (some 125) ?_ rfl (by kernel_rfl) (by kernel_rfl) (by kernel_rfl) rfl (fun _ _ _ h => h) (by rfl) (by assumption) ?_ ?_; rotate_left; (intro w hSw; (try dsimp only at hSw); go_simp <;> with_reducible rfl); simp only [Act.put, List.setIfInBounds_toArray, List.set_cons_zero, List.set_cons_succ]
          refine wpAnyH_ready (rs := [18]) (by kernel_rfl) (by simp) ?_
          refine AllReadyH.cons rfl (fun K hK => ?_) AllReadyH.nil
          go_simp
          refine ((unhide CC).has D m9.uid vD _ _ dD (unhide RD) (unhide BB)).mono ?_
          rintro e wel3 ⟨rfl, hb⟩
          rw [hd]
          replace B := hide ((unhide B).ups hb); replace N := hide ((unhide N).ups hb); replace M := hide ((unhide M).ups hb); replace OB := hide ((unhide OB).up hb); replace ON := hide ((unhide ON).up hb); replace RD := hide ((unhide RD).up hb); replace RL := hide ((unhide RL).up hb); have sz304 := hide (hb.size); replace BB := hide (below_y (unhide BB) hb); clear hb; go_wp2_with fail
          refine hK.out _ _ (⟨(unhide N).cell 3 rfl, (unhide N).cell 4 rfl, (unhide M).cell 0 rfl, (unhide M).cell 1 rfl, (unhide M).cell 2 rfl, (unhide M).cell 3 rfl, (unhide NC _ (unhide ON)).1, (unhide NC _ (unhide ON)).2.1, (unhide NC _ (unhide ON)).2.2.1, (unhide NC _ (unhide ON)).2.2.2⟩) (fun hHeld2 => ?_)
          clear hK K hHeld; have hHeld := hHeld2; clear hHeld2
          try simp only [Act.put, List.setIfInBounds_toArray, List.set_cons_zero, List.set_cons_succ]
          refine takeVal 19 (some 127) ?_ rfl (by kernel_rfl) (by kernel_rfl) (by kernel_rfl) rfl (fun _ _ _ h => h) (by rfl) (by assumption) ?_ ?_; rotate_left; (intro w hSw; (try dsimp only at hSw); go_simp <;> with_reducible rfl); simp only [Act.put, List.setIfInBounds_toArray, List.set_cons_zero, List.set_cons_succ]
          refine takeSkip 20 (some 128) rfl (by kernel_rfl) (by kernel_rfl) (by kernel_rfl) rfl (fun _ _ _ h => h) (by rfl) (by assumption) ?_
          simp only [Act.put, List.setIfInBounds_toArray, List.set_cons_zero, List.set_cons_succ]
          refine takeSkip 21 (some 129) rfl (by kernel_rfl) (by kernel_rfl) (by kernel_rfl) rfl (fun _ _ _ h => h) (by rfl) (by assumption) ?_
          simp only [Act.put, List.setIfInBounds_toArray, List.set_cons_zero, List.set_cons_succ]
          refine takeSkip 22 (some 130) rfl (by kernel_rfl) (by kernel_rfl) (by kernel_rfl) rfl (fun _ _ _ h => h) (by rfl) (by assumption) ?_
          simp only [Act.put, List.setIfInBounds_toArray, List.set_cons_zero, List.set_cons_succ]
          refine takeSkip 23 (some 131) rfl (by kernel_rfl) (by kernel_rfl) (by kernel_rfl) rfl (fun _ _ _ h => h) (by rfl) (by assumption) ?_
          simp only [Act.put, List.setIfInBounds_toArray, List.set_cons_zero, List.set_cons_succ]
          refine takeSkip 24 (some 132) rfl (by kernel_rfl) (by kernel_rfl) (by kernel_rfl) rfl (fun _ _ _ h => h) (by rfl) (by assumption) ?_
          simp only [Act.put, List.setIfInBounds_toArray, List.set_cons_zero, List.set_cons_succ]
          refine takeSkip 25 (some 133) rfl (by kernel_rfl) (by kernel_rfl) (by kernel_rfl) rfl (fun _ _ _ h => h) (by rfl) (by assumption) ?_
          simp only [Act.put, List.setIfInBounds_toArray, List.set_cons_zero, List.set_cons_succ]
          refine takeSkip 26 (some 134) rfl (by kernel_rfl) (by kernel_rfl) (by kernel_rfl) rfl (fun _ _ _ h => h) (by rfl) (by assumption) ?_
          simp only [Act.put, List.setIfInBounds_toArray, List.set_cons_zero, List.set_cons_succ]
          refine takeSkip 27 (some 135) rfl (by kernel_rfl) (by kernel_rfl) (by kernel_rfl) rfl (fun _ _ _ h => h) (by rfl) (by assumption) ?_
          simp only [Act.put, List.setIfInBounds_toArray, List.set_cons_zero, List.set_cons_succ]
          refine takeSkip 28 (some 136) rfl (by kernel_rfl) (by kernel_rfl) (by kernel_rfl) rfl (fun _ _ _ h => h) (by rfl) (by assumption) ?_
          simp only [Act.put, List.setIfInBounds_toArray, List.set_cons_zero, List.set_cons_succ]
          refine takeSkip 29 (some 137) rfl (by kernel_rfl) (by kernel_rfl) (by kernel_rfl) rfl (fun _ _ _ h => h) (by rfl) (by assumption) ?_
          simp only [Act.put, List.setIfInBounds_toArray, List.set_cons_zero, List.set_cons_succ]
          refine takeSkip 30 (some 138) rfl (by kernel_rfl) (by kernel_rfl) (by kernel_rfl) rfl (fun _ _ _ h => h) (by rfl) (by assumption) ?_
          simp only [Act.put, List.setIfInBounds_toArray, List.set_cons_zero, List.set_cons_succ]
          refine takeSkip 31 (some 139) rfl (by kernel_rfl) (by kernel_rfl) (by kernel_rfl) rfl (fun _ _ _ h => h) (by rfl) (by assumption) ?_
          simp only [Act.put, List.setIfInBounds_toArray, List.set_cons_zero, List.set_cons_succ]
          refine takeSkip 32 (some 140) rfl (by kernel_rfl) (by kernel_rfl) (by kernel_rfl) rfl (fun _ _ _ h => h) (by rfl) (by assumption) ?_
          simp only [Act.put, List.setIfInBounds_toArray, List.set_cons_zero, List.set_cons_succ]
          refine takeSkip 33 (some 141) rfl (by kernel_rfl) (by kernel_rfl) (by kernel_rfl) rfl (fun _ _ _ h => h) (by rfl) (by assumption) ?_
          simp only [Act.put, List.setIfInBounds_toArray, List.set_cons_zero, List.set_cons_succ]
          refine takeSkip 34 (some 142) rfl (by kernel_rfl) (by kernel_rfl) (by kernel_rfl) rfl (fun _ _ _ h => h) (by rfl) (by assumption) ?_
          simp only [Act.put, List.setIfInBounds_toArray, List.set_cons_zero, List.set_cons_succ]
          refine takeSkip 35 (some 143) rfl (by kernel_rfl) (by kernel_rfl) (by kernel_rfl) rfl (fun _ _ _ h => h) (by rfl) (by assumption) ?_
          simp only [Act.put, List.setIfInBounds_toArray, List.set_cons_zero, List.set_cons_succ]
          refine takeSkip 36 (some 144) rfl (by kernel_rfl) (by kernel_rfl) (by kernel_rfl) rfl (fun _ _ _ h => h) (by rfl) (by assumption) ?_
          simp only [Act.put, List.setIfInBounds_toArray, List.set_cons_zero, List.set_cons_succ]
          refine takeSkip 37 (some 145) rfl (by kernel_rfl) (by kernel_rfl) (by kernel_rfl) rfl (fun _ _ _ h => h) (by rfl) (by assumption) ?_
          simp only [Act.put, List.setIfInBounds_toArray, List.set_cons_zero, List.set_cons_succ]
          refine takeSkip 38 (some 146) rfl (by kernel_rfl) (by kernel_rfl) (by kernel_rfl) rfl (fun _ _ _ h => h) (by rfl) (by assumption) ?_
          simp only [Act.put, List.setIfInBounds_toArray, List.set_cons_zero, List.set_cons_succ]
          refine takeSkip 39 (some 147) rfl (by kernel_rfl) (by kernel_rfl) (by kernel_rfl) rfl (fun _ _ _ h => h) (by rfl) (by assumption) ?_
          simp only [Act.put, List.setIfInBounds_toArray, List.set_cons_zero, List.set_cons_succ]
          refine takeSkip 40 (some 148) rfl (by kernel_rfl) (by kernel_rfl) (by kernel_rfl) rfl (fun _ _ _ h => h) (by rfl) (by assumption) ?_
          simp only [Act.put, List.setIfInBounds_toArray, List.set_cons_zero, List.set_cons_succ]
          refine takeSkip 41 (some 149) rfl (by kernel_rfl) (by kernel_rfl) (by kernel_rfl) rfl (fun _ _ _ h => h) (by rfl) (by assumption) ?_
          simp only [Act.put, List.setIfInBounds_toArray, List.set_cons_zero, List.set_cons_succ]
          refine takeSkip 42 (some 150) rfl (by kernel_rfl) (by kernel_rfl) (by kernel_rfl) rfl (fun _ _ _ h => h) (by rfl) (by assumption) ?_
          simp only [Act.put, List.setIfInBounds_toArray, List.set_cons_zero, List.set_cons_succ]
          refine takeVal 43 (some 151) ?_ rfl (by kernel_rfl) (by kernel_rfl) (by kernel_rfl) rfl (fun _ _ _ h => h) (by rfl) (by assumption) ?_ ?_; rotate_left; (intro w hSw; (try dsimp only at hSw); go_simp <;> with_reducible rfl); simp only [Act.put, List.setIfInBounds_toArray, List.set_cons_zero, List.set_cons_succ]
          refine takeVal 44 (some 152) ?_ rfl (by kernel_rfl) (by kernel_rfl) (by kernel_rfl) rfl (fun _ _ _ h => h) (by rfl) (by assumption) ?_ ?_; rotate_left; (intro w hSw; (try dsimp only at hSw); go_simp <;> with_reducible rfl); simp only [Act.put, List.setIfInBounds_toArray, List.set_cons_zero, List.set_cons_succ]
          refine takeVal 45 (some 153) ?_ rfl (by kernel_rfl) (by kernel_rfl) (by kernel_rfl) rfl (fun _ _ _ h => h) (by rfl) (by assumption) ?_ ?_; rotate_left; (intro w hSw; (try dsimp only at hSw); go_simp <;> with_reducible rfl); simp only [Act.put, List.setIfInBounds_toArray, List.set_cons_zero, List.set_cons_succ]
          refine takeVal 46 (some 154) ?_ rfl (by kernel_rfl) (by kernel_rfl) (by kernel_rfl) rfl (fun _ _ _ h => h) (by rfl) (by assumption) ?_ ?_; rotate_left; (intro w hSw; (try dsimp only at hSw); go_simp <;> with_reducible rfl); simp only [Act.put, List.setIfInBounds_toArray, List.set_cons_zero, List.set_cons_succ]
          refine takeVal 47 (some 155) ?_ rfl (by kernel_rfl) (by kernel_rfl) (by kernel_rfl) rfl (fun _ _ _ h => h) (by rfl) (by assumption) ?_ ?_; rotate_left; (intro w hSw; (try dsimp only at hSw); go_simp <;> with_reducible rfl); simp only [Act.put, List.setIfInBounds_toArray, List.set_cons_zero, List.set_cons_succ]
          refine takeVal 48 (some 156) ?_ rfl (by kernel_rfl) (by kernel_rfl) (by kernel_rfl) rfl (fun _ _ _ h => h) (by rfl) (by assumption) ?_ ?_; rotate_left; (intro w hSw; (try dsimp only at hSw); go_simp <;> with_reducible rfl); simp only [Act.put, List.setIfInBounds_toArray, List.set_cons_zero, List.set_cons_succ]
          refine wpAnyH_ready (rs := [49]) (by kernel_rfl) (by simp) ?_
          refine AllReadyH.cons rfl (fun K hK => ?_) AllReadyH.nil
          go_simp
          refine ((unhide CC).has L m9.uid vL _ _ dL (unhide RL) (unhide BB)).mono ?_
          rintro e wel4 ⟨rfl, hb⟩
          rw [hl9]
          replace B := hide ((unhide B).ups hb); replace N := hide ((unhide N).ups hb); replace M := hide ((unhide M).ups hb); replace OB := hide ((unhide OB).up hb); replace ON := hide ((unhide ON).up hb); replace RD := hide ((unhide RD).up hb); replace RL := hide ((unhide RL).up hb); have sz305 := hide (hb.size); replace BB := hide (below_y (unhide BB) hb); clear hb; go_wp2_with fail
          refine hK.out _ _ (⟨(unhide N).cell 3 rfl, (unhide N).cell 4 rfl, (unhide M).cell 0 rfl, (unhide M).cell 1 rfl, (unhide M).cell 2 rfl, (unhide M).cell 3 rfl, (unhide NC _ (unhide ON)).1, (unhide NC _ (unhide ON)).2.1, (unhide NC _ (unhide ON)).2.2.1, (unhide NC _ (unhide ON)).2.2.2⟩) (fun hHeld2 => ?_)
          clear hK K hHeld; have hHeld := hHeld2; clear hHeld2
          try simp only [Act.put, List.setIfInBounds_toArray, List.set_cons_zero, List.set_cons_succ]
          refine takeVal 50 (some 158) ?_ rfl (by kernel_rfl) (by kernel_rfl) (by kernel_rfl) rfl (fun _ _ _ h => h) (by rfl) (by assumption) ?_ ?_; rotate_left; (intro w hSw; (try dsimp only at hSw); go_simp <;> with_reducible rfl); simp only [Act.put, List.setIfInBounds_toArray, List.set_cons_zero, List.set_cons_succ]
          refine takeVal 51 (some 159) ?_ rfl (by kernel_rfl) (by kernel_rfl) (by kernel_rfl) rfl (fun _ _ _ h => h) (by rfl) (by assumption) ?_ ?_; rotate_left; (intro w hSw; (try dsimp only at hSw); go_simp <;> with_reducible rfl); simp only [Act.put, List.setIfInBounds_toArray, List.set_cons_zero, List.set_cons_succ]
          refine takeVal 52 (some 160) ?_ rfl (by kernel_rfl) (by kernel_rfl) (by kernel_rfl) rfl (fun _ _ _ h => h) (by rfl) (by assumption) ?_ ?_; rotate_left; (intro w hSw; (try dsimp only at hSw); go_simp <;> with_reducible rfl); simp only [Act.put, List.setIfInBounds_toArray, List.set_cons_zero, List.set_cons_succ]
          refine takeVal 53 (some 161) ?_ rfl (by kernel_rfl) (by kernel_rfl) (by kernel_rfl) rfl (fun _ _ _ h => h) (by rfl) (by assumption) ?_ ?_; rotate_left; (intro w hSw; (try dsimp only at hSw); go_simp <;> with_reducible rfl); simp only [Act.put, List.setIfInBounds_toArray, List.set_cons_zero, List.set_cons_succ]
          refine takeVal 54 (some 162) ?_ rfl (by kernel_rfl) (by kernel_rfl) (by kernel_rfl) rfl (fun _ _ _ h => h) (by rfl) (by assumption) ?_ ?_; rotate_left; (intro w hSw; (try dsimp only at hSw); go_simp <;> with_reducible rfl); simp only [Act.put, List.setIfInBounds_toArray, List.set_cons_zero, List.set_cons_succ]
          refine takeVal 55 (some 163) ?_ rfl (by kernel_rfl) (by kernel_rfl) (by kernel_rfl) rfl (fun _ _ _ h => h) (by rfl) (by assumption) ?_ ?_; rotate_left; (intro w hSw; (try dsimp only at hSw); go_simp <;> with_reducible rfl); simp only [Act.put, List.setIfInBounds_toArray, List.set_cons_zero, List.set_cons_succ]
          refine takeVal 56 (some 164) ?_ rfl (by kernel_rfl) (by kernel_rfl) (by kernel_rfl) rfl (fun _ _ _ h => h) (by rfl) (by assumption) ?_ ?_; rotate_left; (intro w hSw; (try dsimp only at hSw); go_simp <;> with_reducible rfl); simp only [Act.put, List.setIfInBounds_toArray, List.set_cons_zero, List.set_cons_succ]
          refine wpAnyH_done (by kernel_rfl) ?_ _
          go_wp2
          go_roundw
          case rel => rw [unhide HREL]; exact ⟨k + 1, by omega, by go_num, unhide B, unhide N, unhide OB, unhide ON, unhide RD, unhide RL, unhide BB⟩
          case measure => simp [intOf]; omega
      | true =>
        obtain ⟨q1, q2⟩ := unhide EB hd
        clear EA EB; have Mc0_10 := (unhide M).cell 0 rfl; have Mc1_10 := (unhide M).cell 1 rfl; have Mc2_10 := (unhide M).cell 2 rfl; have Mc3_10 := (unhide M).cell 3 rfl; have Nc0_11 := (unhide N).cell 0 rfl; have Nc1_11 := (unhide N).cell 1 rfl; have Nc2_11 := (unhide N).cell 2 rfl; have Nc3_11 := (unhide N).cell 3 rfl; have Nc4_11 := (unhide N).cell 4 rfl; have Nc5_11 := (unhide N).cell 5 rfl; have Nc6_11 := (unhide N).cell 6 rfl
        cases hl9 : hasB L f.uid with
        | false =>
          go_wp2
          clear c0 c1 c2 c3
          refine wp_region_held_drew (S := fun w' => w'.cell? ⟨w5.heap.size, 3, none⟩ = some (.int .i64 n.mod) ∧ w'.cell? ⟨w5.heap.size, 4, none⟩ = some (.slice (some ⟨gn, 0, none⟩) b.mails.length cmN) ∧ w'.cell? ⟨wo.heap.size, 0, none⟩ = some (.int .i64 f.uid) ∧ w'.cell? ⟨wo.heap.size, 1, none⟩ = some (.int .i64 f.flags) ∧ w'.cell? ⟨wo.heap.size, 2, none⟩ = some (.int .i64 f.mod) ∧ w'.cell? ⟨wo.heap.size, 3, none⟩ = some (.string f.text) ∧ w'.cell? ⟨gn, k * 4, none⟩ = some (.int .i64 m9.uid) ∧ w'.cell? ⟨gn, k * 4 + 1, none⟩ = some (.int .i64 (afterV f.flags how bits)) ∧ w'.cell? ⟨gn, k * 4 + 2, none⟩ = some (.int .i64 n.mod) ∧ w'.cell? ⟨gn, k * 4 + 3, none⟩ = some (.string m9.text)) (by kernel_rfl) (⟨(unhide N).cell 3 rfl, (unhide N).cell 4 rfl, (unhide M).cell 0 rfl, (unhide M).cell 1 rfl, (unhide M).cell 2 rfl, (unhide M).cell 3 rfl, (unhide NC _ (unhide ON)).1, (by have z9 := (unhide NC _ (unhide ON)).2.1; rw [q1] at z9; exact z9), (by have z9 := (unhide NC _ (unhide ON)).2.2.1; rw [q2] at z9; exact z9), (unhide NC _ (unhide ON)).2.2.2⟩) (fun hHeld => ?_)
          clear Bc0_9 Bc1_9 Bc2_9 Bc3_9 Bc4_9 Bc5_9 Bc6_9 Mc0_10 Mc1_10 Mc2_10 Mc3_10 Nc0_11 Nc1_11 Nc2_11 Nc3_11 Nc4_11 Nc5_11 Nc6_11 EM; replace B := hide ((unhide B).drew); replace N := hide ((unhide N).drew); replace M := hide ((unhide M).drew); replace OB := hide ((unhide OB).drew); replace ON := hide ((unhide ON).drew); replace RD := hide ((unhide RD).drew); replace RL := hide ((unhide RL).drew); replace BB := hide ((unhide BB).drew)
          have sz302 : Hid (wr1.heap.size ≤ wr1.drew.heap.size) := Nat.le_refl _
          refine takeVal 0 (some 108) ?_ rfl (by kernel_rfl) (by kernel_rfl) (by kernel_rfl) rfl (fun _ _ _ h => h) (by rfl) (by assumption) ?_ ?_; rotate_left; (intro w hSw; (try dsimp only at hSw); go_simp <;> with_reducible rfl); simp only [Act.put, List.setIfInBounds_toArray, List.set_cons_zero, List.set_cons_succ]
          refine takeVal 1 (some 109) ?_ rfl (by kernel_rfl) (by kernel_rfl) (by kernel_rfl) rfl (fun _ _ _ h => h) (by rfl) (by assumption) ?_ ?_; rotate_left; (intro w hSw; (try dsimp only at hSw); go_simp <;> with_reducible rfl); simp only [Act.put, List.setIfInBounds_toArray, List.set_cons_zero, List.set_cons_succ]
          refine takeVal 2 (some 110) ?_ rfl (by kernel_rfl) (by kernel_rfl) (by kernel_rfl) rfl (fun _ _ _ h => h) (by rfl) (by assumption) ?_ ?_; rotate_left; (intro w hSw; (try dsimp only at hSw); go_simp <;> with_reducible rfl); simp only [Act.put, List.setIfInBounds_toArray, List.set_cons_zero, List.set_cons_succ]
          refine wpAnyH_ready (rs := [3]) (by kernel_rfl) (by simp) ?_
          refine AllReadyH.cons rfl (fun K hK => ?_) AllReadyH.nil
          go_simp
          refine ((unhide CC).has D f.uid vD _ _ dD (unhide RD) (unhide BB)).mono ?_
          rintro e wdk2 ⟨rfl, hb⟩
          rw [hd]
          replace B := hide ((unhide B).ups hb); replace N := hide ((unhide N).ups hb); replace M := hide ((unhide M).ups hb); replace OB := hide ((unhide OB).up hb); replace ON := hide ((unhide ON).up hb); replace RD := hide ((unhide RD).up hb); replace RL := hide ((unhide RL).up hb); have sz303 := hide (hb.size); replace BB := hide (below_y (unhide BB) hb); clear hb; go_wp2_with fail
          refine hK.out _ _ (⟨(unhide N).cell 3 rfl, (unhide N).cell 4 rfl, (unhide M).cell 0 rfl, (unhide M).cell 1 rfl, (unhide M).cell 2 rfl, (unhide M).cell 3 rfl, (unhide NC _ (unhide ON)).1, (by have z9 := (unhide NC _ (unhide ON)).2.1; rw [q1] at z9; exact z9), (by have z9 := (unhide NC _ (unhide ON)).2.2.1; rw [q2] at z9; exact z9), (unhide NC _ (unhide ON)).2.2.2⟩) (fun hHeld2 => ?_)
          clear hK K hHeld; have hHeld := hHeld2; clear hHeld2
          try simp only [Act.put, List.setIfInBounds_toArray, List.set_cons_zero, List.set_cons_succ]
          refine takeVal 4 (some 112) ?_ rfl (by kernel_rfl) (by kernel_rfl) (by kernel_rfl) rfl (fun _ _ _ h => h) (by rfl) (by assumption) ?_ ?_; rotate_left; (intro w hSw; (try dsimp only at hSw); go_simp <;> with_reducible rfl); simp only [Act.put, List.setIfInBounds_toArray, List.set_cons_zero, List.set_cons_succ]
          refine takeVal 5 (some 113) ?_ rfl (by kernel_rfl) (by kernel_rfl) (by kernel_rfl) rfl (fun _ _ _ h => h) (by rfl) (by assumption) ?_ ?_; rotate_left; (intro w hSw; (try dsimp only at hSw); go_simp <;> with_reducible rfl); simp only [Act.put, List.setIfInBounds_toArray, List.set_cons_zero, List.set_cons_succ]
          refine takeSkip 6 (some 114) rfl (by kernel_rfl) (by kernel_rfl) (by kernel_rfl) rfl (fun _ _ _ h => h) (by rfl) (by assumption) ?_
          simp only [Act.put, List.setIfInBounds_toArray, List.set_cons_zero, List.set_cons_succ]
          refine takeSkip 7 (some 115) rfl (by kernel_rfl) (by kernel_rfl) (by kernel_rfl) rfl (fun _ _ _ h => h) (by rfl) (by assumption) ?_
          simp only [Act.put, List.setIfInBounds_toArray, List.set_cons_zero, List.set_cons_succ]
          refine takeSkip 8 (some 116) rfl (by kernel_rfl) (by kernel_rfl) (by kernel_rfl) rfl (fun _ _ _ h => h) (by rfl) (by assumption) ?_
          simp only [Act.put, List.setIfInBounds_toArray, List.set_cons_zero, List.set_cons_succ]
          refine takeSkip 9 (some 117) rfl (by kernel_rfl) (by kernel_rfl) (by kernel_rfl) rfl (fun _ _ _ h => h) (by rfl) (by assumption) ?_
          simp only [Act.put, List.setIfInBounds_toArray, List.set_cons_zero, List.set_cons_succ]
          refine takeSkip 10 (some 118) rfl (by kernel_rfl) (by kernel_rfl) (by kernel_rfl) rfl (fun _ _ _ h => h) (by rfl) (by assumption) ?_
          simp only [Act.put, List.setIfInBounds_toArray, List.set_cons_zero, List.set_cons_succ]
          refine takeSkip 11 (some 119) rfl (by kernel_rfl) (by kernel_rfl) (by kernel_rfl) rfl (fun _ _ _ h => h) (by rfl) (by assumption) ?_
          simp only [Act.put, List.setIfInBounds_toArray, List.set_cons_zero, List.set_cons_succ]
          refine takeSkip 12 (some 120) rfl (by kernel_rfl) (by kernel_rfl) (by kernel_rfl) rfl (fun _ _ _ h => h) (by rfl) (by assumption) ?_
          simp only [Act.put, List.setIfInBounds_toArray, List.set_cons_zero, List.set_cons_succ]
          refine takeVal 13 (some 121) ?_ rfl (by kernel_rfl) (by kernel_rfl) (by kernel_rfl) rfl (fun _ _ _ h => h) (by rfl) (by assumption) ?_ ?_; rotate_left; (intro w hSw; (try dsimp only at hSw); go_simp <;> with_reducible rfl); simp only [Act.put, List.setIfInBounds_toArray, List.set_cons_zero, List.set_cons_succ]
          refine takeVal 14 (some 122) ?_ rfl (by kernel_rfl) (by kernel_rfl) (by kernel_rfl) rfl (fun _ _ _ h => h) (by rfl) (by assumption) ?_ ?_; rotate_left; (intro w hSw; (try dsimp only at hSw); go_simp <;> with_reducible rfl); simp only [Act.put, List.setIfInBounds_toArray, List.set_cons_zero, List.set_cons_succ]
          refine takeVal 15 (some 123) ?_ rfl (by kernel_rfl) (by kernel_rfl) (by kernel_rfl) rfl (fun _ _ _ h => h) (by rfl) (by assumption) ?_ ?_; rotate_left; (intro w hSw; (try dsimp only at hSw); go_simp <;> with_reducible rfl); simp only [Act.put, List.setIfInBounds_toArray, List.set_cons_zero, List.set_cons_succ]
          refine takeVal 16 (some 124) ?_ rfl (by kernel_rfl) (by kernel_rfl) (by kernel_rfl) rfl (fun _ _ _ h => h) (by rfl) (by assumption) ?_ ?_; rotate_left; (intro w hSw; (try dsimp only at hSw); go_simp <;> with_reducible rfl); simp only [Act.put, List.setIfInBounds_toArray, List.set_cons_zero, List.set_cons_succ]
          refine takeVal 17 (some 125) ?_ rfl (by kernel_rfl) (by kernel_rfl) (by kernel_rfl) rfl (fun _ _ _ h => h) (by rfl) (by assumption) ?_ ?_; rotate_left; (intro w hSw; (try dsimp only at hSw); go_simp <;> with_reducible rfl); simp only [Act.put, List.setIfInBounds_toArray, List.set_cons_zero, List.set_cons_succ]
          refine wpAnyH_ready (rs := [18]) (by kernel_rfl) (by simp) ?_
          refine AllReadyH.cons rfl (fun K hK => ?_) AllReadyH.nil
          go_simp
          refine ((unhide CC).has D f.uid vD _ _ dD (unhide RD) (unhide BB)).mono ?_
          rintro e wdk3 ⟨rfl, hb⟩
          rw [hd]
          replace B := hide ((unhide B).ups hb); replace N := hide ((unhide N).ups hb); replace M := hide ((unhide M).ups hb); replace OB := hide ((unhide OB).up hb); replace ON := hide ((unhide ON).up hb); replace RD := hide ((unhide RD).up hb); replace RL := hide ((unhide RL).up hb); have sz304 := hide (hb.size); replace BB := hide (below_y (unhide BB) hb); clear hb; go_wp2_with fail
          refine hK.out _ _ (⟨(unhide N).cell 3 rfl, (unhide N).cell 4 rfl, (unhide M).cell 0 rfl, (unhide M).cell 1 rfl, (unhide M).cell 2 rfl, (unhide M).cell 3 rfl, (unhide NC _ (unhide ON)).1, (by have z9 := (unhide NC _ (unhide ON)).2.1; rw [q1] at z9; exact z9), (by have z9 := (unhide NC _ (unhide ON)).2.2.1; rw [q2] at z9; exact z9), (unhide NC _ (unhide ON)).2.2.2⟩) (fun hHeld2 => ?_)
          clear hK K hHeld; have hHeld := hHeld2; clear hHeld2
          try simp only [Act.put, List.setIfInBounds_toArray, List.set_cons_zero, List.set_cons_succ]
          refine takeVal 19 (some 127) ?_ rfl (by kernel_rfl) (by kernel_rfl) (by kernel_rfl) rfl (fun _ _ _ h => h) (by rfl) (by assumption) ?_ ?_; rotate_left; (intro w hSw; (try dsimp only at hSw); go_simp <;> with_reducible rfl); simp only [Act.put, List.setIfInBounds_toArray, List.set_cons_zero, List.set_cons_succ]
          refine takeVal 20 (some 128) ?_ rfl (by kernel_rfl) (by kernel_rfl) (by kernel_rfl) rfl (fun _ _ _ h => h) (by rfl) (by assumption) ?_ ?_; rotate_left; (intro w hSw; (try dsimp only at hSw); go_simp <;> with_reducible rfl); simp only [Act.put, List.setIfInBounds_toArray, List.set_cons_zero, List.set_cons_succ]
          refine takeVal 21 (some 129) ?_ rfl (by kernel_rfl) (by kernel_rfl) (by kernel_rfl) rfl (fun _ _ _ h => h) (by rfl) (by assumption) ?_ ?_; rotate_left; (intro w hSw; (try dsimp only at hSw); go_simp <;> with_reducible rfl); simp only [Act.put, List.setIfInBounds_toArray, List.set_cons_zero, List.set_cons_succ]
          refine takeVal 22 (some 130) ?_ rfl (by kernel_rfl) (by kernel_rfl) (by kernel_rfl) rfl (fun _ _ _ h => h) (by rfl) (by assumption) ?_ ?_; rotate_left; (intro w hSw; (try dsimp only at hSw); go_simp <;> with_reducible rfl); simp only [Act.put, List.setIfInBounds_toArray, List.set_cons_zero, List.set_cons_succ]
          refine takeVal 23 (some 131) ?_ rfl (by kernel_rfl) (by kernel_rfl) (by kernel_rfl) rfl (fun _ _ _ h => h) (by rfl) (by assumption) ?_ ?_; rotate_left; (intro w hSw; (try dsimp only at hSw); go_simp <;> with_reducible rfl); simp only [Act.put, List.setIfInBounds_toArray, List.set_cons_zero, List.set_cons_succ]
          refine takeVal 24 (some 132) ?_ rfl (by kernel_rfl) (by kernel_rfl) (by kernel_rfl) rfl (fun _ _ _ h => h) (by rfl) (by assumption) ?_ ?_; rotate_left; (intro w hSw; (try dsimp only at hSw); go_simp <;> with_reducible rfl); simp only [Act.put, List.setIfInBounds_toArray, List.set_cons_zero, List.set_cons_succ]
          refine takeVal 25 (some 133) ?_ rfl (by kernel_rfl) (by kernel_rfl) (by kernel_rfl) rfl (fun _ _ _ h => h) (by rfl) (by assumption) ?_ ?_; rotate_left; (intro w hSw; (try dsimp only at hSw); go_simp <;> with_reducible rfl); simp only [Act.put, List.setIfInBounds_toArray, List.set_cons_zero, List.set_cons_succ]
          refine takeVal 26 (some 134) ?_ rfl (by kernel_rfl) (by kernel_rfl) (by kernel_rfl) rfl (fun _ _ _ h => h) (by rfl) (by assumption) ?_ ?_; rotate_left; (intro w hSw; (try dsimp only at hSw); go_simp <;> with_reducible rfl); simp only [Act.put, List.setIfInBounds_toArray, List.set_cons_zero, List.set_cons_succ]
          refine takeVal 27 (some 135) ?_ rfl (by kernel_rfl) (by kernel_rfl) (by kernel_rfl) rfl (fun _ _ _ h => h) (by rfl) (by assumption) ?_ ?_; rotate_left; (intro w hSw; (try dsimp only at hSw); go_simp <;> with_reducible rfl); simp only [Act.put, List.setIfInBounds_toArray, List.set_cons_zero, List.set_cons_succ]
          refine takeVal 28 (some 136) ?_ rfl (by kernel_rfl) (by kernel_rfl) (by kernel_rfl) rfl (fun _ _ _ h => h) (by rfl) (by assumption) ?_ ?_; rotate_left; (intro w hSw; (try dsimp only at hSw); go_simp <;> with_reducible rfl); simp only [Act.put, List.setIfInBounds_toArray, List.set_cons_zero, List.set_cons_succ]
          refine takeVal 29 (some 137) ?_ rfl (by kernel_rfl) (by kernel_rfl) (by kernel_rfl) rfl (fun _ _ _ h => h) (by rfl) (by assumption) ?_ ?_; rotate_left; (intro w hSw; (try dsimp only at hSw); go_simp <;> with_reducible rfl); simp only [Act.put, List.setIfInBounds_toArray, List.set_cons_zero, List.set_cons_succ]
          refine wpAnyH_ready (rs := [30]) (by kernel_rfl) (by simp) ?_
          refine AllReadyH.cons rfl (fun K hK => ?_) AllReadyH.nil
          go_simp
          refine (after_held f.flags how bits _).mono ?_
          rintro e wdk4 ⟨rfl, hb⟩
          replace B := hide ((unhide B).ups hb); replace N := hide ((unhide N).ups hb); replace M := hide ((unhide M).ups hb); replace OB := hide ((unhide OB).up hb); replace ON := hide ((unhide ON).up hb); replace RD := hide ((unhide RD).up hb); replace RL := hide ((unhide RL).up hb); have sz305 := hide (hb.size); replace BB := hide (below_y (unhide BB) hb); clear hb; go_wp2_with fail
          refine hK.out _ _ (⟨(unhide N).cell 3 rfl, (unhide N).cell 4 rfl, (unhide M).cell 0 rfl, (unhide M).cell 1 rfl, (unhide M).cell 2 rfl, (unhide M).cell 3 rfl, (unhide NC _ (unhide ON)).1, (by have z9 := (unhide NC _ (unhide ON)).2.1; rw [q1] at z9; exact z9), (by have z9 := (unhide NC _ (unhide ON)).2.2.1; rw [q2] at z9; exact z9), (unhide NC _ (unhide ON)).2.2.2⟩) (fun hHeld2 => ?_)
          clear hK K hHeld; have hHeld := hHeld2; clear hHeld2
          try simp only [Act.put, List.setIfInBounds_toArray, List.set_cons_zero, List.set_cons_succ]
          refine takeVal 31 (some 139) ?_ rfl (by kernel_rfl) (by kernel_rfl) (by kernel_rfl) rfl (fun _ _ _ h => h) (by rfl) (by assumption) ?_ ?_; rotate_left; (intro w hSw; (try dsimp only at hSw); go_simp <;> with_reducible rfl); simp only [Act.put, List.setIfInBounds_toArray, List.set_cons_zero, List.set_cons_succ]
          refine takeVal 32 (some 140) ?_ rfl (by kernel_rfl) (by kernel_rfl) (by kernel_rfl) rfl (fun _ _ _ h => h) (by rfl) (by assumption) ?_ ?_; rotate_left; (intro w hSw; (try dsimp only at hSw); go_simp <;> with_reducible rfl); simp only [Act.put, List.setIfInBounds_toArray, List.set_cons_zero, List.set_cons_succ]
          refine takeVal 33 (some 141) ?_ rfl (by kernel_rfl) (by kernel_rfl) (by kernel_rfl) rfl (fun _ _ _ h => h) (by rfl) (by assumption) ?_ ?_; rotate_left; (intro w hSw; (try dsimp only at hSw); go_simp <;> with_reducible rfl); simp only [Act.put, List.setIfInBounds_toArray, List.set_cons_zero, List.set_cons_succ]
          refine takeVal 34 (some 142) ?_ rfl (by kernel_rfl) (by kernel_rfl) (by kernel_rfl) rfl (fun _ _ _ h => h) (by rfl) (by assumption) ?_ ?_; rotate_left; (intro w hSw; (try dsimp only at hSw); go_simp <;> with_reducible rfl); simp only [Act.put, List.setIfInBounds_toArray, List.set_cons_zero, List.set_cons_succ]
          refine takeVal 35 (some 143) ?_ rfl (by kernel_rfl) (by kernel_rfl) (by kernel_rfl) rfl (fun _ _ _ h => h) (by rfl) (by assumption) ?_ ?_; rotate_left; (intro w hSw; (try dsimp only at hSw); go_simp <;> with_reducible rfl); simp only [Act.put, List.setIfInBounds_toArray, List.set_cons_zero, List.set_cons_succ]
          refine takeVal 36 (some 144) ?_ rfl (by kernel_rfl) (by kernel_rfl) (by kernel_rfl) rfl (fun _ _ _ h => h) (by rfl) (by assumption) ?_ ?_; rotate_left; (intro w hSw; (try dsimp only at hSw); go_simp <;> with_reducible rfl); simp only [Act.put, List.setIfInBounds_toArray, List.set_cons_zero, List.set_cons_succ]
          refine takeVal 37 (some 145) ?_ rfl (by kernel_rfl) (by kernel_rfl) (by kernel_rfl) rfl (fun _ _ _ h => h) (by rfl) (by assumption) ?_ ?_; rotate_left; (intro w hSw; (try dsimp only at hSw); go_simp <;> with_reducible rfl); simp only [Act.put, List.setIfInBounds_toArray, List.set_cons_zero, List.set_cons_succ]
          refine takeVal 38 (some 146) ?_ rfl (by kernel_rfl) (by kernel_rfl) (by kernel_rfl) rfl (fun _ _ _ h => h) (by rfl) (by assumption) ?_ ?_; rotate_left; (intro w hSw; (try dsimp only at hSw); go_simp <;> with_reducible rfl); simp only [Act.put, List.setIfInBounds_toArray, List.set_cons_zero, List.set_cons_succ]
          refine takeVal 39 (some 147) ?_ rfl (by kernel_rfl) (by kernel_rfl) (by kernel_rfl) rfl (fun _ _ _ h => h) (by rfl) (by assumption) ?_ ?_; rotate_left; (intro w hSw; (try dsimp only at hSw); go_simp <;> with_reducible rfl); simp only [Act.put, List.setIfInBounds_toArray, List.set_cons_zero, List.set_cons_succ]
          refine takeVal 40 (some 148) ?_ rfl (by kernel_rfl) (by kernel_rfl) (by kernel_rfl) rfl (fun _ _ _ h => h) (by rfl) (by assumption) ?_ ?_; rotate_left; (intro w hSw; (try dsimp only at hSw); go_simp <;> with_reducible rfl); simp only [Act.put, List.setIfInBounds_toArray, List.set_cons_zero, List.set_cons_succ]
          refine takeVal 41 (some 149) ?_ rfl (by kernel_rfl) (by kernel_rfl) (by kernel_rfl) rfl (fun _ _ _ h => h) (by rfl) (by assumption) ?_ ?_; rotate_left; (intro w hSw; (try dsimp only at hSw); go_simp <;> with_reducible rfl); simp only [Act.put, List.setIfInBounds_toArray, List.set_cons_zero, List.set_cons_succ]
          refine takeVal 42 (some 150) ?_ rfl (by kernel_rfl) (by kernel_rfl) (by kernel_rfl) rfl (fun _ _ _ h => h) (by rfl) (by assumption) ?_ ?_; rotate_left; (intro w hSw; (try dsimp only at hSw); go_simp <;> with_reducible rfl); simp only [Act.put, List.setIfInBounds_toArray, List.set_cons_zero, List.set_cons_succ]
          refine takeVal 43 (some 151) ?_ rfl (by kernel_rfl) (by kernel_rfl) (by kernel_rfl) rfl (fun _ _ _ h => h) (by rfl) (by assumption) ?_ ?_; rotate_left; (intro w hSw; (try dsimp only at hSw); go_simp <;> with_reducible rfl); simp only [Act.put, List.setIfInBounds_toArray, List.set_cons_zero, List.set_cons_succ]
          refine takeVal 44 (some 152) ?_ rfl (by kernel_rfl) (by kernel_rfl) (by kernel_rfl) rfl (fun _ _ _ h => h) (by rfl) (by assumption) ?_ ?_; rotate_left; (intro w hSw; (try dsimp only at hSw); go_simp <;> with_reducible rfl); simp only [Act.put, List.setIfInBounds_toArray, List.set_cons_zero, List.set_cons_succ]
          refine takeVal 45 (some 153) ?_ rfl (by kernel_rfl) (by kernel_rfl) (by kernel_rfl) rfl (fun _ _ _ h => h) (by rfl) (by assumption) ?_ ?_; rotate_left; (intro w hSw; (try dsimp only at hSw); go_simp <;> with_reducible rfl); simp only [Act.put, List.setIfInBounds_toArray, List.set_cons_zero, List.set_cons_succ]
          refine takeVal 46 (some 154) ?_ rfl (by kernel_rfl) (by kernel_rfl) (by kernel_rfl) rfl (fun _ _ _ h => h) (by rfl) (by assumption) ?_ ?_; rotate_left; (intro w hSw; (try dsimp only at hSw); go_simp <;> with_reducible rfl); simp only [Act.put, List.setIfInBounds_toArray, List.set_cons_zero, List.set_cons_succ]
          refine takeVal 47 (some 155) ?_ rfl (by kernel_rfl) (by kernel_rfl) (by kernel_rfl) rfl (fun _ _ _ h => h) (by rfl) (by assumption) ?_ ?_; rotate_left; (intro w hSw; (try dsimp only at hSw); go_simp <;> with_reducible rfl); simp only [Act.put, List.setIfInBounds_toArray, List.set_cons_zero, List.set_cons_succ]
          refine takeVal 48 (some 156) ?_ rfl (by kernel_rfl) (by kernel_rfl) (by kernel_rfl) rfl (fun _ _ _ h => h) (by rfl) (by assumption) ?_ ?_; rotate_left; (intro w hSw; (try dsimp only at hSw); go_simp <;> with_reducible rfl); simp only [Act.put, List.setIfInBounds_toArray, List.set_cons_zero, List.set_cons_succ]
          refine wpAnyH_ready (rs := [49]) (by kernel_rfl) (by simp) ?_
          refine AllReadyH.cons rfl (fun K hK => ?_) AllReadyH.nil
          go_simp
          refine ((unhide CC).has L f.uid vL _ _ dL (unhide RL) (unhide BB)).mono ?_
          rintro e wdk5 ⟨rfl, hb⟩
          rw [hl9]
          replace B := hide ((unhide B).ups hb); replace N := hide ((unhide N).ups hb); replace M := hide ((unhide M).ups hb); replace OB := hide ((unhide OB).up hb); replace ON := hide ((unhide ON).up hb); replace RD := hide ((unhide RD).up hb); replace RL := hide ((unhide RL).up hb); have sz306 := hide (hb.size); replace BB := hide (below_y (unhide BB) hb); clear hb; go_wp2_with fail
          refine hK.out _ _ (⟨(unhide N).cell 3 rfl, (unhide N).cell 4 rfl, (unhide M).cell 0 rfl, (unhide M).cell 1 rfl, (unhide M).cell 2 rfl, (unhide M).cell 3 rfl, (unhide NC _ (unhide ON)).1, (by have z9 := (unhide NC _ (unhide ON)).2.1; rw [q1] at z9; exact z9), (by have z9 := (unhide NC _ (unhide ON)).2.2.1; rw [q2] at z9; exact z9), (unhide NC _ (unhide ON)).2.2.2⟩) (fun hHeld2 => ?_)
          clear hK K hHeld; have hHeld := hHeld2; clear hHeld2
          try simp only [Act.put, List.setIfInBounds_toArray, List.set_cons_zero, List.set_cons_succ]
          refine takeVal 50 (some 158) ?_ rfl (by kernel_rfl) (by kernel_rfl) (by kernel_rfl) rfl (fun _ _ _ h => h) (by rfl) (by assumption) ?_ ?_; rotate_left; (intro w hSw; (try dsimp only at hSw); go_simp <;> with_reducible rfl); simp only [Act.put, List.setIfInBounds_toArray, List.set_cons_zero, List.set_cons_succ]
          refine takeSkip 51 (some 159) rfl (by kernel_rfl) (by kernel_rfl) (by kernel_rfl) rfl (fun _ _ _ h => h) (by rfl) (by assumption) ?_
          simp only [Act.put, List.setIfInBounds_toArray, List.set_cons_zero, List.set_cons_succ]
          refine takeSkip 52 (some 160) rfl (by kernel_rfl) (by kernel_rfl) (by kernel_rfl) rfl (fun _ _ _ h => h) (by rfl) (by assumption) ?_
          simp only [Act.put, List.setIfInBounds_toArray, List.set_cons_zero, List.set_cons_succ]
          refine takeSkip 53 (some 161) rfl (by kernel_rfl) (by kernel_rfl) (by kernel_rfl) rfl (fun _ _ _ h => h) (by rfl) (by assumption) ?_
          simp only [Act.put, List.setIfInBounds_toArray, List.set_cons_zero, List.set_cons_succ]
          refine takeSkip 54 (some 162) rfl (by kernel_rfl) (by kernel_rfl) (by kernel_rfl) rfl (fun _ _ _ h => h) (by rfl) (by assumption) ?_
          simp only [Act.put, List.setIfInBounds_toArray, List.set_cons_zero, List.set_cons_succ]
          refine takeVal 55 (some 163) ?_ rfl (by kernel_rfl) (by kernel_rfl) (by kernel_rfl) rfl (fun _ _ _ h => h) (by rfl) (by assumption) ?_ ?_; rotate_left; (intro w hSw; (try dsimp only at hSw); go_simp <;> with_reducible rfl); simp only [Act.put, List.setIfInBounds_toArray, List.set_cons_zero, List.set_cons_succ]
          refine takeVal 56 (some 164) ?_ rfl (by kernel_rfl) (by kernel_rfl) (by kernel_rfl) rfl (fun _ _ _ h => h) (by rfl) (by assumption) ?_ ?_; rotate_left; (intro w hSw; (try dsimp only at hSw); go_simp <;> with_reducible rfl); simp only [Act.put, List.setIfInBounds_toArray, List.set_cons_zero, List.set_cons_succ]
          refine wpAnyH_done (by kernel_rfl) ?_ _
          go_wp2
          go_roundw
          case rel => rw [unhide HREL]; exact ⟨k + 1, by omega, by go_num, unhide B, unhide N, unhide OB, unhide ON, unhide RD, unhide RL, unhide BB⟩
          case measure => simp [intOf]; omega
        | true =>
          have hlm := unhide EC hl9
          have dlm : decide (f.mod ≤ since) = false := decide_eq_false (by omega)
          go_wp2
          clear c0 c1 c2 c3
          refine wp_region_held_drew (S := fun w' => w'.cell? ⟨w5.heap.size, 3, none⟩ = some (.int .i64 n.mod) ∧ w'.cell? ⟨w5.heap.size, 4, none⟩ = some (.slice (some ⟨gn, 0, none⟩) b.mails.length cmN) ∧ w'.cell? ⟨wo.heap.size, 0, none⟩ = some (.int .i64 f.uid) ∧ w'.cell? ⟨wo.heap.size, 1, none⟩ = some (.int .i64 f.flags) ∧ w'.cell? ⟨wo.heap.size, 2, none⟩ = some (.int .i64 f.mod) ∧ w'.cell? ⟨wo.heap.size, 3, none⟩ = some (.string f.text) ∧ w'.cell? ⟨gn, k * 4, none⟩ = some (.int .i64 m9.uid) ∧ w'.cell? ⟨gn, k * 4 + 1, none⟩ = some (.int .i64 (afterV f.flags how bits)) ∧ w'.cell? ⟨gn, k * 4 + 2, none⟩ = some (.int .i64 n.mod) ∧ w'.cell? ⟨gn, k * 4 + 3, none⟩ = some (.string m9.text)) (by kernel_rfl) (⟨(unhide N).cell 3 rfl, (unhide N).cell 4 rfl, (unhide M).cell 0 rfl, (unhide M).cell 1 rfl, (unhide M).cell 2 rfl, (unhide M).cell 3 rfl, (unhide NC _ (unhide ON)).1, (by have z9 := (unhide NC _ (unhide ON)).2.1; rw [q1] at z9; exact z9), (by have z9 := (unhide NC _ (unhide ON)).2.2.1; rw [q2] at z9; exact z9), (unhide NC _ (unhide ON)).2.2.2⟩) (fun hHeld => ?_)
          clear Bc0_9 Bc1_9 Bc2_9 Bc3_9 Bc4_9 Bc5_9 Bc6_9 Mc0_10 Mc1_10 Mc2_10 Mc3_10 Nc0_11 Nc1_11 Nc2_11 Nc3_11 Nc4_11 Nc5_11 Nc6_11 EM; replace B := hide ((unhide B).drew); replace N := hide ((unhide N).drew); replace M := hide ((unhide M).drew); replace OB := hide ((unhide OB).drew); replace ON := hide ((unhide ON).drew); replace RD := hide ((unhide RD).drew); replace RL := hide ((unhide RL).drew); replace BB := hide ((unhide BB).drew)
          have sz302 : Hid (wr1.heap.size ≤ wr1.drew.heap.size) := Nat.le_refl _
          refine takeVal 0 (some 108) ?_ rfl (by kernel_rfl) (by kernel_rfl) (by kernel_rfl) rfl (fun _ _ _ h => h) (by rfl) (by assumption) ?_ ?_; rotate_left; (intro w hSw; (try dsimp only at hSw); go_simp <;> with_reducible rfl); simp only [Act.put, List.setIfInBounds_toArray, List.set_cons_zero, List.set_cons_succ]
          refine takeVal 1 (some 109) ?_ rfl (by kernel_rfl) (by kernel_rfl) (by kernel_rfl) rfl (fun _ _ _ h => h) (by rfl) (by assumption) ?_ ?_; rotate_left; (intro w hSw; (try dsimp only at hSw); go_simp <;> with_reducible rfl); simp only [Act.put, List.setIfInBounds_toArray, List.set_cons_zero, List.set_cons_succ]
          refine takeVal 2 (some 110) ?_ rfl (by kernel_rfl) (by kernel_rfl) (by kernel_rfl) rfl (fun _ _ _ h => h) (by rfl) (by assumption) ?_ ?_; rotate_left; (intro w hSw; (try dsimp only at hSw); go_simp <;> with_reducible rfl); simp only [Act.put, List.setIfInBounds_toArray, List.set_cons_zero, List.set_cons_succ]
          refine wpAnyH_ready (rs := [3]) (by kernel_rfl) (by simp) ?_
          refine AllReadyH.cons rfl (fun K hK => ?_) AllReadyH.nil
          go_simp
          refine ((unhide CC).has D f.uid vD _ _ dD (unhide RD) (unhide BB)).mono ?_
          rintro e wdl2 ⟨rfl, hb⟩
          rw [hd]
          replace B := hide ((unhide B).ups hb); replace N := hide ((unhide N).ups hb); replace M := hide ((unhide M).ups hb); replace OB := hide ((unhide OB).up hb); replace ON := hide ((unhide ON).up hb); replace RD := hide ((unhide RD).up hb); replace RL := hide ((unhide RL).up hb); have sz303 := hide (hb.size); replace BB := hide (below_y (unhide BB) hb); clear hb; go_wp2_with fail
          refine hK.out _ _ (⟨(unhide N).cell 3 rfl, (unhide N).cell 4 rfl, (unhide M).cell 0 rfl, (unhide M).cell 1 rfl, (unhide M).cell 2 rfl, (unhide M).cell 3 rfl, (unhide NC _ (unhide ON)).1, (by have z9 := (unhide NC _ (unhide ON)).2.1; rw [q1] at z9; exact z9), (by have z9 := (unhide NC _ (unhide ON)).2.2.1; rw [q2] at z9; exact z9), (unhide NC _ (unhide ON)).2.2.2⟩) (fun hHeld2 => ?_)
          clear hK K hHeld; have hHeld := hHeld2; clear hHeld2
          try simp only [Act.put, List.setIfInBounds_toArray, List.set_cons_zero, List.set_cons_succ]
          refine takeVal 4 (some 112) ?_ rfl (by kernel_rfl) (by kernel_rfl) (by kernel_rfl) rfl (fun _ _ _ h => h) (by rfl) (by assumption) ?_ ?_; rotate_left; (intro w hSw; (try dsimp only at hSw); go_simp <;> with_reducible rfl); simp only [Act.put, List.setIfInBounds_toArray, List.set_cons_zero, List.set_cons_succ]
          refine takeVal 5 (some 113) ?_ rfl (by kernel_rfl) (by kernel_rfl) (by kernel_rfl) rfl (fun _ _ _ h => h) (by rfl) (by assumption) ?_ ?_; rotate_left; (intro w hSw; (try dsimp only at hSw); go_simp <;> with_reducible rfl); simp only [Act.put, List.setIfInBounds_toArray, List.set_cons_zero, List.set_cons_succ]
          refine takeSkip 6 (some 114) rfl (by kernel_rfl) (by kernel_rfl) (by kernel_rfl) rfl (fun _ _ _ h => h) (by rfl) (by assumption) ?_
          simp only [Act.put, List.setIfInBounds_toArray, List.set_cons_zero, List.set_cons_succ]
          refine takeSkip 7 (some 115) rfl (by kernel_rfl) (by kernel_rfl) (by kernel_rfl) rfl (fun _ _ _ h => h) (by rfl) (by assumption) ?_
          simp only [Act.put, List.setIfInBounds_toArray, List.set_cons_zero, List.set_cons_succ]
          refine takeSkip 8 (some 116) rfl (by kernel_rfl) (by kernel_rfl) (by kernel_rfl) rfl (fun _ _ _ h => h) (by rfl) (by assumption) ?_
          simp only [Act.put, List.setIfInBounds_toArray, List.set_cons_zero, List.set_cons_succ]
          refine takeSkip 9 (some 117) rfl (by kernel_rfl) (by kernel_rfl) (by kernel_rfl) rfl (fun _ _ _ h => h) (by rfl) (by assumption) ?_
          simp only [Act.put, List.setIfInBounds_toArray, List.set_cons_zero, List.set_cons_succ]
          refine takeSkip 10 (some 118) rfl (by kernel_rfl) (by kernel_rfl) (by kernel_rfl) rfl (fun _ _ _ h => h) (by rfl) (by assumption) ?_
          simp only [Act.put, List.setIfInBounds_toArray, List.set_cons_zero, List.set_cons_succ]
          refine takeSkip 11 (some 119) rfl (by kernel_rfl) (by kernel_rfl) (by kernel_rfl) rfl (fun _ _ _ h => h) (by rfl) (by assumption) ?_
          simp only [Act.put, List.setIfInBounds_toArray, List.set_cons_zero, List.set_cons_succ]
          refine takeSkip 12 (some 120) rfl (by kernel_rfl) (by kernel_rfl) (by kernel_rfl) rfl (fun _ _ _ h => h) (by rfl) (by assumption) ?_
          simp only [Act.put, List.setIfInBounds_toArray, List.set_cons_zero, List.set_cons_succ]
          refine takeVal 13 (some 121) ?_ rfl (by kernel_rfl) (by kernel_rfl) (by kernel_rfl) rfl (fun _ _ _ h => h) (by rfl) (by assumption) ?_ ?_; rotate_left; (intro w hSw; (try dsimp only at hSw); go_simp <;> with_reducible rfl); simp only [Act.put, List.setIfInBounds_toArray, List.set_cons_zero, List.set_cons_succ]
          refine takeVal 14 (some 122) ?_ rfl (by kernel_rfl) (by kernel_rfl) (by kernel_rfl) rfl (fun _ _ _ h => h) (by rfl) (by assumption) ?_ ?_; rotate_left; (intro w hSw; (try dsimp only at hSw); go_simp <;> with_reducible rfl); simp only [Act.put, List.setIfInBounds_toArray, List.set_cons_zero, List.set_cons_succ]
          refine takeVal 15 (some 123) ?_ rfl (by kernel_rfl) (by kernel_rfl) (by kernel_rfl) rfl (fun _ _ _ h => h) (by rfl) (by assumption) ?_ ?_; rotate_left; (intro w hSw; (try dsimp only at hSw); go_simp <;> with_reducible rfl); simp only [Act.put, List.setIfInBounds_toArray, List.set_cons_zero, List.set_cons_succ]
          refine takeVal 16 (some 124) ?_ rfl (by kernel_rfl) (by kernel_rfl) (by kernel_rfl) rfl (fun _ _ _ h => h) (by rfl) (by assumption) ?_ ?_; rotate_left; (intro w hSw; (try dsimp only at hSw); go_simp <;> with_reducible rfl); simp only [Act.put, List.setIfInBounds_toArray, List.set_cons_zero, List.set_cons_succ]
          refine takeVal 17 (some 125) ?_ rfl (by kernel_rfl) (by kernel_rfl) (by kernel_rfl) rfl (fun _ _ _ h => h) (by rfl) (by assumption) ?_ ?_; rotate_left; (intro w hSw; (try dsimp only at hSw); go_simp <;> with_reducible rfl); simp only [Act.put, List.setIfInBounds_toArray, List.set_cons_zero, List.set_cons_succ]
          refine wpAnyH_ready (rs := [18]) (by kernel_rfl) (by simp) ?_
          refine AllReadyH.cons rfl (fun K hK => ?_) AllReadyH.nil
          go_simp
          refine ((unhide CC).has D f.uid vD _ _ dD (unhide RD) (unhide BB)).mono ?_
          rintro e wdl3 ⟨rfl, hb⟩
          rw [hd]
          replace B := hide ((unhide B).ups hb); replace N := hide ((unhide N).ups hb); replace M := hide ((unhide M).ups hb); replace OB := hide ((unhide OB).up hb); replace ON := hide ((unhide ON).up hb); replace RD := hide ((unhide RD).up hb); replace RL := hide ((unhide RL).up hb); have sz304 := hide (hb.size); replace BB := hide (below_y (unhide BB) hb); clear hb; go_wp2_with fail
          refine hK.out _ _ (⟨(unhide N).cell 3 rfl, (unhide N).cell 4 rfl, (unhide M).cell 0 rfl, (unhide M).cell 1 rfl, (unhide M).cell 2 rfl, (unhide M).cell 3 rfl, (unhide NC _ (unhide ON)).1, (by have z9 := (unhide NC _ (unhide ON)).2.1; rw [q1] at z9; exact z9), (by have z9 := (unhide NC _ (unhide ON)).2.2.1; rw [q2] at z9; exact z9), (unhide NC _ (unhide ON)).2.2.2⟩) (fun hHeld2 => ?_)
          clear hK K hHeld; have hHeld := hHeld2; clear hHeld2
          try simp only [Act.put, List.setIfInBounds_toArray, List.set_cons_zero, List.set_cons_succ]
          refine takeVal 19 (some 127) ?_ rfl (by kernel_rfl) (by kernel_rfl) (by kernel_rfl) rfl (fun _ _ _ h => h) (by rfl) (by assumption) ?_ ?_; rotate_left; (intro w hSw; (try dsimp only at hSw); go_simp <;> with_reducible rfl); simp only [Act.put, List.setIfInBounds_toArray, List.set_cons_zero, List.set_cons_succ]
          refine takeVal 20 (some 128) ?_ rfl (by kernel_rfl) (by kernel_rfl) (by kernel_rfl) rfl (fun _ _ _ h => h) (by rfl) (by assumption) ?_ ?_; rotate_left; (intro w hSw; (try dsimp only at hSw); go_simp <;> with_reducible rfl); simp only [Act.put, List.setIfInBounds_toArray, List.set_cons_zero, List.set_cons_succ]
          refine takeVal 21 (some 129) ?_ rfl (by kernel_rfl) (by kernel_rfl) (by kernel_rfl) rfl (fun _ _ _ h => h) (by rfl) (by assumption) ?_ ?_; rotate_left; (intro w hSw; (try dsimp only at hSw); go_simp <;> with_reducible rfl); simp only [Act.put, List.setIfInBounds_toArray, List.set_cons_zero, List.set_cons_succ]
          refine takeVal 22 (some 130) ?_ rfl (by kernel_rfl) (by kernel_rfl) (by kernel_rfl) rfl (fun _ _ _ h => h) (by rfl) (by assumption) ?_ ?_; rotate_left; (intro w hSw; (try dsimp only at hSw); go_simp <;> with_reducible rfl); simp only [Act.put, List.setIfInBounds_toArray, List.set_cons_zero, List.set_cons_succ]
          refine takeVal 23 (some 131) ?_ rfl (by kernel_rfl) (by kernel_rfl) (by kernel_rfl) rfl (fun _ _ _ h => h) (by rfl) (by assumption) ?_ ?_; rotate_left; (intro w hSw; (try dsimp only at hSw); go_simp <;> with_reducible rfl); simp only [Act.put, List.setIfInBounds_toArray, List.set_cons_zero, List.set_cons_succ]
          refine takeVal 24 (some 132) ?_ rfl (by kernel_rfl) (by kernel_rfl) (by kernel_rfl) rfl (fun _ _ _ h => h) (by rfl) (by assumption) ?_ ?_; rotate_left; (intro w hSw; (try dsimp only at hSw); go_simp <;> with_reducible rfl); simp only [Act.put, List.setIfInBounds_toArray, List.set_cons_zero, List.set_cons_succ]
          refine takeVal 25 (some 133) ?_ rfl (by kernel_rfl) (by kernel_rfl) (by kernel_rfl) rfl (fun _ _ _ h => h) (by rfl) (by assumption) ?_ ?_; rotate_left; (intro w hSw; (try dsimp only at hSw); go_simp <;> with_reducible rfl); simp only [Act.put, List.setIfInBounds_toArray, List.set_cons_zero, List.set_cons_succ]
          refine takeVal 26 (some 134) ?_ rfl (by kernel_rfl) (by kernel_rfl) (by kernel_rfl) rfl (fun _ _ _ h => h) (by rfl) (by assumption) ?_ ?_; rotate_left; (intro w hSw; (try dsimp only at hSw); go_simp <;> with_reducible rfl); simp only [Act.put, List.setIfInBounds_toArray, List.set_cons_zero, List.set_cons_succ]
          refine takeVal 27 (some 135) ?_ rfl (by kernel_rfl) (by kernel_rfl) (by kernel_rfl) rfl (fun _ _ _ h => h) (by rfl) (by assumption) ?_ ?_; rotate_left; (intro w hSw; (try dsimp only at hSw); go_simp <;> with_reducible rfl); simp only [Act.put, List.setIfInBounds_toArray, List.set_cons_zero, List.set_cons_succ]
          refine takeVal 28 (some 136) ?_ rfl (by kernel_rfl) (by kernel_rfl) (by kernel_rfl) rfl (fun _ _ _ h => h) (by rfl) (by assumption) ?_ ?_; rotate_left; (intro w hSw; (try dsimp only at hSw); go_simp <;> with_reducible rfl); simp only [Act.put, List.setIfInBounds_toArray, List.set_cons_zero, List.set_cons_succ]
          refine takeVal 29 (some 137) ?_ rfl (by kernel_rfl) (by kernel_rfl) (by kernel_rfl) rfl (fun _ _ _ h => h) (by rfl) (by assumption) ?_ ?_; rotate_left; (intro w hSw; (try dsimp only at hSw); go_simp <;> with_reducible rfl); simp only [Act.put, List.setIfInBounds_toArray, List.set_cons_zero, List.set_cons_succ]
          refine wpAnyH_ready (rs := [30]) (by kernel_rfl) (by simp) ?_
          refine AllReadyH.cons rfl (fun K hK => ?_) AllReadyH.nil
          go_simp
          refine (after_held f.flags how bits _).mono ?_
          rintro e wdl4 ⟨rfl, hb⟩
          replace B := hide ((unhide B).ups hb); replace N := hide ((unhide N).ups hb); replace M := hide ((unhide M).ups hb); replace OB := hide ((unhide OB).up hb); replace ON := hide ((unhide ON).up hb); replace RD := hide ((unhide RD).up hb); replace RL := hide ((unhide RL).up hb); have sz305 := hide (hb.size); replace BB := hide (below_y (unhide BB) hb); clear hb; go_wp2_with fail
          refine hK.out _ _ (⟨(unhide N).cell 3 rfl, (unhide N).cell 4 rfl, (unhide M).cell 0 rfl, (unhide M).cell 1 rfl, (unhide M).cell 2 rfl, (unhide M).cell 3 rfl, (unhide NC _ (unhide ON)).1, (by have z9 := (unhide NC _ (unhide ON)).2.1; rw [q1] at z9; exact z9), (by have z9 := (unhide NC _ (unhide ON)).2.2.1; rw [q2] at z9; exact z9), (unhide NC _ (unhide ON)).2.2.2⟩) (fun hHeld2 => ?_)
          clear hK K hHeld; have hHeld := hHeld2; clear hHeld2
          try simp only [Act.put, List.setIfInBounds_toArray, List.set_cons_zero, List.set_cons_succ]
          refine takeVal 31 (some 139) ?_ rfl (by kernel_rfl) (by kernel_rfl) (by kernel_rfl) rfl (fun _ _ _ h => h) (by rfl) (by assumption) ?_ ?_; rotate_left; (intro w hSw; (try dsimp only at hSw); go_simp <;> with_reducible rfl); simp only [Act.put, List.setIfInBounds_toArray, List.set_cons_zero, List.set_cons_succ]
          refine takeVal 32 (some 140) ?_ rfl (by kernel_rfl) (by kernel_rfl) (by kernel_rfl) rfl (fun _ _ _ h => h) (by rfl) (by assumption) ?_ ?_; rotate_left; (intro w hSw; (try dsimp only at hSw); go_simp <;> with_reducible rfl); simp only [Act.put, List.setIfInBounds_toArray, List.set_cons_zero, List.set_cons_succ]
          refine takeVal 33 (some 141) ?_ rfl (by kernel_rfl) (by kernel_rfl) (by kernel_rfl) rfl (fun _ _ _ h => h) (by rfl) (by assumption) ?_ ?_; rotate_left; (intro w hSw; (try dsimp only at hSw); go_simp <;> with_reducible rfl); simp only [Act.put, List.setIfInBounds_toArray, List.set_cons_zero, List.set_cons_succ]
          refine takeVal 34 (some 142) ?_ rfl (by kernel_rfl) (by kernel_rfl) (by kernel_rfl) rfl (fun _ _ _ h => h) (by rfl) (by assumption) ?_ ?_; rotate_left; (intro w hSw; (try dsimp only at hSw); go_simp <;> with_reducible rfl); simp only [Act.put, List.setIfInBounds_toArray, List.set_cons_zero, List.set_cons_succ]
          refine takeVal 35 (some 143) ?_ rfl (by kernel_rfl) (by kernel_rfl) (by kernel_rfl) rfl (fun _ _ _ h => h) (by rfl) (by assumption) ?_ ?_; rotate_left; (intro w hSw; (try dsimp only at hSw); go_simp <;> with_reducible rfl); simp only [Act.put, List.setIfInBounds_toArray, List.set_cons_zero, List.set_cons_succ]
          refine takeVal 36 (some 144) ?_ rfl (by kernel_rfl) (by kernel_rfl) (by kernel_rfl) rfl (fun _ _ _ h => h) (by rfl) (by assumption) ?_ ?_; rotate_left; (intro w hSw; (try dsimp only at hSw); go_simp <;> with_reducible rfl); simp only [Act.put, List.setIfInBounds_toArray, List.set_cons_zero, List.set_cons_succ]
          refine takeVal 37 (some 145) ?_ rfl (by kernel_rfl) (by kernel_rfl) (by kernel_rfl) rfl (fun _ _ _ h => h) (by rfl) (by assumption) ?_ ?_; rotate_left; (intro w hSw; (try dsimp only at hSw); go_simp <;> with_reducible rfl); simp only [Act.put, List.setIfInBounds_toArray, List.set_cons_zero, List.set_cons_succ]
          refine takeVal 38 (some 146) ?_ rfl (by kernel_rfl) (by kernel_rfl) (by kernel_rfl) rfl (fun _ _ _ h => h) (by rfl) (by assumption) ?_ ?_; rotate_left; (intro w hSw; (try dsimp only at hSw); go_simp <;> with_reducible rfl); simp only [Act.put, List.setIfInBounds_toArray, List.set_cons_zero, List.set_cons_succ]
          refine takeVal 39 (some 147) ?_ rfl (by kernel_rfl) (by kernel_rfl) (by kernel_rfl) rfl (fun _ _ _ h => h) (by rfl) (by assumption) ?_ ?_; rotate_left; (intro w hSw; (try dsimp only at hSw); go_simp <;> with_reducible rfl); simp only [Act.put, List.setIfInBounds_toArray, List.set_cons_zero, List.set_cons_succ]
          refine takeVal 40 (some 148) ?_ rfl (by kernel_rfl) (by kernel_rfl) (by kernel_rfl) rfl (fun _ _ _ h => h) (by rfl) (by assumption) ?_ ?_; rotate_left; (intro w hSw; (try dsimp only at hSw); go_simp <;> with_reducible rfl); simp only [Act.put, List.setIfInBounds_toArray, List.set_cons_zero, List.set_cons_succ]
          refine takeVal 41 (some 149) ?_ rfl (by kernel_rfl) (by kernel_rfl) (by kernel_rfl) rfl (fun _ _ _ h => h) (by rfl) (by assumption) ?_ ?_; rotate_left; (intro w hSw; (try dsimp only at hSw); go_simp <;> with_reducible rfl); simp only [Act.put, List.setIfInBounds_toArray, List.set_cons_zero, List.set_cons_succ]
          refine takeVal 42 (some 150) ?_ rfl (by kernel_rfl) (by kernel_rfl) (by kernel_rfl) rfl (fun _ _ _ h => h) (by rfl) (by assumption) ?_ ?_; rotate_left; (intro w hSw; (try dsimp only at hSw); go_simp <;> with_reducible rfl); simp only [Act.put, List.setIfInBounds_toArray, List.set_cons_zero, List.set_cons_succ]
          refine takeVal 43 (some 151) ?_ rfl (by kernel_rfl) (by kernel_rfl) (by kernel_rfl) rfl (fun _ _ _ h => h) (by rfl) (by assumption) ?_ ?_; rotate_left; (intro w hSw; (try dsimp only at hSw); go_simp <;> with_reducible rfl); simp only [Act.put, List.setIfInBounds_toArray, List.set_cons_zero, List.set_cons_succ]
          refine takeVal 44 (some 152) ?_ rfl (by kernel_rfl) (by kernel_rfl) (by kernel_rfl) rfl (fun _ _ _ h => h) (by rfl) (by assumption) ?_ ?_; rotate_left; (intro w hSw; (try dsimp only at hSw); go_simp <;> with_reducible rfl); simp only [Act.put, List.setIfInBounds_toArray, List.set_cons_zero, List.set_cons_succ]
          refine takeVal 45 (some 153) ?_ rfl (by kernel_rfl) (by kernel_rfl) (by kernel_rfl) rfl (fun _ _ _ h => h) (by rfl) (by assumption) ?_ ?_; rotate_left; (intro w hSw; (try dsimp only at hSw); go_simp <;> with_reducible rfl); simp only [Act.put, List.setIfInBounds_toArray, List.set_cons_zero, List.set_cons_succ]
          refine takeVal 46 (some 154) ?_ rfl (by kernel_rfl) (by kernel_rfl) (by kernel_rfl) rfl (fun _ _ _ h => h) (by rfl) (by assumption) ?_ ?_; rotate_left; (intro w hSw; (try dsimp only at hSw); go_simp <;> with_reducible rfl); simp only [Act.put, List.setIfInBounds_toArray, List.set_cons_zero, List.set_cons_succ]
          refine takeVal 47 (some 155) ?_ rfl (by kernel_rfl) (by kernel_rfl) (by kernel_rfl) rfl (fun _ _ _ h => h) (by rfl) (by assumption) ?_ ?_; rotate_left; (intro w hSw; (try dsimp only at hSw); go_simp <;> with_reducible rfl); simp only [Act.put, List.setIfInBounds_toArray, List.set_cons_zero, List.set_cons_succ]
          refine takeVal 48 (some 156) ?_ rfl (by kernel_rfl) (by kernel_rfl) (by kernel_rfl) rfl (fun _ _ _ h => h) (by rfl) (by assumption) ?_ ?_; rotate_left; (intro w hSw; (try dsimp only at hSw); go_simp <;> with_reducible rfl); simp only [Act.put, List.setIfInBounds_toArray, List.set_cons_zero, List.set_cons_succ]
          refine wpAnyH_ready (rs := [49]) (by kernel_rfl) (by simp) ?_
          refine AllReadyH.cons rfl (fun K hK => ?_) AllReadyH.nil
          go_simp
          refine ((unhide CC).has L f.uid vL _ _ dL (unhide RL) (unhide BB)).mono ?_
          rintro e wdl5 ⟨rfl, hb⟩
          rw [hl9]
          replace B := hide ((unhide B).ups hb); replace N := hide ((unhide N).ups hb); replace M := hide ((unhide M).ups hb); replace OB := hide ((unhide OB).up hb); replace ON := hide ((unhide ON).up hb); replace RD := hide ((unhide RD).up hb); replace RL := hide ((unhide RL).up hb); have sz306 := hide (hb.size); replace BB := hide (below_y (unhide BB) hb); clear hb; go_wp2_with fail
          refine hK.out _ _ (⟨(unhide N).cell 3 rfl, (unhide N).cell 4 rfl, (unhide M).cell 0 rfl, (unhide M).cell 1 rfl, (unhide M).cell 2 rfl, (unhide M).cell 3 rfl, (unhide NC _ (unhide ON)).1, (by have z9 := (unhide NC _ (unhide ON)).2.1; rw [q1] at z9; exact z9), (by have z9 := (unhide NC _ (unhide ON)).2.2.1; rw [q2] at z9; exact z9), (unhide NC _ (unhide ON)).2.2.2⟩) (fun hHeld2 => ?_)
          clear hK K hHeld; have hHeld := hHeld2; clear hHeld2
          try simp only [Act.put, List.setIfInBounds_toArray, List.set_cons_zero, List.set_cons_succ]
          refine takeVal 50 (some 158) ?_ rfl (by kernel_rfl) (by kernel_rfl) (by kernel_rfl) rfl (fun _ _ _ h => h) (by rfl) (by assumption) ?_ ?_; rotate_left; (intro w hSw; (try dsimp only at hSw); go_simp <;> with_reducible rfl); simp only [Act.put, List.setIfInBounds_toArray, List.set_cons_zero, List.set_cons_succ]
          refine takeVal 51 (some 159) ?_ rfl (by kernel_rfl) (by kernel_rfl) (by kernel_rfl) rfl (fun _ _ _ h => h) (by rfl) (by assumption) ?_ ?_; rotate_left; (intro w hSw; (try dsimp only at hSw); go_simp <;> with_reducible rfl); simp only [Act.put, List.setIfInBounds_toArray, List.set_cons_zero, List.set_cons_succ]
          refine takeVal 52 (some 160) ?_ rfl (by kernel_rfl) (by kernel_rfl) (by kernel_rfl) rfl (fun _ _ _ h => h) (by rfl) (by assumption) ?_ ?_; rotate_left; (intro w hSw; (try dsimp only at hSw); go_simp <;> with_reducible rfl); simp only [Act.put, List.setIfInBounds_toArray, List.set_cons_zero, List.set_cons_succ]
          refine takeVal 53 (some 161) ?_ rfl (by kernel_rfl) (by kernel_rfl) (by kernel_rfl) rfl (fun _ _ _ h => h) (by rfl) (by assumption) ?_ ?_; rotate_left; (intro w hSw; (try dsimp only at hSw); go_simp <;> with_reducible rfl); simp only [Act.put, List.setIfInBounds_toArray, List.set_cons_zero, List.set_cons_succ]
          refine takeVal 54 (some 162) ?_ rfl (by kernel_rfl) (by kernel_rfl) (by kernel_rfl) rfl (fun _ _ _ h => h) (by rfl) (by assumption) ?_ ?_; rotate_left; (intro w hSw; (try dsimp only at hSw); go_simp <;> with_reducible rfl); simp only [Act.put, List.setIfInBounds_toArray, List.set_cons_zero, List.set_cons_succ]
          refine takeVal 55 (some 163) ?_ rfl (by kernel_rfl) (by kernel_rfl) (by kernel_rfl) rfl (fun _ _ _ h => h) (by rfl) (by assumption) ?_ ?_; rotate_left; (intro w hSw; (try dsimp only at hSw); go_simp <;> with_reducible rfl); simp only [Act.put, List.setIfInBounds_toArray, List.set_cons_zero, List.set_cons_succ]
          refine takeVal 56 (some 164) ?_ rfl (by kernel_rfl) (by kernel_rfl) (by kernel_rfl) rfl (fun _ _ _ h => h) (by rfl) (by assumption) ?_ ?_; rotate_left; (intro w hSw; (try dsimp only at hSw); go_simp <;> with_reducible rfl); simp only [Act.put, List.setIfInBounds_toArray, List.set_cons_zero, List.set_cons_succ]
          refine wpAnyH_done (by kernel_rfl) ?_ _
          go_wp2
          go_roundw
          case rel => rw [unhide HREL]; exact ⟨k + 1, by omega, by go_num, unhide B, unhide N, unhide OB, unhide ON, unhide RD, unhide RL, unhide BB⟩
          case measure => simp [intOf]; omega
    · obtain rfl : k = b.mails.length := by omega
      have B := hide oB; have N := hide oN; have BB := hide hbel; clear oB oN rB rN rD rL hbel hlt hk
      have nm : IntKind.i64.wrap (b.mod + 1) = b.mod + 1 := by rw [IntKind.wrap_i64]; omega
      rcases unhide MOD with hq | ⟨hq, hq2⟩
      · have d1 : (n.mod == b.mod) = true := beq_iff_eq.2 hq
        clear hq MOD; have Bc0_9 := (unhide B).cell 0 rfl; have Bc1_9 := (unhide B).cell 1 rfl; have Bc2_9 := (unhide B).cell 2 rfl; have Bc3_9 := (unhide B).cell 3 rfl; have Bc4_9 := (unhide B).cell 4 rfl; have Bc5_9 := (unhide B).cell 5 rfl; have Bc6_9 := (unhide B).cell 6 rfl; have Nc0_10 := (unhide N).cell 0 rfl; have Nc1_10 := (unhide N).cell 1 rfl; have Nc2_10 := (unhide N).cell 2 rfl; have Nc3_10 := (unhide N).cell 3 rfl; have Nc4_10 := (unhide N).cell 4 rfl; have Nc5_10 := (unhide N).cell 5 rfl; have Nc6_10 := (unhide N).cell 6 rfl
        go_wp2
        go_ret
        exact ⟨rfl, unhide BB⟩
      · have d1 : (n.mod == b.mod) = false := beq_eq_false_iff_ne.2 hq2
        have d2 : (n.mod == b.mod + 1) = true := beq_iff_eq.2 hq
        clear hq2; clear hq MOD; have Bc0_9 := (unhide B).cell 0 rfl; have Bc1_9 := (unhide B).cell 1 rfl; have Bc2_9 := (unhide B).cell 2 rfl; have Bc3_9 := (unhide B).cell 3 rfl; have Bc4_9 := (unhide B).cell 4 rfl; have Bc5_9 := (unhide B).cell 5 rfl; have Bc6_9 := (unhide B).cell 6 rfl; have Nc0_10 := (unhide N).cell 0 rfl; have Nc1_10 := (unhide N).cell 1 rfl; have Nc2_10 := (unhide N).cell 2 rfl; have Nc3_10 := (unhide N).cell 3 rfl; have Nc4_10 := (unhide N).cell 4 rfl; have Nc5_10 := (unhide N).cell 5 rfl; have Nc6_10 := (unhide N).cell 6 rfl
        go_wp2
        go_ret
        exact ⟨rfl, unhide BB⟩
end Go.Proofs.YtmedhmgihfenhaaGreat

/- The laws of chapter 8 at inputs of over 2^20 bytes. -/
namespace Go.Proofs.YtmedhmgihfenhaaGreat
open Go.RowKit
open Plain
set_option linter.unusedVariables false

set_option maxRecDepth 100000 in
theorem FnStores_big (len cap : Nat) (a : Option Addr) (w : World) (h1 : 1048576 < len) (h2 : len ≤ 9223372036854775807) :
    Calls Tryz.prog 3 #[.slice a len cap] w fun e w' => e = .returned (.bool true) ∧ Below w.heap.size w w' := by
  have q0 := bigF_any len cap a w h2
  have hd : decide ((1048576 : Int) < (len : Int)) = true := by simp; omega
  rw [hd] at q0
  have Q := hide q0; clear q0 hd h1 h2
  go_enter Tryz.func3, Tryz.ntmps3
  go_wp2_with (go_at_call 6; refine (unhide Q).mono ?_; rintro e w0 ⟨rfl, hw⟩; subst w0)
  go_ret
  exact ⟨rfl, Below.refl _ _⟩

set_option maxRecDepth 100000 in
theorem FnExpunges_big (len cap : Nat) (a : Option Addr) (w : World) (h1 : 1048576 < len) (h2 : len ≤ 9223372036854775807) :
    Calls Tryz.prog 4 #[.slice a len cap] w fun e w' => e = .returned (.bool true) ∧ Below w.heap.size w w' := by
  have q0 := bigF_any len cap a w h2
  have hd : decide ((1048576 : Int) < (len : Int)) = true := by simp; omega
  rw [hd] at q0
  have Q := hide q0; clear q0 hd h1 h2
  go_enter Tryz.func4, Tryz.ntmps4
  go_wp2_with (go_at_call 6; refine (unhide Q).mono ?_; rintro e w0 ⟨rfl, hw⟩; subst w0)
  go_ret
  exact ⟨rfl, Below.refl _ _⟩

set_option maxRecDepth 100000 in
theorem FnBoxesTold_big (len cap : Nat) (a : Option Addr) (w : World) (h1 : 1048576 < len) (h2 : len ≤ 9223372036854775807) :
    Calls Tryz.prog 5 #[.slice a len cap] w fun e w' => e = .returned (.bool true) ∧ Below w.heap.size w w' := by
  have q0 := bigF_any len cap a w h2
  have hd : decide ((1048576 : Int) < (len : Int)) = true := by simp; omega
  rw [hd] at q0
  have Q := hide q0; clear q0 hd h1 h2
  go_enter Tryz.func5, Tryz.ntmps5
  go_wp2_with (go_at_call 6; refine (unhide Q).mono ?_; rintro e w0 ⟨rfl, hw⟩; subst w0)
  go_ret
  exact ⟨rfl, Below.refl _ _⟩

end Go.Proofs.YtmedhmgihfenhaaGreat
