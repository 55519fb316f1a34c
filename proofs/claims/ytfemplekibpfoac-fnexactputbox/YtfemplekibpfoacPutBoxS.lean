/- The specification's PutBox. Made by gen_stores.py. -/
import Derived.Test.YtfemplekibpfoacStoreS
namespace Go.Proofs.Ytfemplekibpfoac
open Go.RowKit
open Plain
set_option linter.unusedVariables false
set_option linter.unusedSimpArgs false

theorem br_store {B g n c : Nat} {W : World} {L : List Lb} (h : W.ownsRow B 39 7 (.slice (some ⟨g, 0, none⟩) n c) n (rowC lbC L)) {k : Nat} {x : Lb} (hget : L[k]? = some x) (y : Lb) :
    (((((((W.setCell ⟨g, k * 7, none⟩ (.string y.b.name)).setCell ⟨g, k * 7 + 1, none⟩ (.int .i64 y.b.valid)).setCell ⟨g, k * 7 + 2, none⟩ (.int .i64 y.b.next)).setCell ⟨g, k * 7 + 3, none⟩ (.int .i64 y.b.mod)).setCell ⟨g, k * 7 + 4, none⟩ (y.m)).setCell ⟨g, k * 7 + 5, none⟩ (y.t)).setCell ⟨g, k * 7 + 6, none⟩ (.int .i64 y.b.hor)).ownsRow B 39 7 (.slice (some ⟨g, 0, none⟩) n c) n (rowC lbC (L.set k y)) ∧ W.grownBy (((((((W.setCell ⟨g, k * 7, none⟩ (.string y.b.name)).setCell ⟨g, k * 7 + 1, none⟩ (.int .i64 y.b.valid)).setCell ⟨g, k * 7 + 2, none⟩ (.int .i64 y.b.next)).setCell ⟨g, k * 7 + 3, none⟩ (.int .i64 y.b.mod)).setCell ⟨g, k * 7 + 4, none⟩ (y.m)).setCell ⟨g, k * 7 + 5, none⟩ (y.t)).setCell ⟨g, k * 7 + 6, none⟩ (.int .i64 y.b.hor)) (some g) := by
  have st0 := h.stored (k * 7) (.string y.b.name)
  rw [show k * 7 = k * 7 + 0 from rfl, rowC_set lbC_len hget (j := 0) (by decide) (⟨⟨y.b.name, x.b.valid, x.b.next, x.b.mod, x.b.mails, x.b.tombs, x.b.hor⟩, x.m, x.t⟩ : Lb) (.string y.b.name) rfl] at st0
  have st1 := st0.1.stored (k * 7 + 1) (.int .i64 y.b.valid)
  rw [rowC_set2 lbC_len hget (⟨⟨y.b.name, x.b.valid, x.b.next, x.b.mod, x.b.mails, x.b.tombs, x.b.hor⟩, x.m, x.t⟩ : Lb) (j := 1) (by decide) (⟨⟨y.b.name, y.b.valid, x.b.next, x.b.mod, x.b.mails, x.b.tombs, x.b.hor⟩, x.m, x.t⟩ : Lb) (.int .i64 y.b.valid) rfl] at st1
  have st2 := st1.1.stored (k * 7 + 2) (.int .i64 y.b.next)
  rw [rowC_set2 lbC_len hget (⟨⟨y.b.name, y.b.valid, x.b.next, x.b.mod, x.b.mails, x.b.tombs, x.b.hor⟩, x.m, x.t⟩ : Lb) (j := 2) (by decide) (⟨⟨y.b.name, y.b.valid, y.b.next, x.b.mod, x.b.mails, x.b.tombs, x.b.hor⟩, x.m, x.t⟩ : Lb) (.int .i64 y.b.next) rfl] at st2
  have st3 := st2.1.stored (k * 7 + 3) (.int .i64 y.b.mod)
  rw [rowC_set2 lbC_len hget (⟨⟨y.b.name, y.b.valid, y.b.next, x.b.mod, x.b.mails, x.b.tombs, x.b.hor⟩, x.m, x.t⟩ : Lb) (j := 3) (by decide) (⟨⟨y.b.name, y.b.valid, y.b.next, y.b.mod, x.b.mails, x.b.tombs, x.b.hor⟩, x.m, x.t⟩ : Lb) (.int .i64 y.b.mod) rfl] at st3
  have st4 := st3.1.stored (k * 7 + 4) (y.m)
  rw [rowC_set2 lbC_len hget (⟨⟨y.b.name, y.b.valid, y.b.next, y.b.mod, x.b.mails, x.b.tombs, x.b.hor⟩, x.m, x.t⟩ : Lb) (j := 4) (by decide) (⟨⟨y.b.name, y.b.valid, y.b.next, y.b.mod, x.b.mails, x.b.tombs, x.b.hor⟩, y.m, x.t⟩ : Lb) (y.m) rfl] at st4
  have st5 := st4.1.stored (k * 7 + 5) (y.t)
  rw [rowC_set2 lbC_len hget (⟨⟨y.b.name, y.b.valid, y.b.next, y.b.mod, x.b.mails, x.b.tombs, x.b.hor⟩, y.m, x.t⟩ : Lb) (j := 5) (by decide) (⟨⟨y.b.name, y.b.valid, y.b.next, y.b.mod, x.b.mails, x.b.tombs, x.b.hor⟩, y.m, y.t⟩ : Lb) (y.t) rfl] at st5
  have st6 := st5.1.stored (k * 7 + 6) (.int .i64 y.b.hor)
  rw [rowC_set2 lbC_len hget (⟨⟨y.b.name, y.b.valid, y.b.next, y.b.mod, x.b.mails, x.b.tombs, x.b.hor⟩, y.m, y.t⟩ : Lb) (j := 6) (by decide) y (.int .i64 y.b.hor) rfl] at st6
  exact ⟨st6.1, g_store (g_store (g_store (g_store (g_store (g_store (g_store (g_self _ _) _) _) _) _) _) _) _⟩
set_option maxHeartbeats 8000000 in
set_option maxRecDepth 100000 in
theorem spec_PutBox_any (s : Sx) (b : Bx) (v m t : Value) (B B2 : Nat) (w : World) (hf : FitSt s) (hfb : FitBx b) (h : ReadSt B w v s.boxes) (hb : OwnBx B2 w m t b) :
    Calls Try.prog 10 #[.agg #[v, .int .i64 s.valid], boxV b m t] w fun e w' => ∃ v', e = .returned (.agg #[v', .int .i64 s.valid]) ∧ ReadSt w.heap.size w' v' (putX b s.boxes) ∧ Below w.heap.size w w' := by
  obtain ⟨a0, c0, rfl⟩ := h.shape
  obtain ⟨am, cm, rfl⟩ := g_shape hb.1
  obtain ⟨at1, ct1, rfl⟩ := g_shape hb.2
  have S0 := hide h
  have OB := hide hb
  have FT := hide hf
  have FB := hide hfb
  have hnl := hf.len
  clear h hb hf hfb
  have BB := hide (Below.refl w.heap.size w)
  obtain ⟨wp1, hA⟩ : ∃ X, X = w.alloc (.cells ([.slice a0 s.boxes.length c0, .int .i64 s.valid] : List Value).toArray 33) := ⟨_, rfl⟩
  have Ax : HasObj wp1 w.heap.size 33 [.slice a0 s.boxes.length c0, .int .i64 s.valid] := by rw [hA]; exact HasObj.new _ _ _
  have hbn : Below w.heap.size w wp1 := by rw [hA]; exact (Below.refl _ _).alloc (Nat.le_refl _) _
  have loA : w.heap.size ≤ w.heap.size := (unhide BB).size
  have EA := hA.symm
  clear hA
  have S0_ := hide ((unhide S0).up hbn)
  clear S0
  have S0 := S0_
  clear S0_
  have OB_ := hide ((unhide OB).up hbn)
  clear OB
  have OB := OB_
  clear OB_
  have sz1 := hide (hbn.size)
  have BB_ := hide (below_y (unhide BB) hbn)
  clear BB
  have BB := BB_
  clear BB_
  clear hbn
  have A := hide Ax
  clear Ax
  obtain ⟨wp2, hV⟩ : ∃ X, X = wp1.alloc (.cells ([.string b.name, .int .i64 b.valid, .int .i64 b.next, .int .i64 b.mod, .slice am b.mails.length cm, .slice at1 b.tombs.length ct1, .int .i64 b.hor] : List Value).toArray 39) := ⟨_, rfl⟩
  have Vx : HasObj wp2 wp1.heap.size 39 [.string b.name, .int .i64 b.valid, .int .i64 b.next, .int .i64 b.mod, .slice am b.mails.length cm, .slice at1 b.tombs.length ct1, .int .i64 b.hor] := by rw [hV]; exact HasObj.new _ _ _
  have hbn : Below wp1.heap.size wp1 wp2 := by rw [hV]; exact (Below.refl _ _).alloc (Nat.le_refl _) _
  have neAV : w.heap.size ≠ wp1.heap.size := Nat.ne_of_lt (unhide A).lt
  have loV : w.heap.size ≤ wp1.heap.size := (unhide BB).size
  have EV := hV.symm
  clear hV
  have A_ := hide ((unhide A).ups hbn)
  clear A
  have A := A_
  clear A_
  have S0_ := hide ((unhide S0).up hbn)
  clear S0
  have S0 := S0_
  clear S0_
  have OB_ := hide ((unhide OB).up hbn)
  clear OB
  have OB := OB_
  clear OB_
  have sz2 := hide (hbn.size)
  have BB_ := hide (below_y (unhide BB) hbn)
  clear BB
  have BB := BB_
  clear BB_
  clear hbn
  have V := hide Vx
  clear Vx
  obtain ⟨wp3, hR⟩ : ∃ X, X = wp2.alloc (.cells ([.slice none 0 0, .int .i64 0] : List Value).toArray 33) := ⟨_, rfl⟩
  have Rx : HasObj wp3 wp2.heap.size 33 [.slice none 0 0, .int .i64 0] := by rw [hR]; exact HasObj.new _ _ _
  have hbn : Below wp2.heap.size wp2 wp3 := by rw [hR]; exact (Below.refl _ _).alloc (Nat.le_refl _) _
  have neAR : w.heap.size ≠ wp2.heap.size := Nat.ne_of_lt (unhide A).lt
  have neVR : wp1.heap.size ≠ wp2.heap.size := Nat.ne_of_lt (unhide V).lt
  have loR : w.heap.size ≤ wp2.heap.size := (unhide BB).size
  have ER := hR.symm
  clear hR
  have A_ := hide ((unhide A).ups hbn)
  clear A
  have A := A_
  clear A_
  have V_ := hide ((unhide V).ups hbn)
  clear V
  have V := V_
  clear V_
  have S0_ := hide ((unhide S0).up hbn)
  clear S0
  have S0 := S0_
  clear S0_
  have OB_ := hide ((unhide OB).up hbn)
  clear OB
  have OB := OB_
  clear OB_
  have sz3 := hide (hbn.size)
  have BB_ := hide (below_y (unhide BB) hbn)
  clear BB
  have BB := BB_
  clear BB_
  clear hbn
  have R := hide Rx
  clear Rx
  have Ac0_1 := (unhide A).cell 0 rfl
  have Ac1_1 := (unhide A).cell 1 rfl
  go_enter Try.func10, Try.ntmps10
  go_wp2_with fail
  clear Ac0_1 Ac1_1 EA EV ER
  have LO : Hid (w.heap.size ≤ wp3.heap.size) := (unhide BB).size
  refine (l09Copy_any s _ _ _ (unhide FT) (unhide S0)).mono ?_
  rintro e wp4 ⟨v9, rfl, oS, hb⟩
  obtain ⟨L, hL, oL⟩ := oS
  obtain ⟨a1, c1, rfl⟩ := g_shape oL.row
  obtain ⟨n, hn⟩ : ∃ n, n = s.boxes.length := ⟨_, rfl⟩
  have hn1 : L.length = n := by rw [hn, ← hL, List.length_map]
  rw [← hn] at hnl
  have OR_ : Hid (wp4.ownsRow w.heap.size 39 7 (.slice a1 n c1) n (rowC lbC L)) := by have h9 := (oL.based (unhide LO)).row; unfold OwnBr at h9; rw [hn1] at h9; exact h9
  have EB_ : Hid (EachB w.heap.size wp4 L) := (oL.based (unhide LO)).each
  have VNE_ : Hid (∀ g, a1 = some ⟨g, 0, none⟩ → g ≠ wp1.heap.size) := fun g hg => by have q1_ := (World.ownsRow.lt oL.row g (by rw [hg]; rfl)).1; have q2_ := (unhide V).lt; omega
  rw [hn1]
  have HL := hide hL
  have HN := hide hn
  have HN1 := hide hn1
  clear oL hL hn hn1 S0
  have A_ := hide ((unhide A).ups hb)
  clear A
  have A := A_
  clear A_
  have V_ := hide ((unhide V).ups hb)
  clear V
  have V := V_
  clear V_
  have R_ := hide ((unhide R).ups hb)
  clear R
  have R := R_
  clear R_
  have OB_ := hide ((unhide OB).up hb)
  clear OB
  have OB := OB_
  clear OB_
  have sz4 := hide (hb.size)
  have BB_ := hide (below_y (unhide BB) hb)
  clear BB
  have BB := BB_
  clear BB_
  clear hb
  have ORW := OR_
  have EB := EB_
  have VNE := VNE_
  clear OR_ EB_ VNE_
  obtain ⟨wp5, hO⟩ : ∃ X, X = wp4.alloc (.cells ([.slice a1 n c1, .int .i64 s.valid] : List Value).toArray 33) := ⟨_, rfl⟩
  have Ox : HasObj wp5 wp4.heap.size 33 [.slice a1 n c1, .int .i64 s.valid] := by rw [hO]; exact HasObj.new _ _ _
  have hbn : Below wp4.heap.size wp4 wp5 := by rw [hO]; exact (Below.refl _ _).alloc (Nat.le_refl _) _
  have neAO : w.heap.size ≠ wp4.heap.size := Nat.ne_of_lt (unhide A).lt
  have neVO : wp1.heap.size ≠ wp4.heap.size := Nat.ne_of_lt (unhide V).lt
  have neRO : wp2.heap.size ≠ wp4.heap.size := Nat.ne_of_lt (unhide R).lt
  have loO : w.heap.size ≤ wp4.heap.size := (unhide BB).size
  have EO := hO.symm
  clear hO
  have A_ := hide ((unhide A).ups hbn)
  clear A
  have A := A_
  clear A_
  have V_ := hide ((unhide V).ups hbn)
  clear V
  have V := V_
  clear V_
  have R_ := hide ((unhide R).ups hbn)
  clear R
  have R := R_
  clear R_
  have OB_ := hide ((unhide OB).up hbn)
  clear OB
  have OB := OB_
  clear OB_
  have EB_ := hide ((unhide EB).up hbn)
  clear EB
  have EB := EB_
  clear EB_
  have sz5 := hide (hbn.size)
  have BB_ := hide (below_y (unhide BB) hbn)
  clear BB
  have BB := BB_
  clear BB_
  clear hbn
  have O := hide Ox
  clear Ox
  have ORW_ : Hid ((wp4.alloc (.cells ([.slice a1 n c1, .int .i64 s.valid] : List Value).toArray 33)).ownsRow w.heap.size 39 7 (.slice a1 n c1) n (rowC lbC L)) := g_stays (unhide ORW) ((Below.refl wp4.heap.size wp4).alloc (Nat.le_refl _) _)
  clear ORW
  have ORW := ORW_
  clear ORW_
  rw [EO] at ORW
  go_wp2
  clear EO
  go_loopw [6] (fun i wr => ∃ k : Nat, k ≤ n ∧ i = .int .i64 k ∧ (∀ y ∈ s.boxes.take k, sameN b.name y = false) ∧ HasObj wr (wp1.heap.size) 39 [.string b.name, .int .i64 b.valid, .int .i64 b.next, .int .i64 b.mod, .slice am b.mails.length cm, .slice at1 b.tombs.length ct1, .int .i64 b.hor] ∧ HasObj wr (wp2.heap.size) 33 [.slice none 0 0, .int .i64 0] ∧ HasObj wr (wp4.heap.size) 33 [.slice a1 n c1, .int .i64 s.valid] ∧ wr.ownsRow w.heap.size 39 7 (.slice a1 n c1) n (rowC lbC L) ∧ EachB w.heap.size wr L ∧ OwnBx B2 wr (.slice am b.mails.length cm) (.slice at1 b.tombs.length ct1) b ∧ Below w.heap.size w wr) (fun i _ => n - (intOf i).toNat)
  case atStart => exact ⟨0, Nat.zero_le _, rfl, by simp, unhide V, unhide R, unhide O, unhide ORW, unhide EB, unhide OB, unhide BB⟩
  clear V R O ORW EB OB BB
  case round =>
    obtain ⟨k, hk, rfl, hno, oV, oR, oO, orow, oe, obx, hbel⟩ := hrel
    obtain ⟨wo, hwo⟩ : ∃ wo, wo = wr := ⟨_, rfl⟩
    subst hwo
    have HNO := hide hno
    clear hno
    by_cases hlt : k < n
    · have hkl : k < L.length := by rw [unhide HN1]; exact hlt
      have hx : L[k]? = some L[k] := List.getElem?_eq_getElem hkl
      have hbx : s.boxes[k]? = some L[k].b := by rw [← unhide HL, List.getElem?_map, hx]; rfl
      have hrw : OwnBr w.heap.size wo (.slice a1 n c1) L := by unfold OwnBr; rw [unhide HN1]; exact orow
      obtain ⟨g1, q1, e3, _, _, _⟩ := br_read hrw hx
      have e5 := (Value.slice.inj e3).1
      clear e3 hrw
      subst e5
      generalize L[k] = x at *
      have V := hide oV
      have R := hide oR
      have O := hide oO
      have ORW := hide orow
      have EB := hide oe
      have OB := hide obx
      have BB := hide hbel
      have X1 := hide hx
      have XB := hide hbx
      clear oV oR oO orow oe obx hbel hx hbx
      have i1 : (0 : Int) ≤ (k : Int) := by omega
      have i2 : (k : Int) < (n : Int) := by omega
      have Oc0_2 := (unhide O).cell 0 rfl
      have Oc1_2 := (unhide O).cell 1 rfl
      have Vc0_3 := (unhide V).cell 0 rfl
      have Vc1_3 := (unhide V).cell 1 rfl
      have Vc2_3 := (unhide V).cell 2 rfl
      have Vc3_3 := (unhide V).cell 3 rfl
      have Vc4_3 := (unhide V).cell 4 rfl
      have Vc5_3 := (unhide V).cell 5 rfl
      have Vc6_3 := (unhide V).cell 6 rfl
      go_wp2
      clear Oc0_2 Oc1_2 Vc0_3 Vc1_3 Vc2_3 Vc3_3 Vc4_3 Vc5_3 Vc6_3
      cases hd : (x.b.name.toList == b.name.toList) with
      | false =>
        refine wp_region_held_drew (S := fun w' => w'.cell? ⟨wp4.heap.size, 0, none⟩ = some (.slice (some ⟨g1, 0, none⟩) n c1) ∧ w'.cell? ⟨wp1.heap.size, 0, none⟩ = some (.string b.name) ∧ w'.cell? ⟨g1, k * 7, none⟩ = some (.string x.b.name)) (by kernel_rfl) (⟨(unhide O).cell 0 rfl, (unhide V).cell 0 rfl, (br_cells (unhide ORW) (unhide X1) hlt).1⟩) (fun hHeld => ?_)
        have ORW_ : Hid (wo.drew.ownsRow w.heap.size 39 7 (.slice (some ⟨g1, 0, none⟩) n c1) n (rowC lbC L)) := unhide ORW
        clear ORW
        have ORW := ORW_
        clear ORW_
        have V_ := hide ((unhide V).drew)
        clear V
        have V := V_
        clear V_
        have R_ := hide ((unhide R).drew)
        clear R
        have R := R_
        clear R_
        have O_ := hide ((unhide O).drew)
        clear O
        have O := O_
        clear O_
        have OB_ := hide ((unhide OB).drew)
        clear OB
        have OB := OB_
        clear OB_
        have EB_ := hide ((unhide EB).drew)
        clear EB
        have EB := EB_
        clear EB_
        have BB_ := hide ((unhide BB).drew)
        clear BB
        have BB := BB_
        clear BB_
        have sz101 : Hid (wo.heap.size ≤ wo.drew.heap.size) := Nat.le_refl _
        refine takeVal 0 (some 16) ?_ rfl (by kernel_rfl) (by kernel_rfl) (by kernel_rfl) rfl (fun _ _ _ h => h) (by rfl) (by assumption) ?_ ?_
        rotate_left
        · (intro w hSw; (try dsimp only at hSw); go_simp <;> with_reducible rfl)
        simp only [Act.put, List.setIfInBounds_toArray, List.set_cons_zero, List.set_cons_succ]
        refine takeVal 1 (some 17) ?_ rfl (by kernel_rfl) (by kernel_rfl) (by kernel_rfl) rfl (fun _ _ _ h => h) (by rfl) (by assumption) ?_ ?_
        rotate_left
        · (intro w hSw; (try dsimp only at hSw); go_simp <;> with_reducible rfl)
        simp only [Act.put, List.setIfInBounds_toArray, List.set_cons_zero, List.set_cons_succ]
        refine takeVal 2 (some 18) ?_ rfl (by kernel_rfl) (by kernel_rfl) (by kernel_rfl) rfl (fun _ _ _ h => h) (by rfl) (by assumption) ?_ ?_
        rotate_left
        · (intro w hSw; (try dsimp only at hSw); go_simp <;> with_reducible rfl)
        simp only [Act.put, List.setIfInBounds_toArray, List.set_cons_zero, List.set_cons_succ]
        refine takeVal 3 (some 19) ?_ rfl (by kernel_rfl) (by kernel_rfl) (by kernel_rfl) rfl (fun _ _ _ h => h) (by rfl) (by assumption) ?_ ?_
        rotate_left
        · (intro w hSw; (try dsimp only at hSw); go_simp <;> with_reducible rfl)
        simp only [Act.put, List.setIfInBounds_toArray, List.set_cons_zero, List.set_cons_succ]
        refine takeVal 4 (some 20) ?_ rfl (by kernel_rfl) (by kernel_rfl) (by kernel_rfl) rfl (fun _ _ _ h => h) (by rfl) (by assumption) ?_ ?_
        rotate_left
        · (intro w hSw; (try dsimp only at hSw); go_simp <;> with_reducible rfl)
        simp only [Act.put, List.setIfInBounds_toArray, List.set_cons_zero, List.set_cons_succ]
        refine takeVal 5 (some 21) ?_ rfl (by kernel_rfl) (by kernel_rfl) (by kernel_rfl) rfl (fun _ _ _ h => h) (by rfl) (by assumption) ?_ ?_
        rotate_left
        · (intro w hSw; (try dsimp only at hSw); go_simp <;> with_reducible rfl)
        simp only [Act.put, List.setIfInBounds_toArray, List.set_cons_zero, List.set_cons_succ]
        refine takeVal 6 (some 22) ?_ rfl (by kernel_rfl) (by kernel_rfl) (by kernel_rfl) rfl (fun _ _ _ h => h) (by rfl) (by assumption) ?_ ?_
        rotate_left
        · (intro w hSw; (try dsimp only at hSw); go_simp <;> with_reducible rfl)
        simp only [Act.put, List.setIfInBounds_toArray, List.set_cons_zero, List.set_cons_succ]
        refine takeVal 7 (some 23) ?_ rfl (by kernel_rfl) (by kernel_rfl) (by kernel_rfl) rfl (fun _ _ _ h => h) (by rfl) (by assumption) ?_ ?_
        rotate_left
        · (intro w hSw; (try dsimp only at hSw); go_simp <;> with_reducible rfl)
        simp only [Act.put, List.setIfInBounds_toArray, List.set_cons_zero, List.set_cons_succ]
        refine takeVal 8 (some 24) ?_ rfl (by kernel_rfl) (by kernel_rfl) (by kernel_rfl) rfl (fun _ _ _ h => h) (by rfl) (by assumption) ?_ ?_
        rotate_left
        · (intro w hSw; (try dsimp only at hSw); go_simp <;> with_reducible rfl)
        simp only [Act.put, List.setIfInBounds_toArray, List.set_cons_zero, List.set_cons_succ]
        refine wpAnyH_done (by kernel_rfl) ?_ _
        have NX := hide (none_more (unhide XB) hd (unhide HNO))
        go_wp2
        go_roundw
        case rel => exact ⟨k + 1, by omega, by go_num, unhide NX, unhide V, unhide R, unhide O, unhide ORW, unhide EB, unhide OB, unhide BB⟩
        case measure => simp [intOf]; omega
      | true =>
        refine wp_region_held_drew (S := fun w' => w'.cell? ⟨wp4.heap.size, 0, none⟩ = some (.slice (some ⟨g1, 0, none⟩) n c1) ∧ w'.cell? ⟨wp1.heap.size, 0, none⟩ = some (.string b.name) ∧ w'.cell? ⟨g1, k * 7, none⟩ = some (.string x.b.name)) (by kernel_rfl) (⟨(unhide O).cell 0 rfl, (unhide V).cell 0 rfl, (br_cells (unhide ORW) (unhide X1) hlt).1⟩) (fun hHeld => ?_)
        have ORW_ : Hid (wo.drew.ownsRow w.heap.size 39 7 (.slice (some ⟨g1, 0, none⟩) n c1) n (rowC lbC L)) := unhide ORW
        clear ORW
        have ORW := ORW_
        clear ORW_
        have V_ := hide ((unhide V).drew)
        clear V
        have V := V_
        clear V_
        have R_ := hide ((unhide R).drew)
        clear R
        have R := R_
        clear R_
        have O_ := hide ((unhide O).drew)
        clear O
        have O := O_
        clear O_
        have OB_ := hide ((unhide OB).drew)
        clear OB
        have OB := OB_
        clear OB_
        have EB_ := hide ((unhide EB).drew)
        clear EB
        have EB := EB_
        clear EB_
        have BB_ := hide ((unhide BB).drew)
        clear BB
        have BB := BB_
        clear BB_
        have sz101 : Hid (wo.heap.size ≤ wo.drew.heap.size) := Nat.le_refl _
        refine takeVal 0 (some 16) ?_ rfl (by kernel_rfl) (by kernel_rfl) (by kernel_rfl) rfl (fun _ _ _ h => h) (by rfl) (by assumption) ?_ ?_
        rotate_left
        · (intro w hSw; (try dsimp only at hSw); go_simp <;> with_reducible rfl)
        simp only [Act.put, List.setIfInBounds_toArray, List.set_cons_zero, List.set_cons_succ]
        refine takeVal 1 (some 17) ?_ rfl (by kernel_rfl) (by kernel_rfl) (by kernel_rfl) rfl (fun _ _ _ h => h) (by rfl) (by assumption) ?_ ?_
        rotate_left
        · (intro w hSw; (try dsimp only at hSw); go_simp <;> with_reducible rfl)
        simp only [Act.put, List.setIfInBounds_toArray, List.set_cons_zero, List.set_cons_succ]
        refine takeVal 2 (some 18) ?_ rfl (by kernel_rfl) (by kernel_rfl) (by kernel_rfl) rfl (fun _ _ _ h => h) (by rfl) (by assumption) ?_ ?_
        rotate_left
        · (intro w hSw; (try dsimp only at hSw); go_simp <;> with_reducible rfl)
        simp only [Act.put, List.setIfInBounds_toArray, List.set_cons_zero, List.set_cons_succ]
        refine takeVal 3 (some 19) ?_ rfl (by kernel_rfl) (by kernel_rfl) (by kernel_rfl) rfl (fun _ _ _ h => h) (by rfl) (by assumption) ?_ ?_
        rotate_left
        · (intro w hSw; (try dsimp only at hSw); go_simp <;> with_reducible rfl)
        simp only [Act.put, List.setIfInBounds_toArray, List.set_cons_zero, List.set_cons_succ]
        refine takeVal 4 (some 20) ?_ rfl (by kernel_rfl) (by kernel_rfl) (by kernel_rfl) rfl (fun _ _ _ h => h) (by rfl) (by assumption) ?_ ?_
        rotate_left
        · (intro w hSw; (try dsimp only at hSw); go_simp <;> with_reducible rfl)
        simp only [Act.put, List.setIfInBounds_toArray, List.set_cons_zero, List.set_cons_succ]
        refine takeVal 5 (some 21) ?_ rfl (by kernel_rfl) (by kernel_rfl) (by kernel_rfl) rfl (fun _ _ _ h => h) (by rfl) (by assumption) ?_ ?_
        rotate_left
        · (intro w hSw; (try dsimp only at hSw); go_simp <;> with_reducible rfl)
        simp only [Act.put, List.setIfInBounds_toArray, List.set_cons_zero, List.set_cons_succ]
        refine takeVal 6 (some 22) ?_ rfl (by kernel_rfl) (by kernel_rfl) (by kernel_rfl) rfl (fun _ _ _ h => h) (by rfl) (by assumption) ?_ ?_
        rotate_left
        · (intro w hSw; (try dsimp only at hSw); go_simp <;> with_reducible rfl)
        simp only [Act.put, List.setIfInBounds_toArray, List.set_cons_zero, List.set_cons_succ]
        refine takeVal 7 (some 23) ?_ rfl (by kernel_rfl) (by kernel_rfl) (by kernel_rfl) rfl (fun _ _ _ h => h) (by rfl) (by assumption) ?_ ?_
        rotate_left
        · (intro w hSw; (try dsimp only at hSw); go_simp <;> with_reducible rfl)
        simp only [Act.put, List.setIfInBounds_toArray, List.set_cons_zero, List.set_cons_succ]
        refine takeVal 8 (some 24) ?_ rfl (by kernel_rfl) (by kernel_rfl) (by kernel_rfl) rfl (fun _ _ _ h => h) (by rfl) (by assumption) ?_ ?_
        rotate_left
        · (intro w hSw; (try dsimp only at hSw); go_simp <;> with_reducible rfl)
        simp only [Act.put, List.setIfInBounds_toArray, List.set_cons_zero, List.set_cons_succ]
        refine wpAnyH_done (by kernel_rfl) ?_ _
        have ANS : Hid (putX b s.boxes = s.boxes.set k b) := putX_at (unhide XB) hd (unhide HNO)
        clear hd
        have Oc0_4 := (unhide O).cell 0 rfl
        have Oc1_4 := (unhide O).cell 1 rfl
        have Vc0_5 := (unhide V).cell 0 rfl
        have Vc1_5 := (unhide V).cell 1 rfl
        have Vc2_5 := (unhide V).cell 2 rfl
        have Vc3_5 := (unhide V).cell 3 rfl
        have Vc4_5 := (unhide V).cell 4 rfl
        have Vc5_5 := (unhide V).cell 5 rfl
        have Vc6_5 := (unhide V).cell 6 rfl
        go_wp2
        clear Oc0_4 Oc1_4 Vc0_5 Vc1_5 Vc2_5 Vc3_5 Vc4_5 Vc5_5 Vc6_5
        refine lateBegin (S := fun w' => w'.cell? ⟨wp4.heap.size, 0, none⟩ = some (.slice (some ⟨g1, 0, none⟩) n c1) ∧ w'.cell? ⟨wp1.heap.size, 0, none⟩ = some (.string b.name) ∧ w'.cell? ⟨wp1.heap.size, 1, none⟩ = some (.int .i64 b.valid) ∧ w'.cell? ⟨wp1.heap.size, 2, none⟩ = some (.int .i64 b.next) ∧ w'.cell? ⟨wp1.heap.size, 3, none⟩ = some (.int .i64 b.mod) ∧ w'.cell? ⟨wp1.heap.size, 4, none⟩ = some (.slice am b.mails.length cm) ∧ w'.cell? ⟨wp1.heap.size, 5, none⟩ = some (.slice at1 b.tombs.length ct1) ∧ w'.cell? ⟨wp1.heap.size, 6, none⟩ = some (.int .i64 b.hor)) 6 (by kernel_rfl) (⟨(unhide O).cell 0 rfl, (unhide V).cell 0 rfl, (unhide V).cell 1 rfl, (unhide V).cell 2 rfl, (unhide V).cell 3 rfl, (unhide V).cell 4 rfl, (unhide V).cell 5 rfl, (unhide V).cell 6 rfl⟩) (fun hHeld => ?_)
        have ORW_ : Hid (wo.drew.drew.ownsRow w.heap.size 39 7 (.slice (some ⟨g1, 0, none⟩) n c1) n (rowC lbC L)) := unhide ORW
        clear ORW
        have ORW := ORW_
        clear ORW_
        have V_ := hide ((unhide V).drew)
        clear V
        have V := V_
        clear V_
        have R_ := hide ((unhide R).drew)
        clear R
        have R := R_
        clear R_
        have O_ := hide ((unhide O).drew)
        clear O
        have O := O_
        clear O_
        have OB_ := hide ((unhide OB).drew)
        clear OB
        have OB := OB_
        clear OB_
        have EB_ := hide ((unhide EB).drew)
        clear EB
        have EB := EB_
        clear EB_
        have BB_ := hide ((unhide BB).drew)
        clear BB
        have BB := BB_
        clear BB_
        have sz102 : Hid (wo.drew.heap.size ≤ wo.drew.drew.heap.size) := Nat.le_refl _
        refine lateTake 0 (some 25) ?_ rfl (by kernel_rfl) (by kernel_rfl) (by kernel_rfl) (by kernel_rfl) rfl (fun _ _ _ h => h) (by rfl) (by assumption) ?_ ?_
        rotate_left
        · (intro w hSw; (try dsimp only at hSw); go_simp <;> with_reducible rfl)
        simp only [Act.put, List.setIfInBounds_toArray, List.set_cons_zero, List.set_cons_succ]
        refine lateTake 1 (some 26) ?_ rfl (by kernel_rfl) (by kernel_rfl) (by kernel_rfl) (by kernel_rfl) rfl (fun _ _ _ h => h) (by rfl) (by assumption) ?_ ?_
        rotate_left
        · (intro w hSw; (try dsimp only at hSw); go_simp <;> with_reducible rfl)
        simp only [Act.put, List.setIfInBounds_toArray, List.set_cons_zero, List.set_cons_succ]
        refine lateTake 2 (some 27) ?_ rfl (by kernel_rfl) (by kernel_rfl) (by kernel_rfl) (by kernel_rfl) rfl (fun _ _ _ h => h) (by rfl) (by assumption) ?_ ?_
        rotate_left
        · (intro w hSw; (try dsimp only at hSw); go_simp <;> with_reducible rfl)
        simp only [Act.put, List.setIfInBounds_toArray, List.set_cons_zero, List.set_cons_succ]
        refine lateTake 3 (some 28) ?_ rfl (by kernel_rfl) (by kernel_rfl) (by kernel_rfl) (by kernel_rfl) rfl (fun _ _ _ h => h) (by rfl) (by assumption) ?_ ?_
        rotate_left
        · (intro w hSw; (try dsimp only at hSw); go_simp <;> with_reducible rfl)
        simp only [Act.put, List.setIfInBounds_toArray, List.set_cons_zero, List.set_cons_succ]
        refine lateStep 4 (by kernel_rfl) rfl (by rfl) (fun K hK => ?_)
        have LO2 : w.heap.size ≤ wo.drew.drew.heap.size := (unhide BB).size
        go_simp
        refine (l08Copy_any b _ _ B2 _ (Nat.le_trans (unhide FB).mails (by decide)) (Nat.le_trans (unhide FB).tombs (by decide)) (unhide OB)).mono ?_
        rintro e wpy1 ⟨mC, tC, rfl, oC, hb⟩
        obtain ⟨amC, cmC, rfl⟩ := g_shape oC.1
        obtain ⟨atC, ctC, rfl⟩ := g_shape oC.2
        have OC_ := hide (oC.based LO2)
        clear oC
        have ORW_ : Hid (wpy1.ownsRow w.heap.size 39 7 (.slice (some ⟨g1, 0, none⟩) n c1) n (rowC lbC L)) := g_stays (unhide ORW) hb
        clear ORW
        have ORW := ORW_
        clear ORW_
        have V_ := hide ((unhide V).ups hb)
        clear V
        have V := V_
        clear V_
        have R_ := hide ((unhide R).ups hb)
        clear R
        have R := R_
        clear R_
        have O_ := hide ((unhide O).ups hb)
        clear O
        have O := O_
        clear O_
        have OB_ := hide ((unhide OB).up hb)
        clear OB
        have OB := OB_
        clear OB_
        have EB_ := hide ((unhide EB).up hb)
        clear EB
        have EB := EB_
        clear EB_
        have sz103 := hide (hb.size)
        have BB_ := hide (below_y (unhide BB) hb)
        clear BB
        have BB := BB_
        clear BB_
        clear hb
        have OC := OC_
        clear OC_
        go_wp2_with fail
        refine hK.out _ _ (⟨(unhide O).cell 0 rfl, (unhide V).cell 0 rfl, (unhide V).cell 1 rfl, (unhide V).cell 2 rfl, (unhide V).cell 3 rfl, (unhide V).cell 4 rfl, (unhide V).cell 5 rfl, (unhide V).cell 6 rfl⟩) (fun hHeld2 => ?_)
        clear hK K hHeld
        have hHeld := hHeld2; clear hHeld2
        try simp only [Act.put, List.setIfInBounds_toArray, List.set_cons_zero, List.set_cons_succ]
        refine lateTake 5 (some 30) ?_ rfl (by kernel_rfl) (by kernel_rfl) (by kernel_rfl) (by kernel_rfl) rfl (fun _ _ _ h => h) (by rfl) (by assumption) ?_ ?_
        rotate_left
        · (intro w hSw; (try dsimp only at hSw); go_simp <;> with_reducible rfl)
        simp only [Act.put, List.setIfInBounds_toArray, List.set_cons_zero, List.set_cons_succ]
        obtain ⟨d0, d1, d2, d3, d4, d5, d6⟩ := br_cells (unhide ORW) (unhide X1) hlt
        have f0 := World.ownsRow.frozenAt (unhide ORW) (k * 7)
        have f1 := World.ownsRow.frozenAt (unhide ORW) (k * 7 + 1)
        have f2 := World.ownsRow.frozenAt (unhide ORW) (k * 7 + 2)
        have f3 := World.ownsRow.frozenAt (unhide ORW) (k * 7 + 3)
        have f4 := World.ownsRow.frozenAt (unhide ORW) (k * 7 + 4)
        have f5 := World.ownsRow.frozenAt (unhide ORW) (k * 7 + 5)
        have f6 := World.ownsRow.frozenAt (unhide ORW) (k * 7 + 6)
        have ST := hide (br_store (unhide ORW) (unhide X1) (⟨b, .slice amC b.mails.length cmC, .slice atC b.tombs.length ctC⟩ : Lb))
        refine lateLast 6 (by decide) (by kernel_rfl) rfl (by rfl) (fun K hK => ?_)
        go_simp
        refine hK.out _ _ ?_
        clear hK K hHeld
        try simp only [Act.put, List.setIfInBounds_toArray, List.set_cons_zero, List.set_cons_succ]
        obtain ⟨wpy2, hU⟩ : ∃ X, X = (((((((wpy1.setCell ⟨g1, k * 7, none⟩ (.string b.name)).setCell ⟨g1, k * 7 + 1, none⟩ (.int .i64 b.valid)).setCell ⟨g1, k * 7 + 2, none⟩ (.int .i64 b.next)).setCell ⟨g1, k * 7 + 3, none⟩ (.int .i64 b.mod)).setCell ⟨g1, k * 7 + 4, none⟩ (.slice amC b.mails.length cmC)).setCell ⟨g1, k * 7 + 5, none⟩ (.slice atC b.tombs.length ctC)).setCell ⟨g1, k * 7 + 6, none⟩ (.int .i64 b.hor)) := ⟨_, rfl⟩
        have ST2 := unhide ST
        simp only at ST2
        rw [← hU] at ST2 ⊢
        obtain ⟨st1, hg⟩ := ST2
        clear ST hU d0 d1 d2 d3 d4 d5 d6 f0 f1 f2 f3 f4 f5 f6
        have R_ := hide ((unhide R).kept hg (fun e => (unhide R).not_row (by decide) (unhide ORW) e.symm))
        have O_ := hide ((unhide O).kept hg (fun e => (unhide O).not_row (by decide) (unhide ORW) e.symm))
        have EB_ : Hid (EachB w.heap.size wpy2 L) := (unhide EB).aside (unhide ORW) hg (by decide) (by decide)
        have OC_ : Hid (OwnBx w.heap.size wpy2 (.slice amC b.mails.length cmC) (.slice atC b.tombs.length ctC) b) := ⟨g_aside (unhide OC).1 hg (fun q hq => rows_apart (unhide ORW) (unhide OC).1 (by decide) q hq), g_aside (unhide OC).2 hg (fun q hq => rows_apart (unhide ORW) (unhide OC).2 (by decide) q hq)⟩
        have BB_ : Hid (Below w.heap.size w wpy2) := (unhide BB).grown hg (unhide BB).size (fun q hq => (World.ownsRow.lt (unhide ORW) q hq).1)
        have OZ := hide st1
        clear st1 hg ORW EB OC R O BB V OB
        have R := R_
        have O := O_
        have EB := EB_
        have OC := OC_
        have BB := BB_
        clear R_ O_ EB_ OC_ BB_
        refine lateDone (by kernel_rfl) ?_ _
        have Oc0_6 := (unhide O).cell 0 rfl
        have Oc1_6 := (unhide O).cell 1 rfl
        have Rf0 := (unhide R).frozen 0
        have Rf1 := (unhide R).frozen 1
        have Re0 := (unhide R).cell 0 rfl
        have Re1 := (unhide R).cell 1 rfl
        have F := hide (fill2 (unhide R) (.slice (some ⟨g1, 0, none⟩) n c1) (.int .i64 s.valid))
        obtain ⟨U, hU⟩ : ∃ U, U = ((wpy2.setCell ⟨wp2.heap.size, 0, none⟩ (.slice (some ⟨g1, 0, none⟩) n c1)).setCell ⟨wp2.heap.size, 1, none⟩ (.int .i64 s.valid)) := ⟨_, rfl⟩
        have F9 := unhide F
        rw [← hU] at F9
        have EU := hU.symm
        clear F hU
        have v0 := F9.obj.cell 0 rfl
        have v1 := F9.obj.cell 1 rfl
        have F := hide F9
        clear F9
        go_wp2_with (refine bodyPost_ret (by simp [results, Try.results10, go_sem, v0, v1]; try rfl) rfl ?_)
        clear EU
        have F := unhide F
        rw [unhide ANS]
        refine ⟨_, rfl, ⟨L.set k (⟨b, .slice amC b.mails.length cmC, .slice atC b.tombs.length ctC⟩ : Lb), ?_, ⟨?_, fun z hz => ?_⟩⟩, F.below loR (unhide BB)⟩
        · rw [List.map_set, unhide HL]
        · unfold OwnBr; rw [List.length_set, unhide HN1]; exact F.row (by decide) (unhide OZ)
        · rcases List.mem_or_eq_of_mem_set hz with h1 | h1
          · exact ⟨F.row (by decide) ((unhide EB) z h1).1, F.row (by decide) ((unhide EB) z h1).2⟩
          · subst h1; exact ⟨F.row (by decide) (unhide OC).1, F.row (by decide) (unhide OC).2⟩
    · obtain rfl : k = n := by omega
      have R := hide oR
      have O := hide oO
      have ORW := hide orow
      have EB := hide oe
      have BB := hide hbel
      clear oV oR oO orow oe obx hbel hlt hk
      have ANS : Hid (putX b s.boxes = s.boxes) := putX_no (by have h9 := unhide HNO; rw [List.take_of_length_le (by have := unhide HN; omega)] at h9; exact h9)
      have Oc0_2 := (unhide O).cell 0 rfl
      have Oc1_2 := (unhide O).cell 1 rfl
      have Rf0 := (unhide R).frozen 0
      have Rf1 := (unhide R).frozen 1
      have Re0 := (unhide R).cell 0 rfl
      have Re1 := (unhide R).cell 1 rfl
      have F := hide (fill2 (unhide R) (.slice a1 k c1) (.int .i64 s.valid))
      obtain ⟨U, hU⟩ : ∃ U, U = ((wo.setCell ⟨wp2.heap.size, 0, none⟩ (.slice a1 k c1)).setCell ⟨wp2.heap.size, 1, none⟩ (.int .i64 s.valid)) := ⟨_, rfl⟩
      have F9 := unhide F
      rw [← hU] at F9
      have EU := hU.symm
      clear F hU
      have v0 := F9.obj.cell 0 rfl
      have v1 := F9.obj.cell 1 rfl
      have F := hide F9
      clear F9
      go_wp2_with (refine bodyPost_ret (by simp [results, Try.results10, go_sem, v0, v1]; try rfl) rfl ?_)
      clear EU
      have F := unhide F
      rw [unhide ANS]
      refine ⟨_, rfl, ⟨L, unhide HL, ⟨?_, fun z hz => ⟨F.row (by decide) ((unhide EB) z hz).1, F.row (by decide) ((unhide EB) z hz).2⟩⟩⟩, F.below loR (unhide BB)⟩
      unfold OwnBr; rw [unhide HN1]; exact F.row (by decide) (unhide ORW)
end Go.Proofs.Ytfemplekibpfoac
