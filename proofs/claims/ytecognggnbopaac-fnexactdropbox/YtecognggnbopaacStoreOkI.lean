/- The program's StoreOk. Made by gen_stores.py. -/
import Derived.Test.YtecognggnbopaacStorePlain
import Derived.Test.YtecognggnbopaacStoreMarks
import Derived.Test.YtecognggnbopaacBoxI
import Derived.Test.YtecognggnbopaacBoxNameI
import Derived.Test.YtecognggnbopaacRegA
namespace Go.Proofs.Ytecognggnbopaac
open Go.RowKit
open Plain
set_option linter.unusedVariables false
set_option linter.unusedSimpArgs false

set_option maxHeartbeats 8000000 in
set_option maxRecDepth 100000 in
theorem impl_StoreOk_any (s : Sx) (v : Value) (B : Nat) (w : World) (hf : FitSt s) (h : ReadSt B w v s.boxes) :
    Calls Try.prog 27 #[.agg #[v, .int .i64 s.valid]] w fun e w' => e = .returned (.bool (storeOk s)) ∧ Below w.heap.size w w' := by
  obtain ⟨L, hL, h⟩ := h
  obtain ⟨a1, c1, rfl⟩ := g_shape h.row
  obtain ⟨n, hn⟩ : ∃ n, n = s.boxes.length := ⟨_, rfl⟩
  have hn1 : L.length = n := by rw [hn, ← hL, List.length_map]
  have hnl := hf.len
  rw [← hn] at hnl
  have S1 := hide h
  rw [hn1] at S1 ⊢
  have FE := hide hf.each
  have HL := hide hL
  have HN := hide hn
  have HN1 := hide hn1
  clear h hL hn hn1 hf
  have b1 : ∀ t a b, binOp .geq t (.string a) (.string b) = pure (.bool (!ltB a b)) := fun t a b => by simp [binOp, Op.stringOp, ltB]
  have b2 : ∀ t a b, binOp .leq t (.string a) (.string b) = pure (.bool (!ltB b a)) := fun t a b => by simp [binOp, Op.stringOp, leB]
  have BB := hide (Below.refl w.heap.size w)
  obtain ⟨wi1, hA⟩ : ∃ X, X = w.alloc (.cells ([.slice a1 n c1, .int .i64 s.valid] : List Value).toArray 28) := ⟨_, rfl⟩
  have Ax : HasObj wi1 w.heap.size 28 [.slice a1 n c1, .int .i64 s.valid] := by rw [hA]; exact HasObj.new _ _ _
  have hbn : Below w.heap.size w wi1 := by rw [hA]; exact (Below.refl _ _).alloc (Nat.le_refl _) _
  have loA : w.heap.size ≤ w.heap.size := (unhide BB).size
  have EA := hA.symm
  clear hA
  have S1_ := hide ((unhide S1).up hbn)
  clear S1
  have S1 := S1_
  clear S1_
  have sz1 := hide (hbn.size)
  have BB_ := hide (below_y (unhide BB) hbn)
  clear BB
  have BB := BB_
  clear BB_
  clear hbn
  have A := hide Ax
  clear Ax
  have Ac0_1 := (unhide A).cell 0 rfl
  have Ac1_1 := (unhide A).cell 1 rfl
  go_enter Try.func27, Try.ntmps27
  cases hi1 : inI (n : Int) 1 4 with
  | false =>
    have Ac0_2 := (unhide A).cell 0 rfl
    have Ac1_2 := (unhide A).cell 1 rfl
    have HV : Hid (storeOk s = false) := by show _ = _; unfold storeOk; rw [← unhide HN, hi1, Bool.and_false, Bool.false_and]
    go_wp2_with fail
    clear Ac0_1 Ac1_1 Ac0_2 Ac1_2 EA
    refine (impl_within_any (n : Int) 1 4 _).mono ?_
    rintro e w5 ⟨rfl, hw⟩
    subst w5
    rw [hi1]
    go_wp2
    go_ret
    exact ⟨by rw [unhide HV]; rfl, unhide BB⟩
  | true =>
    go_wp2_with fail
    clear Ac0_1 Ac1_1 EA
    refine (impl_within_any (n : Int) 1 4 _).mono ?_
    rintro e w5 ⟨rfl, hw⟩
    subst w5
    rw [hi1]
    have Ac0_2 := (unhide A).cell 0 rfl
    have Ac1_2 := (unhide A).cell 1 rfl
    cases hi2 : inI s.valid 2 9999 with
    | false =>
      have HV : Hid (storeOk s = false) := by show _ = _; unfold storeOk; rw [hi2, Bool.and_false]
      go_wp2_with fail
      clear Ac0_2 Ac1_2
      refine (impl_within_any s.valid 2 9999 _).mono ?_
      rintro e w5 ⟨rfl, hw⟩
      subst w5
      rw [hi2]
      go_wp2
      go_ret
      exact ⟨by rw [unhide HV]; rfl, unhide BB⟩
    | true =>
      go_wp2_with fail
      clear Ac0_2 Ac1_2
      refine (impl_within_any s.valid 2 9999 _).mono ?_
      rintro e w5 ⟨rfl, hw⟩
      subst w5
      rw [hi2]
      have Ac0_3 := (unhide A).cell 0 rfl
      have Ac1_3 := (unhide A).cell 1 rfl
      have HI1 := hide hi1
      have HI2 := hide hi2
      clear hi1 hi2
      go_wp2
      clear Ac0_3 Ac1_3
      go_loopw [19] (fun i wr => ∃ k : Nat, k ≤ n ∧ i = .int .i64 k ∧ HasObj wr (w.heap.size) 28 [.slice a1 n c1, .int .i64 s.valid] ∧ OwnBs B wr (.slice a1 n c1) L ∧ okTo s k = true ∧ Below w.heap.size w wr) (fun i _ => n - (intOf i).toNat)
      case atStart => exact ⟨0, Nat.zero_le _, rfl, unhide A, unhide S1, okTo_zero s, unhide BB⟩
      clear S1 BB A
      case round =>
        obtain ⟨k, hk, rfl, oA, o1, hok, hbel⟩ := hrel
        obtain ⟨wo, hwo⟩ : ∃ wo, wo = wr := ⟨_, rfl⟩
        subst hwo
        have OKK := hide hok
        clear hok
        by_cases hlt : k < n
        · have hkl : k < L.length := by rw [unhide HN1]; exact hlt
          have hx : L[k]? = some L[k] := List.getElem?_eq_getElem hkl
          have hbx : s.boxes[k]? = some L[k].b := by rw [← unhide HL, List.getElem?_map, hx]; rfl
          have hmx := List.getElem_mem hkl
          have hfx := unhide FE _ (List.mem_of_getElem? hbx)
          obtain ⟨g1, q1, e3, _, _, _⟩ := br_read o1.row hx
          have e5 := (Value.slice.inj e3).1
          clear e3
          subst e5
          generalize L[k] = x at *
          obtain ⟨b, m, t⟩ := x
          simp only at hbx hfx
          obtain ⟨am, cm, ee1⟩ := g_shape (o1.each _ hmx).1
          obtain ⟨at1, ct1, ee2⟩ := g_shape (o1.each _ hmx).2
          simp only at ee1 ee2
          subst ee1 ee2
          have A := hide oA
          clear oA
          have S1 := hide o1
          have BB := hide hbel
          have X1 := hide hx
          have XB := hide hbx
          have M1 := hide hmx
          have FX := hide hfx
          clear o1 hbel hx hbx hmx hfx
          have i1 : (0 : Int) ≤ (k : Int) := by omega
          have i2 : (k : Int) < (n : Int) := by omega
          have ec0_4 := (br_of (unhide S1).row (unhide X1)).1
          simp only at ec0_4
          have ec1_4 := (br_of (unhide S1).row (unhide X1)).2.1
          simp only at ec1_4
          have ec2_4 := (br_of (unhide S1).row (unhide X1)).2.2.1
          simp only at ec2_4
          have ec3_4 := (br_of (unhide S1).row (unhide X1)).2.2.2.1
          simp only at ec3_4
          have ec4_4 := (br_of (unhide S1).row (unhide X1)).2.2.2.2.1
          simp only at ec4_4
          have ec5_4 := (br_of (unhide S1).row (unhide X1)).2.2.2.2.2.1
          simp only at ec5_4
          have ec6_4 := (br_of (unhide S1).row (unhide X1)).2.2.2.2.2.2
          simp only at ec6_4
          obtain ⟨wir1, hV⟩ : ∃ X, X = wo.alloc (.cells ([.string b.name, .int .i64 b.valid, .int .i64 b.next, .int .i64 b.mod, .slice am b.mails.length cm, .slice at1 b.tombs.length ct1, .int .i64 b.hor] : List Value).toArray 53) := ⟨_, rfl⟩
          have Vx : HasObj wir1 wo.heap.size 53 [.string b.name, .int .i64 b.valid, .int .i64 b.next, .int .i64 b.mod, .slice am b.mails.length cm, .slice at1 b.tombs.length ct1, .int .i64 b.hor] := by rw [hV]; exact HasObj.new _ _ _
          have hbn : Below wo.heap.size wo wir1 := by rw [hV]; exact (Below.refl _ _).alloc (Nat.le_refl _) _
          have neAV : w.heap.size ≠ wo.heap.size := Nat.ne_of_lt (unhide A).lt
          have loV : w.heap.size ≤ wo.heap.size := (unhide BB).size
          have EV := hV.symm
          clear hV
          have A_ := hide ((unhide A).ups hbn)
          clear A
          have A := A_
          clear A_
          have S1_ := hide ((unhide S1).up hbn)
          clear S1
          have S1 := S1_
          clear S1_
          have sz101 := hide (hbn.size)
          have BB_ := hide (below_y (unhide BB) hbn)
          clear BB
          have BB := BB_
          clear BB_
          clear hbn
          have V := hide Vx
          clear Vx
          cases hbo : boxOk b with
          | false =>
            have HV : Hid (storeOk s = false) := storeOk_no (k := k) (by rw [← unhide HN]; exact hlt) (okB_box (unhide XB) hbo)
            have Ac0_5 := (unhide A).cell 0 rfl
            have Ac1_5 := (unhide A).cell 1 rfl
            have Vc0_6 := (unhide V).cell 0 rfl
            have Vc1_6 := (unhide V).cell 1 rfl
            have Vc2_6 := (unhide V).cell 2 rfl
            have Vc3_6 := (unhide V).cell 3 rfl
            have Vc4_6 := (unhide V).cell 4 rfl
            have Vc5_6 := (unhide V).cell 5 rfl
            have Vc6_6 := (unhide V).cell 6 rfl
            go_wp2
            clear ec0_4 ec1_4 ec2_4 ec3_4 ec4_4 ec5_4 ec6_4 Ac0_5 Ac1_5 Vc0_6 Vc1_6 Vc2_6 Vc3_6 Vc4_6 Vc5_6 Vc6_6 EV
            refine wp_region_held_drew (S := fun w' => w'.cell? ⟨w.heap.size, 0, none⟩ = some (.slice (some ⟨g1, 0, none⟩) n c1) ∧ w'.cell? ⟨w.heap.size, 1, none⟩ = some (.int .i64 s.valid) ∧ w'.cell? ⟨wo.heap.size, 0, none⟩ = some (.string b.name) ∧ w'.cell? ⟨wo.heap.size, 1, none⟩ = some (.int .i64 b.valid) ∧ w'.cell? ⟨wo.heap.size, 2, none⟩ = some (.int .i64 b.next) ∧ w'.cell? ⟨wo.heap.size, 3, none⟩ = some (.int .i64 b.mod) ∧ w'.cell? ⟨wo.heap.size, 4, none⟩ = some (.slice am b.mails.length cm) ∧ w'.cell? ⟨wo.heap.size, 5, none⟩ = some (.slice at1 b.tombs.length ct1) ∧ w'.cell? ⟨wo.heap.size, 6, none⟩ = some (.int .i64 b.hor)) (by kernel_rfl) (⟨(unhide A).cell 0 rfl, (unhide A).cell 1 rfl, (unhide V).cell 0 rfl, (unhide V).cell 1 rfl, (unhide V).cell 2 rfl, (unhide V).cell 3 rfl, (unhide V).cell 4 rfl, (unhide V).cell 5 rfl, (unhide V).cell 6 rfl⟩) (fun hHeld => ?_)
            have A_ := hide ((unhide A).drew)
            clear A
            have A := A_
            clear A_
            have V_ := hide ((unhide V).drew)
            clear V
            have V := V_
            clear V_
            have S1_ := hide ((unhide S1).drew)
            clear S1
            have S1 := S1_
            clear S1_
            have BB_ := hide ((unhide BB).drew)
            clear BB
            have BB := BB_
            clear BB_
            have sz102 : Hid (wir1.heap.size ≤ wir1.drew.heap.size) := Nat.le_refl _
            refine takeVal 0 (some 24) ?_ rfl (by kernel_rfl) (by kernel_rfl) (by kernel_rfl) rfl (fun _ _ _ h => h) (by rfl) (by assumption) ?_ ?_
            rotate_left
            · (intro w hSw; (try dsimp only at hSw); go_simp <;> with_reducible rfl)
            simp only [Act.put, List.setIfInBounds_toArray, List.set_cons_zero, List.set_cons_succ]
            refine wpAnyH_ready (rs := [1]) (by kernel_rfl) (by simp) ?_
            refine AllReadyH.cons rfl (fun K hK => ?_) AllReadyH.nil
            go_simp
            refine (impl_BoxOk_any b _ _ B _ (unhide FX) ((unhide S1).each _ (unhide M1))).mono ?_
            rintro e wira2 ⟨rfl, hb⟩
            rw [hbo]
            have A_ := hide ((unhide A).ups hb)
            clear A
            have A := A_
            clear A_
            have V_ := hide ((unhide V).ups hb)
            clear V
            have V := V_
            clear V_
            have S1_ := hide ((unhide S1).up hb)
            clear S1
            have S1 := S1_
            clear S1_
            have sz103 := hide (hb.size)
            have BB_ := hide (below_y (unhide BB) hb)
            clear BB
            have BB := BB_
            clear BB_
            clear hb
            go_wp2_with fail
            refine hK.out _ _ (⟨(unhide A).cell 0 rfl, (unhide A).cell 1 rfl, (unhide V).cell 0 rfl, (unhide V).cell 1 rfl, (unhide V).cell 2 rfl, (unhide V).cell 3 rfl, (unhide V).cell 4 rfl, (unhide V).cell 5 rfl, (unhide V).cell 6 rfl⟩) (fun hHeld2 => ?_)
            clear hK K hHeld
            have hHeld := hHeld2; clear hHeld2
            try simp only [Act.put, List.setIfInBounds_toArray, List.set_cons_zero, List.set_cons_succ]
            refine takeVal 2 (some 26) ?_ rfl (by kernel_rfl) (by kernel_rfl) (by kernel_rfl) rfl (fun _ _ _ h => h) (by rfl) (by assumption) ?_ ?_
            rotate_left
            · (intro w hSw; (try dsimp only at hSw); go_simp <;> with_reducible rfl)
            simp only [Act.put, List.setIfInBounds_toArray, List.set_cons_zero, List.set_cons_succ]
            refine takeVal 3 (some 27) ?_ rfl (by kernel_rfl) (by kernel_rfl) (by kernel_rfl) rfl (fun _ _ _ h => h) (by rfl) (by assumption) ?_ ?_
            rotate_left
            · (intro w hSw; (try dsimp only at hSw); go_simp <;> with_reducible rfl)
            simp only [Act.put, List.setIfInBounds_toArray, List.set_cons_zero, List.set_cons_succ]
            refine takeSkip 4 (some 28) rfl (by kernel_rfl) (by kernel_rfl) (by kernel_rfl) rfl (fun _ _ _ h => h) (by rfl) (by assumption) ?_
            simp only [Act.put, List.setIfInBounds_toArray, List.set_cons_zero, List.set_cons_succ]
            refine takeSkip 5 (some 29) rfl (by kernel_rfl) (by kernel_rfl) (by kernel_rfl) rfl (fun _ _ _ h => h) (by rfl) (by assumption) ?_
            simp only [Act.put, List.setIfInBounds_toArray, List.set_cons_zero, List.set_cons_succ]
            refine takeSkip 6 (some 30) rfl (by kernel_rfl) (by kernel_rfl) (by kernel_rfl) rfl (fun _ _ _ h => h) (by rfl) (by assumption) ?_
            simp only [Act.put, List.setIfInBounds_toArray, List.set_cons_zero, List.set_cons_succ]
            refine takeSkip 7 (some 31) rfl (by kernel_rfl) (by kernel_rfl) (by kernel_rfl) rfl (fun _ _ _ h => h) (by rfl) (by assumption) ?_
            simp only [Act.put, List.setIfInBounds_toArray, List.set_cons_zero, List.set_cons_succ]
            refine takeSkip 8 (some 32) rfl (by kernel_rfl) (by kernel_rfl) (by kernel_rfl) rfl (fun _ _ _ h => h) (by rfl) (by assumption) ?_
            simp only [Act.put, List.setIfInBounds_toArray, List.set_cons_zero, List.set_cons_succ]
            refine takeVal 9 (some 33) ?_ rfl (by kernel_rfl) (by kernel_rfl) (by kernel_rfl) rfl (fun _ _ _ h => h) (by rfl) (by assumption) ?_ ?_
            rotate_left
            · (intro w hSw; (try dsimp only at hSw); go_simp <;> with_reducible rfl)
            simp only [Act.put, List.setIfInBounds_toArray, List.set_cons_zero, List.set_cons_succ]
            refine takeVal 10 (some 34) ?_ rfl (by kernel_rfl) (by kernel_rfl) (by kernel_rfl) rfl (fun _ _ _ h => h) (by rfl) (by assumption) ?_ ?_
            rotate_left
            · (intro w hSw; (try dsimp only at hSw); go_simp <;> with_reducible rfl)
            simp only [Act.put, List.setIfInBounds_toArray, List.set_cons_zero, List.set_cons_succ]
            refine takeSkip 11 (some 35) rfl (by kernel_rfl) (by kernel_rfl) (by kernel_rfl) rfl (fun _ _ _ h => h) (by rfl) (by assumption) ?_
            simp only [Act.put, List.setIfInBounds_toArray, List.set_cons_zero, List.set_cons_succ]
            refine takeSkip 12 (some 36) rfl (by kernel_rfl) (by kernel_rfl) (by kernel_rfl) rfl (fun _ _ _ h => h) (by rfl) (by assumption) ?_
            simp only [Act.put, List.setIfInBounds_toArray, List.set_cons_zero, List.set_cons_succ]
            refine takeSkip 13 (some 37) rfl (by kernel_rfl) (by kernel_rfl) (by kernel_rfl) rfl (fun _ _ _ h => h) (by rfl) (by assumption) ?_
            simp only [Act.put, List.setIfInBounds_toArray, List.set_cons_zero, List.set_cons_succ]
            refine takeSkip 14 (some 38) rfl (by kernel_rfl) (by kernel_rfl) (by kernel_rfl) rfl (fun _ _ _ h => h) (by rfl) (by assumption) ?_
            simp only [Act.put, List.setIfInBounds_toArray, List.set_cons_zero, List.set_cons_succ]
            refine takeSkip 15 (some 39) rfl (by kernel_rfl) (by kernel_rfl) (by kernel_rfl) rfl (fun _ _ _ h => h) (by rfl) (by assumption) ?_
            simp only [Act.put, List.setIfInBounds_toArray, List.set_cons_zero, List.set_cons_succ]
            refine takeSkip 16 (some 40) rfl (by kernel_rfl) (by kernel_rfl) (by kernel_rfl) rfl (fun _ _ _ h => h) (by rfl) (by assumption) ?_
            simp only [Act.put, List.setIfInBounds_toArray, List.set_cons_zero, List.set_cons_succ]
            refine takeSkip 17 (some 41) rfl (by kernel_rfl) (by kernel_rfl) (by kernel_rfl) rfl (fun _ _ _ h => h) (by rfl) (by assumption) ?_
            simp only [Act.put, List.setIfInBounds_toArray, List.set_cons_zero, List.set_cons_succ]
            refine takeSkip 18 (some 42) rfl (by kernel_rfl) (by kernel_rfl) (by kernel_rfl) rfl (fun _ _ _ h => h) (by rfl) (by assumption) ?_
            simp only [Act.put, List.setIfInBounds_toArray, List.set_cons_zero, List.set_cons_succ]
            refine takeSkip 19 (some 43) rfl (by kernel_rfl) (by kernel_rfl) (by kernel_rfl) rfl (fun _ _ _ h => h) (by rfl) (by assumption) ?_
            simp only [Act.put, List.setIfInBounds_toArray, List.set_cons_zero, List.set_cons_succ]
            refine takeSkip 20 (some 44) rfl (by kernel_rfl) (by kernel_rfl) (by kernel_rfl) rfl (fun _ _ _ h => h) (by rfl) (by assumption) ?_
            simp only [Act.put, List.setIfInBounds_toArray, List.set_cons_zero, List.set_cons_succ]
            refine takeSkip 21 (some 45) rfl (by kernel_rfl) (by kernel_rfl) (by kernel_rfl) rfl (fun _ _ _ h => h) (by rfl) (by assumption) ?_
            simp only [Act.put, List.setIfInBounds_toArray, List.set_cons_zero, List.set_cons_succ]
            refine takeSkip 22 (some 46) rfl (by kernel_rfl) (by kernel_rfl) (by kernel_rfl) rfl (fun _ _ _ h => h) (by rfl) (by assumption) ?_
            simp only [Act.put, List.setIfInBounds_toArray, List.set_cons_zero, List.set_cons_succ]
            refine takeSkip 23 (some 47) rfl (by kernel_rfl) (by kernel_rfl) (by kernel_rfl) rfl (fun _ _ _ h => h) (by rfl) (by assumption) ?_
            simp only [Act.put, List.setIfInBounds_toArray, List.set_cons_zero, List.set_cons_succ]
            refine takeSkip 24 (some 48) rfl (by kernel_rfl) (by kernel_rfl) (by kernel_rfl) rfl (fun _ _ _ h => h) (by rfl) (by assumption) ?_
            simp only [Act.put, List.setIfInBounds_toArray, List.set_cons_zero, List.set_cons_succ]
            refine takeVal 25 (some 49) ?_ rfl (by kernel_rfl) (by kernel_rfl) (by kernel_rfl) rfl (fun _ _ _ h => h) (by rfl) (by assumption) ?_ ?_
            rotate_left
            · (intro w hSw; (try dsimp only at hSw); go_simp <;> with_reducible rfl)
            simp only [Act.put, List.setIfInBounds_toArray, List.set_cons_zero, List.set_cons_succ]
            refine wpAnyH_done (by kernel_rfl) ?_ _
            go_wp2
            go_ret
            exact ⟨by rw [unhide HV]; rfl, unhide BB⟩
          | true =>
            by_cases hv : b.valid < s.valid
            · have dv : decide (s.valid ≤ b.valid) = false := decide_eq_false (by omega)
              by_cases hz : k = 0
              · have OKB : Hid (okB s k = true) := by have xb := unhide XB; subst hz; show _ = _; rw [okB_first xb, hbo, decide_eq_true hv]; rfl
                have n2 : decide (0 < k) = false := decide_eq_false (by omega)
                clear hv hz
                have Ac0_5 := (unhide A).cell 0 rfl
                have Ac1_5 := (unhide A).cell 1 rfl
                have Vc0_6 := (unhide V).cell 0 rfl
                have Vc1_6 := (unhide V).cell 1 rfl
                have Vc2_6 := (unhide V).cell 2 rfl
                have Vc3_6 := (unhide V).cell 3 rfl
                have Vc4_6 := (unhide V).cell 4 rfl
                have Vc5_6 := (unhide V).cell 5 rfl
                have Vc6_6 := (unhide V).cell 6 rfl
                go_wp2
                clear ec0_4 ec1_4 ec2_4 ec3_4 ec4_4 ec5_4 ec6_4 Ac0_5 Ac1_5 Vc0_6 Vc1_6 Vc2_6 Vc3_6 Vc4_6 Vc5_6 Vc6_6 EV
                refine wp_region_held_drew (S := fun w' => w'.cell? ⟨w.heap.size, 0, none⟩ = some (.slice (some ⟨g1, 0, none⟩) n c1) ∧ w'.cell? ⟨w.heap.size, 1, none⟩ = some (.int .i64 s.valid) ∧ w'.cell? ⟨wo.heap.size, 0, none⟩ = some (.string b.name) ∧ w'.cell? ⟨wo.heap.size, 1, none⟩ = some (.int .i64 b.valid) ∧ w'.cell? ⟨wo.heap.size, 2, none⟩ = some (.int .i64 b.next) ∧ w'.cell? ⟨wo.heap.size, 3, none⟩ = some (.int .i64 b.mod) ∧ w'.cell? ⟨wo.heap.size, 4, none⟩ = some (.slice am b.mails.length cm) ∧ w'.cell? ⟨wo.heap.size, 5, none⟩ = some (.slice at1 b.tombs.length ct1) ∧ w'.cell? ⟨wo.heap.size, 6, none⟩ = some (.int .i64 b.hor)) (by kernel_rfl) (⟨(unhide A).cell 0 rfl, (unhide A).cell 1 rfl, (unhide V).cell 0 rfl, (unhide V).cell 1 rfl, (unhide V).cell 2 rfl, (unhide V).cell 3 rfl, (unhide V).cell 4 rfl, (unhide V).cell 5 rfl, (unhide V).cell 6 rfl⟩) (fun hHeld => ?_)
                have A_ := hide ((unhide A).drew)
                clear A
                have A := A_
                clear A_
                have V_ := hide ((unhide V).drew)
                clear V
                have V := V_
                clear V_
                have S1_ := hide ((unhide S1).drew)
                clear S1
                have S1 := S1_
                clear S1_
                have BB_ := hide ((unhide BB).drew)
                clear BB
                have BB := BB_
                clear BB_
                have sz102 : Hid (wir1.heap.size ≤ wir1.drew.heap.size) := Nat.le_refl _
                refine takeVal 0 (some 24) ?_ rfl (by kernel_rfl) (by kernel_rfl) (by kernel_rfl) rfl (fun _ _ _ h => h) (by rfl) (by assumption) ?_ ?_
                rotate_left
                · (intro w hSw; (try dsimp only at hSw); go_simp <;> with_reducible rfl)
                simp only [Act.put, List.setIfInBounds_toArray, List.set_cons_zero, List.set_cons_succ]
                refine wpAnyH_ready (rs := [1]) (by kernel_rfl) (by simp) ?_
                refine AllReadyH.cons rfl (fun K hK => ?_) AllReadyH.nil
                go_simp
                refine (impl_BoxOk_any b _ _ B _ (unhide FX) ((unhide S1).each _ (unhide M1))).mono ?_
                rintro e wirvz2 ⟨rfl, hb⟩
                rw [hbo]
                have A_ := hide ((unhide A).ups hb)
                clear A
                have A := A_
                clear A_
                have V_ := hide ((unhide V).ups hb)
                clear V
                have V := V_
                clear V_
                have S1_ := hide ((unhide S1).up hb)
                clear S1
                have S1 := S1_
                clear S1_
                have sz103 := hide (hb.size)
                have BB_ := hide (below_y (unhide BB) hb)
                clear BB
                have BB := BB_
                clear BB_
                clear hb
                go_wp2_with fail
                refine hK.out _ _ (⟨(unhide A).cell 0 rfl, (unhide A).cell 1 rfl, (unhide V).cell 0 rfl, (unhide V).cell 1 rfl, (unhide V).cell 2 rfl, (unhide V).cell 3 rfl, (unhide V).cell 4 rfl, (unhide V).cell 5 rfl, (unhide V).cell 6 rfl⟩) (fun hHeld2 => ?_)
                clear hK K hHeld
                have hHeld := hHeld2; clear hHeld2
                try simp only [Act.put, List.setIfInBounds_toArray, List.set_cons_zero, List.set_cons_succ]
                refine takeVal 2 (some 26) ?_ rfl (by kernel_rfl) (by kernel_rfl) (by kernel_rfl) rfl (fun _ _ _ h => h) (by rfl) (by assumption) ?_ ?_
                rotate_left
                · (intro w hSw; (try dsimp only at hSw); go_simp <;> with_reducible rfl)
                simp only [Act.put, List.setIfInBounds_toArray, List.set_cons_zero, List.set_cons_succ]
                refine takeVal 3 (some 27) ?_ rfl (by kernel_rfl) (by kernel_rfl) (by kernel_rfl) rfl (fun _ _ _ h => h) (by rfl) (by assumption) ?_ ?_
                rotate_left
                · (intro w hSw; (try dsimp only at hSw); go_simp <;> with_reducible rfl)
                simp only [Act.put, List.setIfInBounds_toArray, List.set_cons_zero, List.set_cons_succ]
                refine takeVal 4 (some 28) ?_ rfl (by kernel_rfl) (by kernel_rfl) (by kernel_rfl) rfl (fun _ _ _ h => h) (by rfl) (by assumption) ?_ ?_
                rotate_left
                · (intro w hSw; (try dsimp only at hSw); go_simp <;> with_reducible rfl)
                simp only [Act.put, List.setIfInBounds_toArray, List.set_cons_zero, List.set_cons_succ]
                refine takeVal 5 (some 29) ?_ rfl (by kernel_rfl) (by kernel_rfl) (by kernel_rfl) rfl (fun _ _ _ h => h) (by rfl) (by assumption) ?_ ?_
                rotate_left
                · (intro w hSw; (try dsimp only at hSw); go_simp <;> with_reducible rfl)
                simp only [Act.put, List.setIfInBounds_toArray, List.set_cons_zero, List.set_cons_succ]
                refine takeVal 6 (some 30) ?_ rfl (by kernel_rfl) (by kernel_rfl) (by kernel_rfl) rfl (fun _ _ _ h => h) (by rfl) (by assumption) ?_ ?_
                rotate_left
                · (intro w hSw; (try dsimp only at hSw); go_simp <;> with_reducible rfl)
                simp only [Act.put, List.setIfInBounds_toArray, List.set_cons_zero, List.set_cons_succ]
                refine takeVal 7 (some 31) ?_ rfl (by kernel_rfl) (by kernel_rfl) (by kernel_rfl) rfl (fun _ _ _ h => h) (by rfl) (by assumption) ?_ ?_
                rotate_left
                · (intro w hSw; (try dsimp only at hSw); go_simp <;> with_reducible rfl)
                simp only [Act.put, List.setIfInBounds_toArray, List.set_cons_zero, List.set_cons_succ]
                refine takeVal 8 (some 32) ?_ rfl (by kernel_rfl) (by kernel_rfl) (by kernel_rfl) rfl (fun _ _ _ h => h) (by rfl) (by assumption) ?_ ?_
                rotate_left
                · (intro w hSw; (try dsimp only at hSw); go_simp <;> with_reducible rfl)
                simp only [Act.put, List.setIfInBounds_toArray, List.set_cons_zero, List.set_cons_succ]
                refine takeVal 9 (some 33) ?_ rfl (by kernel_rfl) (by kernel_rfl) (by kernel_rfl) rfl (fun _ _ _ h => h) (by rfl) (by assumption) ?_ ?_
                rotate_left
                · (intro w hSw; (try dsimp only at hSw); go_simp <;> with_reducible rfl)
                simp only [Act.put, List.setIfInBounds_toArray, List.set_cons_zero, List.set_cons_succ]
                refine takeVal 10 (some 34) ?_ rfl (by kernel_rfl) (by kernel_rfl) (by kernel_rfl) rfl (fun _ _ _ h => h) (by rfl) (by assumption) ?_ ?_
                rotate_left
                · (intro w hSw; (try dsimp only at hSw); go_simp <;> with_reducible rfl)
                simp only [Act.put, List.setIfInBounds_toArray, List.set_cons_zero, List.set_cons_succ]
                refine takeVal 11 (some 35) ?_ rfl (by kernel_rfl) (by kernel_rfl) (by kernel_rfl) rfl (fun _ _ _ h => h) (by rfl) (by assumption) ?_ ?_
                rotate_left
                · (intro w hSw; (try dsimp only at hSw); go_simp <;> with_reducible rfl)
                simp only [Act.put, List.setIfInBounds_toArray, List.set_cons_zero, List.set_cons_succ]
                refine takeVal 12 (some 36) ?_ rfl (by kernel_rfl) (by kernel_rfl) (by kernel_rfl) rfl (fun _ _ _ h => h) (by rfl) (by assumption) ?_ ?_
                rotate_left
                · (intro w hSw; (try dsimp only at hSw); go_simp <;> with_reducible rfl)
                simp only [Act.put, List.setIfInBounds_toArray, List.set_cons_zero, List.set_cons_succ]
                refine takeVal 13 (some 37) ?_ rfl (by kernel_rfl) (by kernel_rfl) (by kernel_rfl) rfl (fun _ _ _ h => h) (by rfl) (by assumption) ?_ ?_
                rotate_left
                · (intro w hSw; (try dsimp only at hSw); go_simp <;> with_reducible rfl)
                simp only [Act.put, List.setIfInBounds_toArray, List.set_cons_zero, List.set_cons_succ]
                refine takeSkip 14 (some 38) rfl (by kernel_rfl) (by kernel_rfl) (by kernel_rfl) rfl (fun _ _ _ h => h) (by rfl) (by assumption) ?_
                simp only [Act.put, List.setIfInBounds_toArray, List.set_cons_zero, List.set_cons_succ]
                refine takeSkip 15 (some 39) rfl (by kernel_rfl) (by kernel_rfl) (by kernel_rfl) rfl (fun _ _ _ h => h) (by rfl) (by assumption) ?_
                simp only [Act.put, List.setIfInBounds_toArray, List.set_cons_zero, List.set_cons_succ]
                refine takeSkip 16 (some 40) rfl (by kernel_rfl) (by kernel_rfl) (by kernel_rfl) rfl (fun _ _ _ h => h) (by rfl) (by assumption) ?_
                simp only [Act.put, List.setIfInBounds_toArray, List.set_cons_zero, List.set_cons_succ]
                refine takeSkip 17 (some 41) rfl (by kernel_rfl) (by kernel_rfl) (by kernel_rfl) rfl (fun _ _ _ h => h) (by rfl) (by assumption) ?_
                simp only [Act.put, List.setIfInBounds_toArray, List.set_cons_zero, List.set_cons_succ]
                refine takeSkip 18 (some 42) rfl (by kernel_rfl) (by kernel_rfl) (by kernel_rfl) rfl (fun _ _ _ h => h) (by rfl) (by assumption) ?_
                simp only [Act.put, List.setIfInBounds_toArray, List.set_cons_zero, List.set_cons_succ]
                refine takeSkip 19 (some 43) rfl (by kernel_rfl) (by kernel_rfl) (by kernel_rfl) rfl (fun _ _ _ h => h) (by rfl) (by assumption) ?_
                simp only [Act.put, List.setIfInBounds_toArray, List.set_cons_zero, List.set_cons_succ]
                refine takeSkip 20 (some 44) rfl (by kernel_rfl) (by kernel_rfl) (by kernel_rfl) rfl (fun _ _ _ h => h) (by rfl) (by assumption) ?_
                simp only [Act.put, List.setIfInBounds_toArray, List.set_cons_zero, List.set_cons_succ]
                refine takeSkip 21 (some 45) rfl (by kernel_rfl) (by kernel_rfl) (by kernel_rfl) rfl (fun _ _ _ h => h) (by rfl) (by assumption) ?_
                simp only [Act.put, List.setIfInBounds_toArray, List.set_cons_zero, List.set_cons_succ]
                refine takeSkip 22 (some 46) rfl (by kernel_rfl) (by kernel_rfl) (by kernel_rfl) rfl (fun _ _ _ h => h) (by rfl) (by assumption) ?_
                simp only [Act.put, List.setIfInBounds_toArray, List.set_cons_zero, List.set_cons_succ]
                refine takeSkip 23 (some 47) rfl (by kernel_rfl) (by kernel_rfl) (by kernel_rfl) rfl (fun _ _ _ h => h) (by rfl) (by assumption) ?_
                simp only [Act.put, List.setIfInBounds_toArray, List.set_cons_zero, List.set_cons_succ]
                refine takeVal 24 (some 48) ?_ rfl (by kernel_rfl) (by kernel_rfl) (by kernel_rfl) rfl (fun _ _ _ h => h) (by rfl) (by assumption) ?_ ?_
                rotate_left
                · (intro w hSw; (try dsimp only at hSw); go_simp <;> with_reducible rfl)
                simp only [Act.put, List.setIfInBounds_toArray, List.set_cons_zero, List.set_cons_succ]
                refine takeVal 25 (some 49) ?_ rfl (by kernel_rfl) (by kernel_rfl) (by kernel_rfl) rfl (fun _ _ _ h => h) (by rfl) (by assumption) ?_ ?_
                rotate_left
                · (intro w hSw; (try dsimp only at hSw); go_simp <;> with_reducible rfl)
                simp only [Act.put, List.setIfInBounds_toArray, List.set_cons_zero, List.set_cons_succ]
                refine wpAnyH_done (by kernel_rfl) ?_ _
                go_wp2
                go_roundw
                case rel => exact ⟨k + 1, by omega, by go_num, unhide A, unhide S1, by rw [okTo_succ, unhide OKK, unhide OKB]; rfl, unhide BB⟩
                case measure => simp [intOf]; omega
              · obtain ⟨j, hkj⟩ : ∃ j, k = j + 1 := ⟨k - 1, by omega⟩
                have hjl : j < L.length := by rw [unhide HN1]; omega
                have hp : L[j]? = some L[j] := List.getElem?_eq_getElem hjl
                have hbp : s.boxes[j]? = some L[j].b := by rw [← unhide HL, List.getElem?_map, hp]; rfl
                generalize L[j] = y at *
                obtain ⟨p, mp, tp⟩ := y
                simp only at hbp
                have XP := hide hp
                have BP := hide hbp
                clear hp hbp hjl
                have n1 : IntKind.i64.wrap ((k : Int) - 1) = (j : Int) := by rw [IntKind.wrap_i64]; omega
                have n2 : decide (0 < k) = true := decide_eq_true (by omega)
                have i3 : (0 : Int) ≤ (j : Int) := by omega
                have i4 : (j : Int) < (n : Int) := by omega
                have OKN := hide (show okB s k = (boxOk b && decide (b.valid < s.valid) && ltB p.name b.name) from by have xb := unhide XB; rw [hkj] at xb ⊢; exact okB_next xb (unhide BP))
                rw [hbo, decide_eq_true hv] at OKN
                clear hkj hv hz
                cases hlb : ltB p.name b.name with
                | true =>
                  rw [hlb] at OKN
                  have OKB : Hid (okB s k = true) := unhide OKN
                  clear OKN
                  have Ac0_5 := (unhide A).cell 0 rfl
                  have Ac1_5 := (unhide A).cell 1 rfl
                  have Vc0_6 := (unhide V).cell 0 rfl
                  have Vc1_6 := (unhide V).cell 1 rfl
                  have Vc2_6 := (unhide V).cell 2 rfl
                  have Vc3_6 := (unhide V).cell 3 rfl
                  have Vc4_6 := (unhide V).cell 4 rfl
                  have Vc5_6 := (unhide V).cell 5 rfl
                  have Vc6_6 := (unhide V).cell 6 rfl
                  go_wp2
                  clear ec0_4 ec1_4 ec2_4 ec3_4 ec4_4 ec5_4 ec6_4 Ac0_5 Ac1_5 Vc0_6 Vc1_6 Vc2_6 Vc3_6 Vc4_6 Vc5_6 Vc6_6 EV
                  refine wp_region_held_drew (S := fun w' => w'.cell? ⟨w.heap.size, 0, none⟩ = some (.slice (some ⟨g1, 0, none⟩) n c1) ∧ w'.cell? ⟨w.heap.size, 1, none⟩ = some (.int .i64 s.valid) ∧ w'.cell? ⟨wo.heap.size, 0, none⟩ = some (.string b.name) ∧ w'.cell? ⟨wo.heap.size, 1, none⟩ = some (.int .i64 b.valid) ∧ w'.cell? ⟨wo.heap.size, 2, none⟩ = some (.int .i64 b.next) ∧ w'.cell? ⟨wo.heap.size, 3, none⟩ = some (.int .i64 b.mod) ∧ w'.cell? ⟨wo.heap.size, 4, none⟩ = some (.slice am b.mails.length cm) ∧ w'.cell? ⟨wo.heap.size, 5, none⟩ = some (.slice at1 b.tombs.length ct1) ∧ w'.cell? ⟨wo.heap.size, 6, none⟩ = some (.int .i64 b.hor) ∧ w'.cell? ⟨g1, j * 7, none⟩ = some (.string p.name)) (by kernel_rfl) (⟨(unhide A).cell 0 rfl, (unhide A).cell 1 rfl, (unhide V).cell 0 rfl, (unhide V).cell 1 rfl, (unhide V).cell 2 rfl, (unhide V).cell 3 rfl, (unhide V).cell 4 rfl, (unhide V).cell 5 rfl, (unhide V).cell 6 rfl, (br_of (unhide S1).row (unhide XP)).1⟩) (fun hHeld => ?_)
                  have A_ := hide ((unhide A).drew)
                  clear A
                  have A := A_
                  clear A_
                  have V_ := hide ((unhide V).drew)
                  clear V
                  have V := V_
                  clear V_
                  have S1_ := hide ((unhide S1).drew)
                  clear S1
                  have S1 := S1_
                  clear S1_
                  have BB_ := hide ((unhide BB).drew)
                  clear BB
                  have BB := BB_
                  clear BB_
                  have sz102 : Hid (wir1.heap.size ≤ wir1.drew.heap.size) := Nat.le_refl _
                  refine takeVal 0 (some 24) ?_ rfl (by kernel_rfl) (by kernel_rfl) (by kernel_rfl) rfl (fun _ _ _ h => h) (by rfl) (by assumption) ?_ ?_
                  rotate_left
                  · (intro w hSw; (try dsimp only at hSw); go_simp <;> with_reducible rfl)
                  simp only [Act.put, List.setIfInBounds_toArray, List.set_cons_zero, List.set_cons_succ]
                  refine wpAnyH_ready (rs := [1]) (by kernel_rfl) (by simp) ?_
                  refine AllReadyH.cons rfl (fun K hK => ?_) AllReadyH.nil
                  go_simp
                  refine (impl_BoxOk_any b _ _ B _ (unhide FX) ((unhide S1).each _ (unhide M1))).mono ?_
                  rintro e wirvst2 ⟨rfl, hb⟩
                  rw [hbo]
                  have A_ := hide ((unhide A).ups hb)
                  clear A
                  have A := A_
                  clear A_
                  have V_ := hide ((unhide V).ups hb)
                  clear V
                  have V := V_
                  clear V_
                  have S1_ := hide ((unhide S1).up hb)
                  clear S1
                  have S1 := S1_
                  clear S1_
                  have sz103 := hide (hb.size)
                  have BB_ := hide (below_y (unhide BB) hb)
                  clear BB
                  have BB := BB_
                  clear BB_
                  clear hb
                  go_wp2_with fail
                  refine hK.out _ _ (⟨(unhide A).cell 0 rfl, (unhide A).cell 1 rfl, (unhide V).cell 0 rfl, (unhide V).cell 1 rfl, (unhide V).cell 2 rfl, (unhide V).cell 3 rfl, (unhide V).cell 4 rfl, (unhide V).cell 5 rfl, (unhide V).cell 6 rfl, (br_of (unhide S1).row (unhide XP)).1⟩) (fun hHeld2 => ?_)
                  clear hK K hHeld
                  have hHeld := hHeld2; clear hHeld2
                  try simp only [Act.put, List.setIfInBounds_toArray, List.set_cons_zero, List.set_cons_succ]
                  refine takeVal 2 (some 26) ?_ rfl (by kernel_rfl) (by kernel_rfl) (by kernel_rfl) rfl (fun _ _ _ h => h) (by rfl) (by assumption) ?_ ?_
                  rotate_left
                  · (intro w hSw; (try dsimp only at hSw); go_simp <;> with_reducible rfl)
                  simp only [Act.put, List.setIfInBounds_toArray, List.set_cons_zero, List.set_cons_succ]
                  refine takeVal 3 (some 27) ?_ rfl (by kernel_rfl) (by kernel_rfl) (by kernel_rfl) rfl (fun _ _ _ h => h) (by rfl) (by assumption) ?_ ?_
                  rotate_left
                  · (intro w hSw; (try dsimp only at hSw); go_simp <;> with_reducible rfl)
                  simp only [Act.put, List.setIfInBounds_toArray, List.set_cons_zero, List.set_cons_succ]
                  refine takeVal 4 (some 28) ?_ rfl (by kernel_rfl) (by kernel_rfl) (by kernel_rfl) rfl (fun _ _ _ h => h) (by rfl) (by assumption) ?_ ?_
                  rotate_left
                  · (intro w hSw; (try dsimp only at hSw); go_simp <;> with_reducible rfl)
                  simp only [Act.put, List.setIfInBounds_toArray, List.set_cons_zero, List.set_cons_succ]
                  refine takeVal 5 (some 29) ?_ rfl (by kernel_rfl) (by kernel_rfl) (by kernel_rfl) rfl (fun _ _ _ h => h) (by rfl) (by assumption) ?_ ?_
                  rotate_left
                  · (intro w hSw; (try dsimp only at hSw); go_simp <;> with_reducible rfl)
                  simp only [Act.put, List.setIfInBounds_toArray, List.set_cons_zero, List.set_cons_succ]
                  refine takeVal 6 (some 30) ?_ rfl (by kernel_rfl) (by kernel_rfl) (by kernel_rfl) rfl (fun _ _ _ h => h) (by rfl) (by assumption) ?_ ?_
                  rotate_left
                  · (intro w hSw; (try dsimp only at hSw); go_simp <;> with_reducible rfl)
                  simp only [Act.put, List.setIfInBounds_toArray, List.set_cons_zero, List.set_cons_succ]
                  refine takeVal 7 (some 31) ?_ rfl (by kernel_rfl) (by kernel_rfl) (by kernel_rfl) rfl (fun _ _ _ h => h) (by rfl) (by assumption) ?_ ?_
                  rotate_left
                  · (intro w hSw; (try dsimp only at hSw); go_simp <;> with_reducible rfl)
                  simp only [Act.put, List.setIfInBounds_toArray, List.set_cons_zero, List.set_cons_succ]
                  refine takeVal 8 (some 32) ?_ rfl (by kernel_rfl) (by kernel_rfl) (by kernel_rfl) rfl (fun _ _ _ h => h) (by rfl) (by assumption) ?_ ?_
                  rotate_left
                  · (intro w hSw; (try dsimp only at hSw); go_simp <;> with_reducible rfl)
                  simp only [Act.put, List.setIfInBounds_toArray, List.set_cons_zero, List.set_cons_succ]
                  refine takeVal 9 (some 33) ?_ rfl (by kernel_rfl) (by kernel_rfl) (by kernel_rfl) rfl (fun _ _ _ h => h) (by rfl) (by assumption) ?_ ?_
                  rotate_left
                  · (intro w hSw; (try dsimp only at hSw); go_simp <;> with_reducible rfl)
                  simp only [Act.put, List.setIfInBounds_toArray, List.set_cons_zero, List.set_cons_succ]
                  refine takeVal 10 (some 34) ?_ rfl (by kernel_rfl) (by kernel_rfl) (by kernel_rfl) rfl (fun _ _ _ h => h) (by rfl) (by assumption) ?_ ?_
                  rotate_left
                  · (intro w hSw; (try dsimp only at hSw); go_simp <;> with_reducible rfl)
                  simp only [Act.put, List.setIfInBounds_toArray, List.set_cons_zero, List.set_cons_succ]
                  refine takeVal 11 (some 35) ?_ rfl (by kernel_rfl) (by kernel_rfl) (by kernel_rfl) rfl (fun _ _ _ h => h) (by rfl) (by assumption) ?_ ?_
                  rotate_left
                  · (intro w hSw; (try dsimp only at hSw); go_simp <;> with_reducible rfl)
                  simp only [Act.put, List.setIfInBounds_toArray, List.set_cons_zero, List.set_cons_succ]
                  refine takeVal 12 (some 36) ?_ rfl (by kernel_rfl) (by kernel_rfl) (by kernel_rfl) rfl (fun _ _ _ h => h) (by rfl) (by assumption) ?_ ?_
                  rotate_left
                  · (intro w hSw; (try dsimp only at hSw); go_simp <;> with_reducible rfl)
                  simp only [Act.put, List.setIfInBounds_toArray, List.set_cons_zero, List.set_cons_succ]
                  refine takeVal 13 (some 37) ?_ rfl (by kernel_rfl) (by kernel_rfl) (by kernel_rfl) rfl (fun _ _ _ h => h) (by rfl) (by assumption) ?_ ?_
                  rotate_left
                  · (intro w hSw; (try dsimp only at hSw); go_simp <;> with_reducible rfl)
                  simp only [Act.put, List.setIfInBounds_toArray, List.set_cons_zero, List.set_cons_succ]
                  refine takeVal 14 (some 38) ?_ rfl (by kernel_rfl) (by kernel_rfl) (by kernel_rfl) rfl (fun _ _ _ h => h) (by rfl) (by assumption) ?_ ?_
                  rotate_left
                  · (intro w hSw; (try dsimp only at hSw); go_simp <;> with_reducible rfl)
                  simp only [Act.put, List.setIfInBounds_toArray, List.set_cons_zero, List.set_cons_succ]
                  refine takeVal 15 (some 39) ?_ rfl (by kernel_rfl) (by kernel_rfl) (by kernel_rfl) rfl (fun _ _ _ h => h) (by rfl) (by assumption) ?_ ?_
                  rotate_left
                  · (intro w hSw; (try dsimp only at hSw); go_simp <;> with_reducible rfl)
                  simp only [Act.put, List.setIfInBounds_toArray, List.set_cons_zero, List.set_cons_succ]
                  refine takeVal 16 (some 40) ?_ rfl (by kernel_rfl) (by kernel_rfl) (by kernel_rfl) rfl (fun _ _ _ h => h) (by rfl) (by assumption) ?_ ?_
                  rotate_left
                  · (intro w hSw; (try dsimp only at hSw); go_simp <;> with_reducible rfl)
                  simp only [Act.put, List.setIfInBounds_toArray, List.set_cons_zero, List.set_cons_succ]
                  refine takeVal 17 (some 41) ?_ rfl (by kernel_rfl) (by kernel_rfl) (by kernel_rfl) rfl (fun _ _ _ h => h) (by rfl) (by assumption) ?_ ?_
                  rotate_left
                  · (intro w hSw; (try dsimp only at hSw); go_simp <;> with_reducible rfl)
                  simp only [Act.put, List.setIfInBounds_toArray, List.set_cons_zero, List.set_cons_succ]
                  refine takeVal 18 (some 42) ?_ rfl (by kernel_rfl) (by kernel_rfl) (by kernel_rfl) rfl (fun _ _ _ h => h) (by rfl) (by assumption) ?_ ?_
                  rotate_left
                  · (intro w hSw; (try dsimp only at hSw); go_simp <;> with_reducible rfl)
                  simp only [Act.put, List.setIfInBounds_toArray, List.set_cons_zero, List.set_cons_succ]
                  refine takeVal 19 (some 43) ?_ rfl (by kernel_rfl) (by kernel_rfl) (by kernel_rfl) rfl (fun _ _ _ h => h) (by rfl) (by assumption) ?_ ?_
                  rotate_left
                  · (intro w hSw; (try dsimp only at hSw); go_simp <;> with_reducible rfl)
                  simp only [Act.put, List.setIfInBounds_toArray, List.set_cons_zero, List.set_cons_succ]
                  refine takeVal 20 (some 44) ?_ rfl (by kernel_rfl) (by kernel_rfl) (by kernel_rfl) rfl (fun _ _ _ h => h) (by rfl) (by assumption) ?_ ?_
                  rotate_left
                  · (intro w hSw; (try dsimp only at hSw); go_simp <;> with_reducible rfl)
                  simp only [Act.put, List.setIfInBounds_toArray, List.set_cons_zero, List.set_cons_succ]
                  refine takeVal 21 (some 45) ?_ rfl (by kernel_rfl) (by kernel_rfl) (by kernel_rfl) rfl (fun _ _ _ h => h) (by rfl) (by assumption) ?_ ?_
                  rotate_left
                  · (intro w hSw; (try dsimp only at hSw); go_simp <;> with_reducible rfl)
                  simp only [Act.put, List.setIfInBounds_toArray, List.set_cons_zero, List.set_cons_succ]
                  refine takeVal 22 (some 46) ?_ rfl (by kernel_rfl) (by kernel_rfl) (by kernel_rfl) rfl (fun _ _ _ h => h) (by rfl) (by assumption) ?_ ?_
                  rotate_left
                  · (intro w hSw; (try dsimp only at hSw); go_simp <;> with_reducible rfl)
                  simp only [Act.put, List.setIfInBounds_toArray, List.set_cons_zero, List.set_cons_succ]
                  refine takeVal 23 (some 47) ?_ rfl (by kernel_rfl) (by kernel_rfl) (by kernel_rfl) rfl (fun _ _ _ h => h) (by rfl) (by assumption) ?_ ?_
                  rotate_left
                  · (intro w hSw; (try dsimp only at hSw); go_simp <;> with_reducible rfl)
                  simp only [Act.put, List.setIfInBounds_toArray, List.set_cons_zero, List.set_cons_succ]
                  refine takeVal 24 (some 48) ?_ rfl (by kernel_rfl) (by kernel_rfl) (by kernel_rfl) rfl (fun _ _ _ h => h) (by rfl) (by assumption) ?_ ?_
                  rotate_left
                  · (intro w hSw; (try dsimp only at hSw); go_simp <;> with_reducible rfl)
                  simp only [Act.put, List.setIfInBounds_toArray, List.set_cons_zero, List.set_cons_succ]
                  refine takeVal 25 (some 49) ?_ rfl (by kernel_rfl) (by kernel_rfl) (by kernel_rfl) rfl (fun _ _ _ h => h) (by rfl) (by assumption) ?_ ?_
                  rotate_left
                  · (intro w hSw; (try dsimp only at hSw); go_simp <;> with_reducible rfl)
                  simp only [Act.put, List.setIfInBounds_toArray, List.set_cons_zero, List.set_cons_succ]
                  refine wpAnyH_done (by kernel_rfl) ?_ _
                  go_wp2
                  go_roundw
                  case rel => exact ⟨k + 1, by omega, by go_num, unhide A, unhide S1, by rw [okTo_succ, unhide OKK, unhide OKB]; rfl, unhide BB⟩
                  case measure => simp [intOf]; omega
                | false =>
                  rw [hlb] at OKN
                  have HV : Hid (storeOk s = false) := storeOk_no (k := k) (by rw [← unhide HN]; exact hlt) (unhide OKN)
                  clear OKN
                  have Ac0_5 := (unhide A).cell 0 rfl
                  have Ac1_5 := (unhide A).cell 1 rfl
                  have Vc0_6 := (unhide V).cell 0 rfl
                  have Vc1_6 := (unhide V).cell 1 rfl
                  have Vc2_6 := (unhide V).cell 2 rfl
                  have Vc3_6 := (unhide V).cell 3 rfl
                  have Vc4_6 := (unhide V).cell 4 rfl
                  have Vc5_6 := (unhide V).cell 5 rfl
                  have Vc6_6 := (unhide V).cell 6 rfl
                  go_wp2
                  clear ec0_4 ec1_4 ec2_4 ec3_4 ec4_4 ec5_4 ec6_4 Ac0_5 Ac1_5 Vc0_6 Vc1_6 Vc2_6 Vc3_6 Vc4_6 Vc5_6 Vc6_6 EV
                  refine wp_region_held_drew (S := fun w' => w'.cell? ⟨w.heap.size, 0, none⟩ = some (.slice (some ⟨g1, 0, none⟩) n c1) ∧ w'.cell? ⟨w.heap.size, 1, none⟩ = some (.int .i64 s.valid) ∧ w'.cell? ⟨wo.heap.size, 0, none⟩ = some (.string b.name) ∧ w'.cell? ⟨wo.heap.size, 1, none⟩ = some (.int .i64 b.valid) ∧ w'.cell? ⟨wo.heap.size, 2, none⟩ = some (.int .i64 b.next) ∧ w'.cell? ⟨wo.heap.size, 3, none⟩ = some (.int .i64 b.mod) ∧ w'.cell? ⟨wo.heap.size, 4, none⟩ = some (.slice am b.mails.length cm) ∧ w'.cell? ⟨wo.heap.size, 5, none⟩ = some (.slice at1 b.tombs.length ct1) ∧ w'.cell? ⟨wo.heap.size, 6, none⟩ = some (.int .i64 b.hor) ∧ w'.cell? ⟨g1, j * 7, none⟩ = some (.string p.name)) (by kernel_rfl) (⟨(unhide A).cell 0 rfl, (unhide A).cell 1 rfl, (unhide V).cell 0 rfl, (unhide V).cell 1 rfl, (unhide V).cell 2 rfl, (unhide V).cell 3 rfl, (unhide V).cell 4 rfl, (unhide V).cell 5 rfl, (unhide V).cell 6 rfl, (br_of (unhide S1).row (unhide XP)).1⟩) (fun hHeld => ?_)
                  have A_ := hide ((unhide A).drew)
                  clear A
                  have A := A_
                  clear A_
                  have V_ := hide ((unhide V).drew)
                  clear V
                  have V := V_
                  clear V_
                  have S1_ := hide ((unhide S1).drew)
                  clear S1
                  have S1 := S1_
                  clear S1_
                  have BB_ := hide ((unhide BB).drew)
                  clear BB
                  have BB := BB_
                  clear BB_
                  have sz102 : Hid (wir1.heap.size ≤ wir1.drew.heap.size) := Nat.le_refl _
                  refine takeVal 0 (some 24) ?_ rfl (by kernel_rfl) (by kernel_rfl) (by kernel_rfl) rfl (fun _ _ _ h => h) (by rfl) (by assumption) ?_ ?_
                  rotate_left
                  · (intro w hSw; (try dsimp only at hSw); go_simp <;> with_reducible rfl)
                  simp only [Act.put, List.setIfInBounds_toArray, List.set_cons_zero, List.set_cons_succ]
                  refine wpAnyH_ready (rs := [1]) (by kernel_rfl) (by simp) ?_
                  refine AllReadyH.cons rfl (fun K hK => ?_) AllReadyH.nil
                  go_simp
                  refine (impl_BoxOk_any b _ _ B _ (unhide FX) ((unhide S1).each _ (unhide M1))).mono ?_
                  rintro e wirvsf2 ⟨rfl, hb⟩
                  rw [hbo]
                  have A_ := hide ((unhide A).ups hb)
                  clear A
                  have A := A_
                  clear A_
                  have V_ := hide ((unhide V).ups hb)
                  clear V
                  have V := V_
                  clear V_
                  have S1_ := hide ((unhide S1).up hb)
                  clear S1
                  have S1 := S1_
                  clear S1_
                  have sz103 := hide (hb.size)
                  have BB_ := hide (below_y (unhide BB) hb)
                  clear BB
                  have BB := BB_
                  clear BB_
                  clear hb
                  go_wp2_with fail
                  refine hK.out _ _ (⟨(unhide A).cell 0 rfl, (unhide A).cell 1 rfl, (unhide V).cell 0 rfl, (unhide V).cell 1 rfl, (unhide V).cell 2 rfl, (unhide V).cell 3 rfl, (unhide V).cell 4 rfl, (unhide V).cell 5 rfl, (unhide V).cell 6 rfl, (br_of (unhide S1).row (unhide XP)).1⟩) (fun hHeld2 => ?_)
                  clear hK K hHeld
                  have hHeld := hHeld2; clear hHeld2
                  try simp only [Act.put, List.setIfInBounds_toArray, List.set_cons_zero, List.set_cons_succ]
                  refine takeVal 2 (some 26) ?_ rfl (by kernel_rfl) (by kernel_rfl) (by kernel_rfl) rfl (fun _ _ _ h => h) (by rfl) (by assumption) ?_ ?_
                  rotate_left
                  · (intro w hSw; (try dsimp only at hSw); go_simp <;> with_reducible rfl)
                  simp only [Act.put, List.setIfInBounds_toArray, List.set_cons_zero, List.set_cons_succ]
                  refine takeVal 3 (some 27) ?_ rfl (by kernel_rfl) (by kernel_rfl) (by kernel_rfl) rfl (fun _ _ _ h => h) (by rfl) (by assumption) ?_ ?_
                  rotate_left
                  · (intro w hSw; (try dsimp only at hSw); go_simp <;> with_reducible rfl)
                  simp only [Act.put, List.setIfInBounds_toArray, List.set_cons_zero, List.set_cons_succ]
                  refine takeVal 4 (some 28) ?_ rfl (by kernel_rfl) (by kernel_rfl) (by kernel_rfl) rfl (fun _ _ _ h => h) (by rfl) (by assumption) ?_ ?_
                  rotate_left
                  · (intro w hSw; (try dsimp only at hSw); go_simp <;> with_reducible rfl)
                  simp only [Act.put, List.setIfInBounds_toArray, List.set_cons_zero, List.set_cons_succ]
                  refine takeVal 5 (some 29) ?_ rfl (by kernel_rfl) (by kernel_rfl) (by kernel_rfl) rfl (fun _ _ _ h => h) (by rfl) (by assumption) ?_ ?_
                  rotate_left
                  · (intro w hSw; (try dsimp only at hSw); go_simp <;> with_reducible rfl)
                  simp only [Act.put, List.setIfInBounds_toArray, List.set_cons_zero, List.set_cons_succ]
                  refine takeVal 6 (some 30) ?_ rfl (by kernel_rfl) (by kernel_rfl) (by kernel_rfl) rfl (fun _ _ _ h => h) (by rfl) (by assumption) ?_ ?_
                  rotate_left
                  · (intro w hSw; (try dsimp only at hSw); go_simp <;> with_reducible rfl)
                  simp only [Act.put, List.setIfInBounds_toArray, List.set_cons_zero, List.set_cons_succ]
                  refine takeVal 7 (some 31) ?_ rfl (by kernel_rfl) (by kernel_rfl) (by kernel_rfl) rfl (fun _ _ _ h => h) (by rfl) (by assumption) ?_ ?_
                  rotate_left
                  · (intro w hSw; (try dsimp only at hSw); go_simp <;> with_reducible rfl)
                  simp only [Act.put, List.setIfInBounds_toArray, List.set_cons_zero, List.set_cons_succ]
                  refine takeVal 8 (some 32) ?_ rfl (by kernel_rfl) (by kernel_rfl) (by kernel_rfl) rfl (fun _ _ _ h => h) (by rfl) (by assumption) ?_ ?_
                  rotate_left
                  · (intro w hSw; (try dsimp only at hSw); go_simp <;> with_reducible rfl)
                  simp only [Act.put, List.setIfInBounds_toArray, List.set_cons_zero, List.set_cons_succ]
                  refine takeVal 9 (some 33) ?_ rfl (by kernel_rfl) (by kernel_rfl) (by kernel_rfl) rfl (fun _ _ _ h => h) (by rfl) (by assumption) ?_ ?_
                  rotate_left
                  · (intro w hSw; (try dsimp only at hSw); go_simp <;> with_reducible rfl)
                  simp only [Act.put, List.setIfInBounds_toArray, List.set_cons_zero, List.set_cons_succ]
                  refine takeVal 10 (some 34) ?_ rfl (by kernel_rfl) (by kernel_rfl) (by kernel_rfl) rfl (fun _ _ _ h => h) (by rfl) (by assumption) ?_ ?_
                  rotate_left
                  · (intro w hSw; (try dsimp only at hSw); go_simp <;> with_reducible rfl)
                  simp only [Act.put, List.setIfInBounds_toArray, List.set_cons_zero, List.set_cons_succ]
                  refine takeVal 11 (some 35) ?_ rfl (by kernel_rfl) (by kernel_rfl) (by kernel_rfl) rfl (fun _ _ _ h => h) (by rfl) (by assumption) ?_ ?_
                  rotate_left
                  · (intro w hSw; (try dsimp only at hSw); go_simp <;> with_reducible rfl)
                  simp only [Act.put, List.setIfInBounds_toArray, List.set_cons_zero, List.set_cons_succ]
                  refine takeVal 12 (some 36) ?_ rfl (by kernel_rfl) (by kernel_rfl) (by kernel_rfl) rfl (fun _ _ _ h => h) (by rfl) (by assumption) ?_ ?_
                  rotate_left
                  · (intro w hSw; (try dsimp only at hSw); go_simp <;> with_reducible rfl)
                  simp only [Act.put, List.setIfInBounds_toArray, List.set_cons_zero, List.set_cons_succ]
                  refine takeVal 13 (some 37) ?_ rfl (by kernel_rfl) (by kernel_rfl) (by kernel_rfl) rfl (fun _ _ _ h => h) (by rfl) (by assumption) ?_ ?_
                  rotate_left
                  · (intro w hSw; (try dsimp only at hSw); go_simp <;> with_reducible rfl)
                  simp only [Act.put, List.setIfInBounds_toArray, List.set_cons_zero, List.set_cons_succ]
                  refine takeVal 14 (some 38) ?_ rfl (by kernel_rfl) (by kernel_rfl) (by kernel_rfl) rfl (fun _ _ _ h => h) (by rfl) (by assumption) ?_ ?_
                  rotate_left
                  · (intro w hSw; (try dsimp only at hSw); go_simp <;> with_reducible rfl)
                  simp only [Act.put, List.setIfInBounds_toArray, List.set_cons_zero, List.set_cons_succ]
                  refine takeVal 15 (some 39) ?_ rfl (by kernel_rfl) (by kernel_rfl) (by kernel_rfl) rfl (fun _ _ _ h => h) (by rfl) (by assumption) ?_ ?_
                  rotate_left
                  · (intro w hSw; (try dsimp only at hSw); go_simp <;> with_reducible rfl)
                  simp only [Act.put, List.setIfInBounds_toArray, List.set_cons_zero, List.set_cons_succ]
                  refine takeVal 16 (some 40) ?_ rfl (by kernel_rfl) (by kernel_rfl) (by kernel_rfl) rfl (fun _ _ _ h => h) (by rfl) (by assumption) ?_ ?_
                  rotate_left
                  · (intro w hSw; (try dsimp only at hSw); go_simp <;> with_reducible rfl)
                  simp only [Act.put, List.setIfInBounds_toArray, List.set_cons_zero, List.set_cons_succ]
                  refine takeVal 17 (some 41) ?_ rfl (by kernel_rfl) (by kernel_rfl) (by kernel_rfl) rfl (fun _ _ _ h => h) (by rfl) (by assumption) ?_ ?_
                  rotate_left
                  · (intro w hSw; (try dsimp only at hSw); go_simp <;> with_reducible rfl)
                  simp only [Act.put, List.setIfInBounds_toArray, List.set_cons_zero, List.set_cons_succ]
                  refine takeVal 18 (some 42) ?_ rfl (by kernel_rfl) (by kernel_rfl) (by kernel_rfl) rfl (fun _ _ _ h => h) (by rfl) (by assumption) ?_ ?_
                  rotate_left
                  · (intro w hSw; (try dsimp only at hSw); go_simp <;> with_reducible rfl)
                  simp only [Act.put, List.setIfInBounds_toArray, List.set_cons_zero, List.set_cons_succ]
                  refine takeVal 19 (some 43) ?_ rfl (by kernel_rfl) (by kernel_rfl) (by kernel_rfl) rfl (fun _ _ _ h => h) (by rfl) (by assumption) ?_ ?_
                  rotate_left
                  · (intro w hSw; (try dsimp only at hSw); go_simp <;> with_reducible rfl)
                  simp only [Act.put, List.setIfInBounds_toArray, List.set_cons_zero, List.set_cons_succ]
                  refine takeVal 20 (some 44) ?_ rfl (by kernel_rfl) (by kernel_rfl) (by kernel_rfl) rfl (fun _ _ _ h => h) (by rfl) (by assumption) ?_ ?_
                  rotate_left
                  · (intro w hSw; (try dsimp only at hSw); go_simp <;> with_reducible rfl)
                  simp only [Act.put, List.setIfInBounds_toArray, List.set_cons_zero, List.set_cons_succ]
                  refine takeVal 21 (some 45) ?_ rfl (by kernel_rfl) (by kernel_rfl) (by kernel_rfl) rfl (fun _ _ _ h => h) (by rfl) (by assumption) ?_ ?_
                  rotate_left
                  · (intro w hSw; (try dsimp only at hSw); go_simp <;> with_reducible rfl)
                  simp only [Act.put, List.setIfInBounds_toArray, List.set_cons_zero, List.set_cons_succ]
                  refine takeVal 22 (some 46) ?_ rfl (by kernel_rfl) (by kernel_rfl) (by kernel_rfl) rfl (fun _ _ _ h => h) (by rfl) (by assumption) ?_ ?_
                  rotate_left
                  · (intro w hSw; (try dsimp only at hSw); go_simp <;> with_reducible rfl)
                  simp only [Act.put, List.setIfInBounds_toArray, List.set_cons_zero, List.set_cons_succ]
                  refine takeVal 23 (some 47) ?_ rfl (by kernel_rfl) (by kernel_rfl) (by kernel_rfl) rfl (fun _ _ _ h => h) (by rfl) (by assumption) ?_ ?_
                  rotate_left
                  · (intro w hSw; (try dsimp only at hSw); go_simp <;> with_reducible rfl)
                  simp only [Act.put, List.setIfInBounds_toArray, List.set_cons_zero, List.set_cons_succ]
                  refine takeVal 24 (some 48) ?_ rfl (by kernel_rfl) (by kernel_rfl) (by kernel_rfl) rfl (fun _ _ _ h => h) (by rfl) (by assumption) ?_ ?_
                  rotate_left
                  · (intro w hSw; (try dsimp only at hSw); go_simp <;> with_reducible rfl)
                  simp only [Act.put, List.setIfInBounds_toArray, List.set_cons_zero, List.set_cons_succ]
                  refine takeVal 25 (some 49) ?_ rfl (by kernel_rfl) (by kernel_rfl) (by kernel_rfl) rfl (fun _ _ _ h => h) (by rfl) (by assumption) ?_ ?_
                  rotate_left
                  · (intro w hSw; (try dsimp only at hSw); go_simp <;> with_reducible rfl)
                  simp only [Act.put, List.setIfInBounds_toArray, List.set_cons_zero, List.set_cons_succ]
                  refine wpAnyH_done (by kernel_rfl) ?_ _
                  go_wp2
                  go_ret
                  exact ⟨by rw [unhide HV]; rfl, unhide BB⟩
            · have dv : decide (s.valid ≤ b.valid) = true := decide_eq_true (by omega)
              have HV : Hid (storeOk s = false) := storeOk_no (k := k) (by rw [← unhide HN]; exact hlt) (okB_valid (unhide XB) hv)
              clear hv
              have Ac0_5 := (unhide A).cell 0 rfl
              have Ac1_5 := (unhide A).cell 1 rfl
              have Vc0_6 := (unhide V).cell 0 rfl
              have Vc1_6 := (unhide V).cell 1 rfl
              have Vc2_6 := (unhide V).cell 2 rfl
              have Vc3_6 := (unhide V).cell 3 rfl
              have Vc4_6 := (unhide V).cell 4 rfl
              have Vc5_6 := (unhide V).cell 5 rfl
              have Vc6_6 := (unhide V).cell 6 rfl
              go_wp2
              clear ec0_4 ec1_4 ec2_4 ec3_4 ec4_4 ec5_4 ec6_4 Ac0_5 Ac1_5 Vc0_6 Vc1_6 Vc2_6 Vc3_6 Vc4_6 Vc5_6 Vc6_6 EV
              refine wp_region_held_drew (S := fun w' => w'.cell? ⟨w.heap.size, 0, none⟩ = some (.slice (some ⟨g1, 0, none⟩) n c1) ∧ w'.cell? ⟨w.heap.size, 1, none⟩ = some (.int .i64 s.valid) ∧ w'.cell? ⟨wo.heap.size, 0, none⟩ = some (.string b.name) ∧ w'.cell? ⟨wo.heap.size, 1, none⟩ = some (.int .i64 b.valid) ∧ w'.cell? ⟨wo.heap.size, 2, none⟩ = some (.int .i64 b.next) ∧ w'.cell? ⟨wo.heap.size, 3, none⟩ = some (.int .i64 b.mod) ∧ w'.cell? ⟨wo.heap.size, 4, none⟩ = some (.slice am b.mails.length cm) ∧ w'.cell? ⟨wo.heap.size, 5, none⟩ = some (.slice at1 b.tombs.length ct1) ∧ w'.cell? ⟨wo.heap.size, 6, none⟩ = some (.int .i64 b.hor)) (by kernel_rfl) (⟨(unhide A).cell 0 rfl, (unhide A).cell 1 rfl, (unhide V).cell 0 rfl, (unhide V).cell 1 rfl, (unhide V).cell 2 rfl, (unhide V).cell 3 rfl, (unhide V).cell 4 rfl, (unhide V).cell 5 rfl, (unhide V).cell 6 rfl⟩) (fun hHeld => ?_)
              have A_ := hide ((unhide A).drew)
              clear A
              have A := A_
              clear A_
              have V_ := hide ((unhide V).drew)
              clear V
              have V := V_
              clear V_
              have S1_ := hide ((unhide S1).drew)
              clear S1
              have S1 := S1_
              clear S1_
              have BB_ := hide ((unhide BB).drew)
              clear BB
              have BB := BB_
              clear BB_
              have sz102 : Hid (wir1.heap.size ≤ wir1.drew.heap.size) := Nat.le_refl _
              refine takeVal 0 (some 24) ?_ rfl (by kernel_rfl) (by kernel_rfl) (by kernel_rfl) rfl (fun _ _ _ h => h) (by rfl) (by assumption) ?_ ?_
              rotate_left
              · (intro w hSw; (try dsimp only at hSw); go_simp <;> with_reducible rfl)
              simp only [Act.put, List.setIfInBounds_toArray, List.set_cons_zero, List.set_cons_succ]
              refine wpAnyH_ready (rs := [1]) (by kernel_rfl) (by simp) ?_
              refine AllReadyH.cons rfl (fun K hK => ?_) AllReadyH.nil
              go_simp
              refine (impl_BoxOk_any b _ _ B _ (unhide FX) ((unhide S1).each _ (unhide M1))).mono ?_
              rintro e wiru2 ⟨rfl, hb⟩
              rw [hbo]
              have A_ := hide ((unhide A).ups hb)
              clear A
              have A := A_
              clear A_
              have V_ := hide ((unhide V).ups hb)
              clear V
              have V := V_
              clear V_
              have S1_ := hide ((unhide S1).up hb)
              clear S1
              have S1 := S1_
              clear S1_
              have sz103 := hide (hb.size)
              have BB_ := hide (below_y (unhide BB) hb)
              clear BB
              have BB := BB_
              clear BB_
              clear hb
              go_wp2_with fail
              refine hK.out _ _ (⟨(unhide A).cell 0 rfl, (unhide A).cell 1 rfl, (unhide V).cell 0 rfl, (unhide V).cell 1 rfl, (unhide V).cell 2 rfl, (unhide V).cell 3 rfl, (unhide V).cell 4 rfl, (unhide V).cell 5 rfl, (unhide V).cell 6 rfl⟩) (fun hHeld2 => ?_)
              clear hK K hHeld
              have hHeld := hHeld2; clear hHeld2
              try simp only [Act.put, List.setIfInBounds_toArray, List.set_cons_zero, List.set_cons_succ]
              refine takeVal 2 (some 26) ?_ rfl (by kernel_rfl) (by kernel_rfl) (by kernel_rfl) rfl (fun _ _ _ h => h) (by rfl) (by assumption) ?_ ?_
              rotate_left
              · (intro w hSw; (try dsimp only at hSw); go_simp <;> with_reducible rfl)
              simp only [Act.put, List.setIfInBounds_toArray, List.set_cons_zero, List.set_cons_succ]
              refine takeVal 3 (some 27) ?_ rfl (by kernel_rfl) (by kernel_rfl) (by kernel_rfl) rfl (fun _ _ _ h => h) (by rfl) (by assumption) ?_ ?_
              rotate_left
              · (intro w hSw; (try dsimp only at hSw); go_simp <;> with_reducible rfl)
              simp only [Act.put, List.setIfInBounds_toArray, List.set_cons_zero, List.set_cons_succ]
              refine takeVal 4 (some 28) ?_ rfl (by kernel_rfl) (by kernel_rfl) (by kernel_rfl) rfl (fun _ _ _ h => h) (by rfl) (by assumption) ?_ ?_
              rotate_left
              · (intro w hSw; (try dsimp only at hSw); go_simp <;> with_reducible rfl)
              simp only [Act.put, List.setIfInBounds_toArray, List.set_cons_zero, List.set_cons_succ]
              refine takeVal 5 (some 29) ?_ rfl (by kernel_rfl) (by kernel_rfl) (by kernel_rfl) rfl (fun _ _ _ h => h) (by rfl) (by assumption) ?_ ?_
              rotate_left
              · (intro w hSw; (try dsimp only at hSw); go_simp <;> with_reducible rfl)
              simp only [Act.put, List.setIfInBounds_toArray, List.set_cons_zero, List.set_cons_succ]
              refine takeVal 6 (some 30) ?_ rfl (by kernel_rfl) (by kernel_rfl) (by kernel_rfl) rfl (fun _ _ _ h => h) (by rfl) (by assumption) ?_ ?_
              rotate_left
              · (intro w hSw; (try dsimp only at hSw); go_simp <;> with_reducible rfl)
              simp only [Act.put, List.setIfInBounds_toArray, List.set_cons_zero, List.set_cons_succ]
              refine takeVal 7 (some 31) ?_ rfl (by kernel_rfl) (by kernel_rfl) (by kernel_rfl) rfl (fun _ _ _ h => h) (by rfl) (by assumption) ?_ ?_
              rotate_left
              · (intro w hSw; (try dsimp only at hSw); go_simp <;> with_reducible rfl)
              simp only [Act.put, List.setIfInBounds_toArray, List.set_cons_zero, List.set_cons_succ]
              refine takeVal 8 (some 32) ?_ rfl (by kernel_rfl) (by kernel_rfl) (by kernel_rfl) rfl (fun _ _ _ h => h) (by rfl) (by assumption) ?_ ?_
              rotate_left
              · (intro w hSw; (try dsimp only at hSw); go_simp <;> with_reducible rfl)
              simp only [Act.put, List.setIfInBounds_toArray, List.set_cons_zero, List.set_cons_succ]
              refine takeVal 9 (some 33) ?_ rfl (by kernel_rfl) (by kernel_rfl) (by kernel_rfl) rfl (fun _ _ _ h => h) (by rfl) (by assumption) ?_ ?_
              rotate_left
              · (intro w hSw; (try dsimp only at hSw); go_simp <;> with_reducible rfl)
              simp only [Act.put, List.setIfInBounds_toArray, List.set_cons_zero, List.set_cons_succ]
              refine takeVal 10 (some 34) ?_ rfl (by kernel_rfl) (by kernel_rfl) (by kernel_rfl) rfl (fun _ _ _ h => h) (by rfl) (by assumption) ?_ ?_
              rotate_left
              · (intro w hSw; (try dsimp only at hSw); go_simp <;> with_reducible rfl)
              simp only [Act.put, List.setIfInBounds_toArray, List.set_cons_zero, List.set_cons_succ]
              refine takeSkip 11 (some 35) rfl (by kernel_rfl) (by kernel_rfl) (by kernel_rfl) rfl (fun _ _ _ h => h) (by rfl) (by assumption) ?_
              simp only [Act.put, List.setIfInBounds_toArray, List.set_cons_zero, List.set_cons_succ]
              refine takeSkip 12 (some 36) rfl (by kernel_rfl) (by kernel_rfl) (by kernel_rfl) rfl (fun _ _ _ h => h) (by rfl) (by assumption) ?_
              simp only [Act.put, List.setIfInBounds_toArray, List.set_cons_zero, List.set_cons_succ]
              refine takeSkip 13 (some 37) rfl (by kernel_rfl) (by kernel_rfl) (by kernel_rfl) rfl (fun _ _ _ h => h) (by rfl) (by assumption) ?_
              simp only [Act.put, List.setIfInBounds_toArray, List.set_cons_zero, List.set_cons_succ]
              refine takeSkip 14 (some 38) rfl (by kernel_rfl) (by kernel_rfl) (by kernel_rfl) rfl (fun _ _ _ h => h) (by rfl) (by assumption) ?_
              simp only [Act.put, List.setIfInBounds_toArray, List.set_cons_zero, List.set_cons_succ]
              refine takeSkip 15 (some 39) rfl (by kernel_rfl) (by kernel_rfl) (by kernel_rfl) rfl (fun _ _ _ h => h) (by rfl) (by assumption) ?_
              simp only [Act.put, List.setIfInBounds_toArray, List.set_cons_zero, List.set_cons_succ]
              refine takeSkip 16 (some 40) rfl (by kernel_rfl) (by kernel_rfl) (by kernel_rfl) rfl (fun _ _ _ h => h) (by rfl) (by assumption) ?_
              simp only [Act.put, List.setIfInBounds_toArray, List.set_cons_zero, List.set_cons_succ]
              refine takeSkip 17 (some 41) rfl (by kernel_rfl) (by kernel_rfl) (by kernel_rfl) rfl (fun _ _ _ h => h) (by rfl) (by assumption) ?_
              simp only [Act.put, List.setIfInBounds_toArray, List.set_cons_zero, List.set_cons_succ]
              refine takeSkip 18 (some 42) rfl (by kernel_rfl) (by kernel_rfl) (by kernel_rfl) rfl (fun _ _ _ h => h) (by rfl) (by assumption) ?_
              simp only [Act.put, List.setIfInBounds_toArray, List.set_cons_zero, List.set_cons_succ]
              refine takeSkip 19 (some 43) rfl (by kernel_rfl) (by kernel_rfl) (by kernel_rfl) rfl (fun _ _ _ h => h) (by rfl) (by assumption) ?_
              simp only [Act.put, List.setIfInBounds_toArray, List.set_cons_zero, List.set_cons_succ]
              refine takeSkip 20 (some 44) rfl (by kernel_rfl) (by kernel_rfl) (by kernel_rfl) rfl (fun _ _ _ h => h) (by rfl) (by assumption) ?_
              simp only [Act.put, List.setIfInBounds_toArray, List.set_cons_zero, List.set_cons_succ]
              refine takeSkip 21 (some 45) rfl (by kernel_rfl) (by kernel_rfl) (by kernel_rfl) rfl (fun _ _ _ h => h) (by rfl) (by assumption) ?_
              simp only [Act.put, List.setIfInBounds_toArray, List.set_cons_zero, List.set_cons_succ]
              refine takeSkip 22 (some 46) rfl (by kernel_rfl) (by kernel_rfl) (by kernel_rfl) rfl (fun _ _ _ h => h) (by rfl) (by assumption) ?_
              simp only [Act.put, List.setIfInBounds_toArray, List.set_cons_zero, List.set_cons_succ]
              refine takeSkip 23 (some 47) rfl (by kernel_rfl) (by kernel_rfl) (by kernel_rfl) rfl (fun _ _ _ h => h) (by rfl) (by assumption) ?_
              simp only [Act.put, List.setIfInBounds_toArray, List.set_cons_zero, List.set_cons_succ]
              refine takeSkip 24 (some 48) rfl (by kernel_rfl) (by kernel_rfl) (by kernel_rfl) rfl (fun _ _ _ h => h) (by rfl) (by assumption) ?_
              simp only [Act.put, List.setIfInBounds_toArray, List.set_cons_zero, List.set_cons_succ]
              refine takeVal 25 (some 49) ?_ rfl (by kernel_rfl) (by kernel_rfl) (by kernel_rfl) rfl (fun _ _ _ h => h) (by rfl) (by assumption) ?_ ?_
              rotate_left
              · (intro w hSw; (try dsimp only at hSw); go_simp <;> with_reducible rfl)
              simp only [Act.put, List.setIfInBounds_toArray, List.set_cons_zero, List.set_cons_succ]
              refine wpAnyH_done (by kernel_rfl) ?_ _
              go_wp2
              go_ret
              exact ⟨by rw [unhide HV]; rfl, unhide BB⟩
        · obtain rfl : k = n := by omega
          have A := hide oA
          have BB := hide hbel
          clear oA o1 hbel hlt hk
          have HV : Hid (storeOk s = true) := by show _ = _; unfold storeOk; rw [← unhide HN, unhide OKK, unhide HI1, unhide HI2]; rfl
          go_wp2
          go_ret
          exact ⟨by rw [unhide HV]; rfl, unhide BB⟩
end Go.Proofs.Ytecognggnbopaac
