/- The program's SetAdd. -/
import Derived.Test.YtkmphclmealkeaaGreatDoorImplPut
namespace Go.Proofs.YtkmphclmealkeaaGreatDoor
open Go.RowKit
open Plain
set_option linter.unusedVariables false

theorem put_fin {p : List Rg × Bool} {t s : List Rg} (h : p = if okS t = true then (t, true) else (s, false)) : p.2 = okS t ∧ p.1 = if okS t = true then t else s := by
  rw [h]
  cases okS t <;> exact ⟨rfl, rfl⟩
theorem spanL_snoc {r : Rg} {l : List Rg} {k : Nat} {m : Rg} (h : l[k]? = some m) : spanL r (l.take (k + 1)) = spanTo (spanL r (l.take k)) m := by
  unfold spanL
  rw [ok_snoc h, List.foldl_append]
  rfl

set_option maxHeartbeats 4000000 in
set_option maxRecDepth 100000 in
theorem impl_SetAdd_any (s : List Rg) (v : Value) (lo hi : Int) (w : World) (hs : s.length ≤ 1048576) (h : ReadO w v s) :
    Calls Tryz.prog 12 #[v, .int .i64 lo, .int .i64 hi] w fun e w' => ∃ v', e = .returned (.tuple #[v', .bool (putV s lo hi true).2]) ∧ OwnR w.heap.size w' v' (putV s lo hi true).1 ∧ Below w.heap.size w w' := by
  obtain ⟨a, c, rfl, _, _⟩ := id h
  have H := hide h
  clear h
  have hb0 : Below w.heap.size w (w.alloc (Obj.cells #[Value.int IntKind.i64 lo, Value.int IntKind.i64 hi] 32)) := (Below.refl _ _).alloc (Nat.le_refl _) _
  obtain ⟨W, hW⟩ : ∃ W, W = w.alloc (Obj.cells #[Value.int IntKind.i64 lo, Value.int IntKind.i64 hi] 32) := ⟨_, rfl⟩
  have e0 : W.cell? ⟨w.heap.size, 0, none⟩ = some (.int .i64 lo) := by rw [hW]; go_simp
  have e1 : W.cell? ⟨w.heap.size, 1, none⟩ = some (.int .i64 hi) := by rw [hW]; go_simp
  have f0 : W.frozen? ⟨w.heap.size, 0, none⟩ = false := by rw [hW]; go_simp
  have f1 : W.frozen? ⟨w.heap.size, 1, none⟩ = false := by rw [hW]; go_simp
  have hsz : w.heap.size < W.heap.size := by rw [hW]; simp
  have hbW : Below w.heap.size w W := by rw [hW]; exact hb0
  have HW := hide hW
  clear hW hb0
  have OK := hide (impl_SetOk_any s (.slice a s.length c) W hs ((unhide H).up hbW))
  have MV := hide (fun W' h => impl_moved_one (.slice a s.length c) s W' (by omega) h)
  by_cases hr : okS s = true ∧ rightB ⟨lo, hi⟩ = true
  · obtain ⟨hok, hrb⟩ := hr
    rw [hok] at OK
    have RO := hide (fun W' => impl_rangeOk_any ⟨lo, hi⟩ W')
    rw [hrb] at RO
    obtain ⟨q1, q2, q3⟩ := rightB_yes.1 hrb
    simp only at q1 q2 q3
    have b1 : IntKind.i64.wrap (lo - 1) = lo - 1 := by rw [IntKind.wrap_i64]; omega
    have b2 : IntKind.i64.wrap (hi + 1) = hi + 1 := by rw [IntKind.wrap_i64]; omega
    have CS := hide (fun W' h => impl_cutSet_any s (.slice a s.length c) (lo - 1) (hi + 1) w W' hs (unhide H) h)
    have PA := hide (put_fin (put_added (s := s) (lo := lo) (hi := hi) ⟨hok, q1, q2, q3⟩))
    go_enter Tryz.func12, Tryz.ntmps12
    go_wp2_with fail
    rw [← unhide HW]
    refine (unhide OK).mono ?_
    rintro e w1 ⟨rfl, hb1⟩
    have c0 := (hb1.cell (p := ⟨w.heap.size, 0, none⟩) hsz).trans e0
    have c1 := (hb1.cell (p := ⟨w.heap.size, 1, none⟩) hsz).trans e1
    go_wp2_with fail
    refine (unhide RO _).mono ?_
    rintro e w2 ⟨rfl, hb2⟩
    have hW2 := below2 hbW (below2 hb1 hb2)
    have hb12 := below2 hb1 hb2
    have cs2 := (unhide CS w2 ((unhide H).up hW2))
    have C2 := hide cs2
    clear cs2
    go_wp2_with fail
    refine (unhide C2).mono ?_
    rintro e w3 ⟨v1, v2, v3, rfl, r1, r2, r3, hb3⟩
    have R1 := hide r1
    have R3 := hide r3
    have hb23 := below2 hb12 hb3
    have g0 := (hb23.cell (p := ⟨w.heap.size, 0, none⟩) hsz).trans e0
    have g1 := (hb23.cell (p := ⟨w.heap.size, 1, none⟩) hsz).trans e1
    have k0 : w3.frozen? ⟨w.heap.size, 0, none⟩ = false := (World.frozen?_of_block (a := ⟨w.heap.size, 0, none⟩) (hb23.block _ hsz)).trans f0
    have k1 : w3.frozen? ⟨w.heap.size, 1, none⟩ = false := (World.frozen?_of_block (a := ⟨w.heap.size, 1, none⟩) (hb23.block _ hsz)).trans f1
    have hW3 := below2 hbW hb23
    have hz3 : w.heap.size < w3.heap.size := Nat.lt_of_lt_of_le hsz hb23.size
    clear c0 c1 e0 e1 f0 f1 hb1 hb2 hb12 hb3 hb23 hW2 hbW OK RO CS C2 r1 r3
    obtain ⟨L, hL⟩ : ∃ L, L = metL s (lo - 1) (hi + 1) := ⟨_, rfl⟩
    rw [← hL] at r2
    have hLs : L.length ≤ 1048576 := by
      have := congrArg List.length (cut_all s (lo - 1) (hi + 1))
      rw [hL]
      simp at this
      omega
    have HL := hide hL
    clear hL
    obtain ⟨ma, mc, rfl, hmc, hmr⟩ := id r2
    have M := hide r2
    clear r2 hmc hmr
    go_wp2
    go_loopw [41] (fun i wr => ∃ k : Nat, k ≤ L.length ∧ i = .int .i64 k ∧ wr.cell? ⟨w.heap.size, 0, none⟩ = some (.int .i64 (spanL ⟨lo, hi⟩ (L.take k)).lo) ∧ wr.cell? ⟨w.heap.size, 1, none⟩ = some (.int .i64 (spanL ⟨lo, hi⟩ (L.take k)).hi) ∧ wr.frozen? ⟨w.heap.size, 0, none⟩ = false ∧ wr.frozen? ⟨w.heap.size, 1, none⟩ = false ∧ Below w.heap.size w wr ∧ w.heap.size < wr.heap.size) (fun i _ => L.length - (intOf i).toNat)
    case atStart => exact ⟨0, Nat.zero_le _, rfl, g0, g1, k0, k1, hW3, hz3⟩
    case round =>
      obtain ⟨k, hk, rfl, c0, c1, f0, f1, hbel, hzr⟩ := hrel
      clear g0 g1 k0 k1
      by_cases hlt : k < L.length
      · have hgk : L[k]? = some L[k] := List.getElem?_eq_getElem hlt
        obtain ⟨ma', mc', hv', _, hc'⟩ := (unhide M).up hbel
        cases hv'
        obtain ⟨g, o, hga, hgl, d0, d1⟩ := hc' k _ hgk
        subst hga
        have T := hide (spanL_snoc (r := ⟨lo, hi⟩) hgk)
        generalize L[k] = m at *
        obtain ⟨ml, mh⟩ := m
        simp only at d0 d1
        generalize spanL ⟨lo, hi⟩ (L.take k) = sp at *
        obtain ⟨sl, sh⟩ := sp
        simp only at c0 c1
        have hik : (0 : Int) ≤ (k : Int) := by omega
        have hil : (k : Int) < (L.length : Int) := by omega
        have hwr : w.heap.size ≤ wr.heap.size := hbel.size
        have hne : w.heap.size ≠ wr.heap.size := by omega
        clear hgk hc'
        go_wp2
        obtain ⟨W1, hW1⟩ : ∃ W1, W1 = wr.alloc (Obj.cells #[Value.int IntKind.i64 ml, Value.int IntKind.i64 mh] 32) := ⟨_, rfl⟩
        have hA : Below wr.heap.size wr W1 := by rw [hW1]; exact (Below.refl _ _).alloc (Nat.le_refl _) _
        have s0 := (hA.cell (p := ⟨w.heap.size, 0, none⟩) hzr).trans c0
        have s1 := (hA.cell (p := ⟨w.heap.size, 1, none⟩) hzr).trans c1
        have z0 : W1.frozen? ⟨w.heap.size, 0, none⟩ = false := (World.frozen?_of_block (a := ⟨w.heap.size, 0, none⟩) (hA.block _ hzr)).trans f0
        have z1 : W1.frozen? ⟨w.heap.size, 1, none⟩ = false := (World.frozen?_of_block (a := ⟨w.heap.size, 1, none⟩) (hA.block _ hzr)).trans f1
        have s2 : W1.cell? ⟨wr.heap.size, 0, none⟩ = some (.int .i64 ml) := by rw [hW1]; go_simp
        have s3 : W1.cell? ⟨wr.heap.size, 1, none⟩ = some (.int .i64 mh) := by rw [hW1]; go_simp
        have hB1 : Below w.heap.size w W1 := hbel.trans (hA.mono hwr)
        have hz1 : w.heap.size < W1.heap.size := Nat.lt_of_lt_of_le hzr hA.size
        rw [← hW1]
        clear hW1 hA c0 c1 f0 f1 d0 d1
        go_region
        have X0 : Hid ((if ml < sl then ml else sl) = (spanL ⟨lo, hi⟩ (L.take (k + 1))).lo) := by
          rw [unhide T]; show _ = min sl ml; split <;> omega
        have X1 : Hid ((if sh < mh then mh else sh) = (spanL ⟨lo, hi⟩ (L.take (k + 1))).hi) := by
          rw [unhide T]; show _ = max sh mh; split <;> omega
        generalize (if ml < sl then ml else sl) = x0 at *
        generalize (if sh < mh then mh else sh) = x1 at *
        have ne01 : (⟨w.heap.size, 0, none⟩ : Addr) ≠ ⟨w.heap.size, 1, none⟩ := by simp
        have t0 := World.cell?_setCell_same W1 ⟨w.heap.size, 0, none⟩ (.int .i64 x0) s0
        have t1 := (World.cell?_setCell_other W1 ⟨w.heap.size, 0, none⟩ ⟨w.heap.size, 1, none⟩ (.int .i64 x0) ne01).trans s1
        have u0 := (World.cell?_setCell_other (W1.setCell ⟨w.heap.size, 0, none⟩ (.int .i64 x0)) ⟨w.heap.size, 1, none⟩ ⟨w.heap.size, 0, none⟩ (.int .i64 x1) (Ne.symm ne01)).trans t0
        have u1 := World.cell?_setCell_same (W1.setCell ⟨w.heap.size, 0, none⟩ (.int .i64 x0)) ⟨w.heap.size, 1, none⟩ (.int .i64 x1) t1
        have U0 : Hid (((W1.setCell ⟨w.heap.size, 0, none⟩ (.int .i64 x0)).setCell ⟨w.heap.size, 1, none⟩ (.int .i64 x1)).drew.cell? ⟨w.heap.size, 0, none⟩ = some (.int .i64 x0)) := u0
        have U1 : Hid (((W1.setCell ⟨w.heap.size, 0, none⟩ (.int .i64 x0)).setCell ⟨w.heap.size, 1, none⟩ (.int .i64 x1)).drew.cell? ⟨w.heap.size, 1, none⟩ = some (.int .i64 x1)) := u1
        have Z0 : Hid (((W1.setCell ⟨w.heap.size, 0, none⟩ (.int .i64 x0)).setCell ⟨w.heap.size, 1, none⟩ (.int .i64 x1)).drew.frozen? ⟨w.heap.size, 0, none⟩ = false) := by show ((W1.setCell _ _).setCell _ _).frozen? _ = false; rw [World.frozen?_setCell, World.frozen?_setCell]; exact z0
        have Z1 : Hid (((W1.setCell ⟨w.heap.size, 0, none⟩ (.int .i64 x0)).setCell ⟨w.heap.size, 1, none⟩ (.int .i64 x1)).drew.frozen? ⟨w.heap.size, 1, none⟩ = false) := by show ((W1.setCell _ _).setCell _ _).frozen? _ = false; rw [World.frozen?_setCell, World.frozen?_setCell]; exact z1
        have hB2 := ((hB1.setCell (p := ⟨w.heap.size, 0, none⟩) (Nat.le_refl _) (.int .i64 x0)).setCell (p := ⟨w.heap.size, 1, none⟩) (Nat.le_refl _) (.int .i64 x1)).drew
        have hz2 : w.heap.size < ((W1.setCell ⟨w.heap.size, 0, none⟩ (.int .i64 x0)).setCell ⟨w.heap.size, 1, none⟩ (.int .i64 x1)).drew.heap.size := by simpa using hz1
        clear t0 t1 u0 u1 s0 s1 s2 s3 z0 z1 hB1 hz1
        generalize ((W1.setCell ⟨w.heap.size, 0, none⟩ (.int .i64 x0)).setCell ⟨w.heap.size, 1, none⟩ (.int .i64 x1)).drew = W2 at *
        go_wp2
        go_roundw
        case rel => exact ⟨k + 1, by omega, by go_num, by rw [← unhide X0]; exact unhide U0, by rw [← unhide X1]; exact unhide U1, unhide Z0, unhide Z1, hB2, hz2⟩
        case measure => simp [intOf]; omega
      · obtain rfl : k = L.length := by omega
        rw [List.take_length] at c0 c1
        have AD : Hid (addedL s lo hi = aheadL s (lo - 1) ++ ([spanL ⟨lo, hi⟩ L] ++ behindL s (lo - 1) (hi + 1))) := by rw [unhide HL]; rfl
        generalize spanL ⟨lo, hi⟩ L = sp at *
        obtain ⟨sl, sh⟩ := sp
        simp only at c0 c1
        have hln : (addedL s lo hi).length ≤ s.length + 1 := by
          rw [unhide AD]
          have := congrArg List.length (cut_all s (lo - 1) (hi + 1))
          simp at this ⊢
          omega
        have hln2 : (aheadL s (lo - 1)).length + ([(⟨sl, sh⟩ : Rg)].length + (behindL s (lo - 1) (hi + 1)).length) ≤ 8000000 := by
          have := congrArg List.length (unhide AD)
          simp at this ⊢
          omega
        obtain ⟨W1, hW1⟩ : ∃ W1, W1 = wr.alloc (Obj.cells #[Value.int IntKind.i64 sl, Value.int IntKind.i64 sh] 32) := ⟨_, rfl⟩
        have hA : Below wr.heap.size wr W1 := by rw [hW1]; exact (Below.refl _ _).alloc (Nat.le_refl _) _
        have hwr : w.heap.size ≤ wr.heap.size := hbel.size
        have hB1 : Below w.heap.size w W1 := hbel.trans (hA.mono hwr)
        have rm : ReadO W1 (.slice (some ⟨wr.heap.size, 0, none⟩) 1 1) [⟨sl, sh⟩] := by
          refine ⟨_, _, rfl, Nat.le_refl _, fun k x hx => ?_⟩
          match k with
          | 0 =>
            simp at hx
            subst hx
            refine ⟨wr.heap.size, 0, rfl, by rw [hW1]; simp, ?_, ?_⟩
            · rw [hW1]; go_simp
            · rw [hW1]; go_simp
          | k + 1 => simp at hx
        have M3 := hide (impl_moved_three v1 (.slice (some ⟨wr.heap.size, 0, none⟩) 1 1) v3 _ _ _ W1 hln2 ((unhide R1).up hB1) rm ((unhide R3).up hB1))
        have e1 : wr.heap.size + 1 = W1.heap.size := by rw [hW1]; simp
        obtain ⟨a1, c1', hv1, _, _⟩ := unhide R1
        obtain ⟨a3, c3', hv3, _, _⟩ := unhide R3
        subst hv1
        subst hv3
        have HE := hide e1
        have HW1 := hide hW1
        clear hW1 hA e1 rm
        go_wp2_with fail
        rw [← unhide HW1, unhide HE]
        refine (unhide M3).mono ?_
        rintro e w5 ⟨r5, rfl, o5, hb5⟩
        have hW5 : Below w.heap.size w w5 := hB1.trans (hb5.mono hB1.size)
        have O5 : OwnR w.heap.size w5 r5 (addedL s lo hi) := by rw [unhide AD]; exact g_based o5 hB1.size
        have OA := hide (impl_orAsItIs_any s (addedL s lo hi) (.slice a s.length c) r5 w.heap.size w5 (by omega) (by have := (okS_parts hok).2; omega) ((unhide H).up hW5) O5 hW5.size)
        obtain ⟨a5, c5, rfl⟩ := g_shape O5
        clear o5 O5
        go_wp2_with fail
        refine (unhide OA).mono ?_
        rintro e w6 ⟨v6, rfl, o6, hb6⟩
        have O6 := hide o6
        have hW6 : Below w.heap.size w w6 := hW5.trans (hb6.mono hW5.size)
        clear o6
        go_wp2
        go_ret2
        exact ⟨v6, by rw [(unhide PA).1]; rfl, by rw [(unhide PA).2]; exact unhide O6, hW6⟩
  · have PN := hide (putV_no (s := s) (lo := lo) (hi := hi) (c := true) (fun h => hr ⟨h.1, rightB_yes.2 h.2⟩))
    cases hok : okS s with
    | false =>
      rw [hok] at OK
      go_enter Tryz.func12, Tryz.ntmps12
      go_wp2_with fail
      rw [← unhide HW]
      refine (unhide OK).mono ?_
      rintro e w1 ⟨rfl, hb1⟩
      have hW1 := below2 hbW hb1
      have M1 := hide (unhide MV w1 ((unhide H).up hW1))
      go_wp2_with fail
      refine (unhide M1).mono ?_
      rintro e w2 ⟨u2, rfl, o2, hb2⟩
      have O2 := hide o2
      clear o2
      go_wp2
      go_ret2
      exact ⟨_, by rw [unhide PN]; rfl, by rw [unhide PN]; exact g_based (unhide O2) hW1.size, hW1.trans (hb2.mono hW1.size)⟩
    | true =>
      have hrb : rightB ⟨lo, hi⟩ = false := by cases hx : rightB ⟨lo, hi⟩ with | false => rfl | true => exact absurd ⟨hok, hx⟩ hr
      rw [hok] at OK
      have RO := hide (fun W' => impl_rangeOk_any ⟨lo, hi⟩ W')
      rw [hrb] at RO
      go_enter Tryz.func12, Tryz.ntmps12
      go_wp2_with fail
      rw [← unhide HW]
      refine (unhide OK).mono ?_
      rintro e w1 ⟨rfl, hb1⟩
      have c0 := (hb1.cell (p := ⟨w.heap.size, 0, none⟩) hsz).trans e0
      have c1 := (hb1.cell (p := ⟨w.heap.size, 1, none⟩) hsz).trans e1
      go_wp2_with fail
      refine (unhide RO _).mono ?_
      rintro e w2 ⟨rfl, hb2⟩
      have hW2 := below2 hbW (below2 hb1 hb2)
      have M1 := hide (unhide MV w2 ((unhide H).up hW2))
      clear c0 c1
      go_wp2_with fail
      refine (unhide M1).mono ?_
      rintro e w3 ⟨u3, rfl, o3, hb3⟩
      have O3 := hide o3
      clear o3
      go_wp2
      go_ret2
      exact ⟨_, by rw [unhide PN]; rfl, by rw [unhide PN]; exact g_based (unhide O3) hW2.size, hW2.trans (hb3.mono hW2.size)⟩
end Go.Proofs.YtkmphclmealkeaaGreatDoor
