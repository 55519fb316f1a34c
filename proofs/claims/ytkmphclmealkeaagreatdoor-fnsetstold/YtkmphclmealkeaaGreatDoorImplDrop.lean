/- The program's SetDrop. -/
import Derived.Test.YtkmphclmealkeaaGreatDoorImplAdd
namespace Go.Proofs.YtkmphclmealkeaaGreatDoor
open Go.RowKit
open Plain
set_option linter.unusedVariables false

theorem flat_snoc {f : Rg → List Rg} {l : List Rg} {k : Nat} {m : Rg} (h : l[k]? = some m) : (l.take (k + 1)).flatMap f = (l.take k).flatMap f ++ f m := by
  rw [ok_snoc h, List.flatMap_append]
  simp
theorem flat_len {f : Rg → List Rg} {n : Nat} (h : ∀ r, (f r).length ≤ n) (l : List Rg) : (l.flatMap f).length ≤ l.length * n := by
  induction l with
  | nil => simp
  | cons u t ih =>
    rw [List.flatMap_cons, List.length_append, List.length_cons, Nat.add_mul]
    have := h u
    omega

set_option maxHeartbeats 4000000 in
set_option maxRecDepth 100000 in
theorem impl_SetDrop_any (s : List Rg) (v : Value) (lo hi : Int) (w : World) (hs : s.length ≤ 1048576) (h : ReadO w v s) :
    Calls Tryz.prog 14 #[v, .int .i64 lo, .int .i64 hi] w fun e w' => ∃ v', e = .returned (.tuple #[v', .bool (putV s lo hi false).2]) ∧ OwnR w.heap.size w' v' (putV s lo hi false).1 ∧ Below w.heap.size w w' := by
  obtain ⟨a, c, rfl, _, _⟩ := id h
  have H := hide h
  clear h
  have OK := hide (impl_SetOk_any s (.slice a s.length c) w hs (unhide H))
  have MV := hide (fun W' h => impl_moved_one (.slice a s.length c) s W' (by omega) h)
  by_cases hr : okS s = true ∧ rightB ⟨lo, hi⟩ = true
  · obtain ⟨hok, hrb⟩ := hr
    rw [hok] at OK
    have RO := hide (fun W' => impl_rangeOk_any ⟨lo, hi⟩ W')
    rw [hrb] at RO
    obtain ⟨q1, q2, q3⟩ := rightB_yes.1 hrb
    simp only at q1 q2 q3
    have b1 : IntKind.i64.wrap (lo - 1) = lo - 1 := by rw [IntKind.wrap_i64]; omega
    have b2 : IntKind.i64.wrap (hi + 1) = hi + 1 := by rw [IntKind.wrap_i64]; omega
    have CS := hide (fun W' h => impl_cutSet_any s (.slice a s.length c) lo hi w W' hs (unhide H) h)
    have PA := hide (put_fin (put_dropped (s := s) (lo := lo) (hi := hi) ⟨hok, q1, q2, q3⟩))
    have h40 := (okS_parts hok).2
    go_enter Tryz.func14, Tryz.ntmps14
    go_wp2_with fail
    refine (unhide OK).mono ?_
    rintro e w1 ⟨rfl, hb1⟩
    go_wp2_with fail
    refine (unhide RO _).mono ?_
    rintro e w2 ⟨rfl, hb2⟩
    have hW2 := below2 hb1 hb2
    have C2 := hide (unhide CS w2 ((unhide H).up hW2))
    go_wp2_with fail
    refine (unhide C2).mono ?_
    rintro e w3 ⟨v1, v2, v3, rfl, r1, r2, r3, hb3⟩
    have R1 := hide r1
    have R3 := hide r3
    have hW3 := below2 hW2 hb3
    clear hb1 hb2 hb3 hW2 OK RO CS C2 r1 r3
    obtain ⟨L, hL⟩ : ∃ L, L = metL s lo hi := ⟨_, rfl⟩
    rw [← hL] at r2
    have hLs : L.length ≤ 40 := by
      have := congrArg List.length (cut_all s lo hi)
      rw [hL]
      simp at this
      omega
    have HL := hide hL
    clear hL
    obtain ⟨ma, mc, rfl, hmc, hmr⟩ := id r2
    have M := hide r2
    clear r2 hmc hmr
    go_wp2
    go_loopw [11, 38] (fun u i wr => ∃ k : Nat, k ≤ L.length ∧ i = .int .i64 k ∧ OwnR w.heap.size wr u ((L.take k).flatMap (piecesL lo hi)) ∧ Below w.heap.size w wr) (fun _ i _ => L.length - (intOf i).toNat)
    case atStart => exact ⟨0, Nat.zero_le _, rfl, ⟨rfl, .inl ⟨rfl, rfl⟩⟩, hW3⟩
    case round =>
      obtain ⟨k, hk, rfl, how, hbel⟩ := hrel
      by_cases hlt : k < L.length
      · have hgk : L[k]? = some L[k] := List.getElem?_eq_getElem hlt
        obtain ⟨ma', mc', hv', _, hc'⟩ := (unhide M).up hbel
        cases hv'
        obtain ⟨g, o, hga, hgl, d0, d1⟩ := hc' k _ hgk
        subst hga
        have T := hide (flat_snoc (f := piecesL lo hi) hgk)
        have FL := flat_len (pieces_length lo hi) (L.take k)
        have FK : (L.take k).length = k := by simp; omega
        generalize L[k] = m at *
        obtain ⟨ml, mh⟩ := m
        simp only at d0 d1
        generalize (L.take k).flatMap (piecesL lo hi) = pl at *
        have hik : (0 : Int) ≤ (k : Int) := by omega
        have hil : (k : Int) < (L.length : Int) := by omega
        have hwr : w.heap.size ≤ wr.heap.size := hbel.size
        clear hgk hc'
        obtain ⟨W1, hW1⟩ : ∃ W1, W1 = wr.alloc (Obj.cells #[Value.int IntKind.i64 ml, Value.int IntKind.i64 mh] 32) := ⟨_, rfl⟩
        have hA : Below wr.heap.size wr W1 := by rw [hW1]; exact (Below.refl _ _).alloc (Nat.le_refl _) _
        have s0 : W1.cell? ⟨wr.heap.size, 0, none⟩ = some (.int .i64 ml) := by rw [hW1]; go_simp
        have s1 : W1.cell? ⟨wr.heap.size, 1, none⟩ = some (.int .i64 mh) := by rw [hW1]; go_simp
        have hsz1 : wr.heap.size < W1.heap.size := by rw [hW1]; simp
        have hB1 : Below w.heap.size w W1 := hbel.trans (hA.mono hwr)
        have O1 : OwnR w.heap.size W1 u11 pl := how.up hA
        have hlt1 : ∀ b, u11.ownBlock = some b → w.heap.size ≤ b ∧ b < wr.heap.size := fun b hb => how.lt b hb
        have X1 := hide (impl_withRange_any pl u11 ml (lo - 1) w.heap.size W1 (by omega) O1 hB1.size)
        obtain ⟨ua, uc, rfl⟩ := g_shape how
        have HW1 := hide hW1
        have HLT := hide hlt1
        clear hW1 hlt1 how O1
        go_wp2_with fail
        rw [← unhide HW1]
        refine (unhide X1).mono ?_
        rintro e w4 ⟨u4, rfl, o4, g4⟩
        have s4 : w4.cell? ⟨wr.heap.size, 1, none⟩ = some (.int .i64 mh) := (World.cell?_of_block (a := ⟨wr.heap.size, 1, none⟩) (g4.block _ hsz1 (fun e => absurd (unhide HLT wr.heap.size e.symm).2 (Nat.lt_irrefl _)))).trans s1
        have hB4 : Below w.heap.size w w4 := hB1.grown g4 hB1.size (fun b hb => (unhide HLT b hb).1)
        have hl4 : (withR pl ⟨ml, lo - 1⟩).length ≤ 1048576 := by have := withR_length pl ⟨ml, lo - 1⟩; omega
        have X2 := hide (impl_withRange_any _ u4 (hi + 1) mh w.heap.size w4 hl4 o4 hB4.size)
        have HLT4 : Hid (∀ b, u4.ownBlock = some b → w.heap.size ≤ b) := fun b hb => (o4.lt b hb).1
        obtain ⟨ua4, uc4, rfl⟩ := g_shape o4
        have PS := hide (pieces_step pl lo hi ⟨ml, mh⟩)
        clear o4 g4 X1 HW1 s0 s1
        go_wp2_with fail
        refine (unhide X2).mono ?_
        rintro e w5 ⟨u5, rfl, o5, g5⟩
        have hB5 : Below w.heap.size w w5 := hB4.grown g5 hB4.size (fun b hb => unhide HLT4 b hb)
        have O5 : Hid (OwnR w.heap.size w5 u5 ((L.take (k + 1)).flatMap (piecesL lo hi))) := by rw [unhide T, ← unhide PS]; exact o5
        clear o5 g5
        go_wp2
        go_roundw
        case rel => exact ⟨k + 1, by omega, by go_num, unhide O5, hB5⟩
        case measure => simp [intOf]; omega
      · obtain rfl : k = L.length := by omega
        rw [List.take_length] at how
        have AD : Hid (droppedL s lo hi = aheadL s lo ++ (L.flatMap (piecesL lo hi) ++ behindL s lo hi)) := by rw [unhide HL]; rfl
        have FL := flat_len (pieces_length lo hi) L
        have CL := congrArg List.length (cut_all s lo hi)
        simp at CL
        generalize L.flatMap (piecesL lo hi) = P at *
        have hln : (aheadL s lo).length + (P.length + (behindL s lo hi).length) ≤ 200 := by omega
        have hld : (droppedL s lo hi).length ≤ 200 := by rw [unhide AD]; simpa using hln
        have M3 := hide (impl_moved_three v1 u11 v3 _ _ _ wr (by omega) ((unhide R1).up hbel) how.wide ((unhide R3).up hbel))
        obtain ⟨a1, c1', hv1, _, _⟩ := unhide R1
        obtain ⟨a3, c3', hv3, _, _⟩ := unhide R3
        subst hv1
        subst hv3
        obtain ⟨ua, uc, rfl⟩ := g_shape how
        clear how CL FL
        go_wp2_with fail
        refine (unhide M3).mono ?_
        rintro e w5 ⟨r5, rfl, o5, hb5⟩
        have hW5 : Below w.heap.size w w5 := hbel.trans (hb5.mono hbel.size)
        have O5 : OwnR w.heap.size w5 r5 (droppedL s lo hi) := by rw [unhide AD]; exact g_based o5 hbel.size
        have OA := hide (impl_orAsItIs_any s (droppedL s lo hi) (.slice a s.length c) r5 w.heap.size w5 (by omega) (by omega) ((unhide H).up hW5) O5 hW5.size)
        obtain ⟨a5, c5, rfl⟩ := g_shape O5
        clear o5 O5
        go_wp2_with fail
        refine (unhide OA).mono ?_
        rintro e w6 ⟨v6, rfl, o6, hb6⟩
        have O6 := hide o6
        have hW6 : Below w.heap.size w w6 := hW5.trans (hb6.mono hW5.size)
        clear o6
        go_wp2
        go_ret2
        exact ⟨v6, by rw [(unhide PA).1]; rfl, by rw [(unhide PA).2]; exact unhide O6, hW6⟩
  · have PN := hide (putV_no (s := s) (lo := lo) (hi := hi) (c := false) (fun h => hr ⟨h.1, rightB_yes.2 h.2⟩))
    cases hok : okS s with
    | false =>
      rw [hok] at OK
      go_enter Tryz.func14, Tryz.ntmps14
      go_wp2_with fail
      refine (unhide OK).mono ?_
      rintro e w1 ⟨rfl, hb1⟩
      have M1 := hide (unhide MV w1 ((unhide H).up hb1))
      go_wp2_with fail
      refine (unhide M1).mono ?_
      rintro e w2 ⟨u2, rfl, o2, hb2⟩
      have O2 := hide o2
      clear o2
      go_wp2
      go_ret2
      exact ⟨_, by rw [unhide PN]; rfl, by rw [unhide PN]; exact g_based (unhide O2) hb1.size, hb1.trans (hb2.mono hb1.size)⟩
    | true =>
      have hrb : rightB ⟨lo, hi⟩ = false := by cases hx : rightB ⟨lo, hi⟩ with | false => rfl | true => exact absurd ⟨hok, hx⟩ hr
      rw [hok] at OK
      have RO := hide (fun W' => impl_rangeOk_any ⟨lo, hi⟩ W')
      rw [hrb] at RO
      go_enter Tryz.func14, Tryz.ntmps14
      go_wp2_with fail
      refine (unhide OK).mono ?_
      rintro e w1 ⟨rfl, hb1⟩
      go_wp2_with fail
      refine (unhide RO _).mono ?_
      rintro e w2 ⟨rfl, hb2⟩
      have hW2 := below2 hb1 hb2
      have M1 := hide (unhide MV w2 ((unhide H).up hW2))
      go_wp2_with fail
      refine (unhide M1).mono ?_
      rintro e w3 ⟨u3, rfl, o3, hb3⟩
      have O3 := hide o3
      clear o3
      go_wp2
      go_ret2
      exact ⟨_, by rw [unhide PN]; rfl, by rw [unhide PN]; exact g_based (unhide O3) hW2.size, hW2.trans (hb3.mono hW2.size)⟩
end Go.Proofs.YtkmphclmealkeaaGreatDoor
