/- The draws of chapter 8: a box that was made, written to, cleared. Made by gen_drawbox.py. -/
import Derived.Test.YtmedhmgihfenhaaBoxKeeps
import Derived.Test.YtmedhmgihfenhaaSetFlagsS
import Derived.Test.YtmedhmgihfenhaaExpungeS
import Derived.Test.YtmedhmgihfenhaaDrawMails
import Derived.Test.YtmedhmgihfenhaaDrawSets
import Derived.Test.YtmedhmgihfenhaaFlagRows
import Derived.Test.YtmedhmgihfenhaaRegA
import Derived.Test.YtmedhmgihfenhaaLate2
namespace Go.Proofs.Ytmedhmgihfenhaa
open Go.RowKit
open Plain
set_option linter.unusedVariables false
set_option linter.unusedSimpArgs false

namespace Plain
def boxNames : List ByteArray := [⟨#[105, 110, 98, 111, 120]⟩, ⟨#[119, 111, 114, 107]⟩, ⟨#[111, 108, 100]⟩]
theorem new_right {z : ByteArray} {v : Int} (hz : z ∈ boxNames) (h1 : 1 ≤ v) (h2 : v ≤ 9999) : boxOk (newBox z v) = true := by
  refine boxOk_all ?_ (fun i hi => absurd hi (Nat.not_lt_zero _)) (fun i hi => absurd hi (Nat.not_lt_zero _))
  have hn : nameOkL z.data.toList = true := by
    simp only [boxNames, List.mem_cons, List.not_mem_nil, or_false] at hz
    rcases hz with rfl | rfl | rfl <;> decide
  unfold headOk newBox
  simp only [Bool.and_eq_true]
  exact ⟨hn, inI_iff.2 ⟨h1, h2⟩, by decide, by decide, decide_eq_true (Nat.zero_le _), decide_eq_true (Nat.zero_le _), by decide⟩
theorem new_yes {z : ByteArray} {v : Int} (hz : z ∈ boxNames) (h1 : 1 ≤ v) (h2 : v ≤ 9999) : newV z v = (newBox z v, true) := if_pos (new_right hz h1 h2)
theorem name_small {z : ByteArray} (hz : z ∈ boxNames) : z.size ≤ 1048576 := by
  simp only [boxNames, List.mem_cons, List.not_mem_nil, or_false] at hz
  rcases hz with rfl | rfl | rfl <;> decide
theorem mail_small {t : ByteArray} (h : t.data.toList ∈ mailT) : t.size ≤ 1048576 := by
  have := (mail_facts _ h).1
  simp only [Bool.and_eq_true, decide_eq_true_eq] at this
  rw [show t.size = t.data.toList.length from by show t.data.size = _; rw [Array.length_toList]]
  omega
end Plain
theorem below_g0 {w w' : World} (h : Below w.heap.size w w') : w.grownBy w' none := ⟨h.os, h.tape, h.output, h.size, fun k hk _ => h.block k hk⟩
set_option maxHeartbeats 16000000 in
set_option maxRecDepth 100000 in
theorem l08Box_any (B c : Nat) (w : World) (hc : Cur B w c) :
    Calls Try.prog 26 #[.pointer (some ⟨c, 0, none⟩)] w fun e w' => ∃ b m t, e = .returned (boxV b m t) ∧ boxOk b = true ∧ OwnBx w.heap.size w' m t b ∧ Cur B w' c ∧ w.grownBy w' (some c) := by
  have hcl := hc.lt.2
  have CU := hide hc
  have BB := hide (g_self w (some c))
  have LIT := hide (fun (W : World) (n : Nat) (z : Int) (hz : z = (n : Int)) (hC : Cur B W c) (h0 : 0 < n) (h1 : n ≤ 4294967296) => belowS_lit B c n z hz W hC h0 h1)
  clear hc
  obtain ⟨w1, hR⟩ : ∃ X, X = w.alloc (.cells ([.string ⟨#[]⟩, .int .i64 0, .int .i64 0, .int .i64 0, .slice none 0 0, .slice none 0 0, .int .i64 0] : List Value).toArray 27) := ⟨_, rfl⟩
  have Rx : HasObj w1 w.heap.size 27 [.string ⟨#[]⟩, .int .i64 0, .int .i64 0, .int .i64 0, .slice none 0 0, .slice none 0 0, .int .i64 0] := by rw [hR]; exact HasObj.new _ _ _
  have hbn : Below w.heap.size w w1 := by rw [hR]; exact (Below.refl _ _).alloc (Nat.le_refl _) _
  have loR : w.heap.size ≤ w.heap.size := (unhide BB).size
  have ER := hR.symm
  clear hR
  have CU_ := hide ((unhide CU).kept (below_g0 hbn) (fun k hk => by cases hk))
  clear CU
  have CU := CU_
  clear CU_
  have sz1 := hide (hbn.size)
  have BB_ := hide (g_then (unhide BB) hbn)
  clear BB
  have BB := BB_
  clear BB_
  clear hbn
  have R := hide Rx
  clear Rx
  go_enter Try.func26, Try.ntmps26
  go_wp2_with fail
  clear ER
  refine (flag_str boxNames B c _ (unhide CU) (by decide) (by decide)).mono ?_
  rintro e w2 ⟨z, hz, rfl, hc, hg⟩
  have hz := hide hz
  have R_ := hide ((unhide R).kept hg (fun e => by have q1_ := Option.some.inj e; omega))
  clear R
  have R := R_
  clear R_
  have sz2 := hide (hg.size)
  have BB_ := hide (g_join (unhide BB) hg)
  clear BB
  have BB := BB_
  clear BB_
  clear CU
  have CU := hide hc
  clear hg hc
  go_wp2_with fail
  refine (unhide LIT _ 5 5 rfl (unhide CU) (by decide) (by decide)).mono ?_
  rintro e w3 ⟨x, hx, rfl, hc, hg⟩
  have R_ := hide ((unhide R).kept hg (fun e => by have q1_ := Option.some.inj e; omega))
  clear R
  have R := R_
  clear R_
  have sz3 := hide (hg.size)
  have BB_ := hide (g_join (unhide BB) hg)
  clear BB
  have BB := BB_
  clear BB_
  clear CU
  have CU := hide hc
  clear hg hc
  have n1 : IntKind.i64.wrap (1 + (x : Int)) = 1 + (x : Int) := by rw [IntKind.wrap_i64]; omega
  go_wp2_with fail
  refine (spec_BoxNew_any z (1 + (x : Int)) _ (name_small (unhide hz))).mono ?_
  rintro e w4 ⟨rfl, hb⟩
  have CU_ := hide ((unhide CU).kept (below_g0 hb) (fun k hk => by cases hk))
  clear CU
  have CU := CU_
  clear CU_
  have R_ := hide ((unhide R).ups hb)
  clear R
  have R := R_
  clear R_
  have sz4 := hide (hb.size)
  have BB_ := hide (g_then (unhide BB) hb)
  clear BB
  have BB := BB_
  clear BB_
  clear hb
  rw [new_yes (unhide hz) (by omega) (by omega)]
  have OK0 : Hid (boxOk (newBox z (1 + (x : Int))) = true) := new_right (unhide hz) (by omega) (by omega)
  obtain ⟨b0, hb0⟩ : ∃ b0, b0 = newBox z (1 + (x : Int)) := ⟨_, rfl⟩
  have M0 : Hid (b0.mails = [] ∧ b0.tombs = []) := by rw [hb0]; exact ⟨rfl, rfl⟩
  rw [← hb0] at OK0 ⊢
  clear hb0 n1 hx
  obtain ⟨w5, hQ⟩ : ∃ X, X = w4.alloc (.cells ([.string b0.name, .int .i64 b0.valid, .int .i64 b0.next, .int .i64 b0.mod, .slice none 0 0, .slice none 0 0, .int .i64 b0.hor] : List Value).toArray 27) := ⟨_, rfl⟩
  have Qx : HasObj w5 w4.heap.size 27 [.string b0.name, .int .i64 b0.valid, .int .i64 b0.next, .int .i64 b0.mod, .slice none 0 0, .slice none 0 0, .int .i64 b0.hor] := by rw [hQ]; exact HasObj.new _ _ _
  have hbn : Below w4.heap.size w4 w5 := by rw [hQ]; exact (Below.refl _ _).alloc (Nat.le_refl _) _
  have neRQ : w.heap.size ≠ w4.heap.size := Nat.ne_of_lt (unhide R).lt
  have loQ : w.heap.size ≤ w4.heap.size := (unhide BB).size
  have EQ := hQ.symm
  clear hQ
  have CU_ := hide ((unhide CU).kept (below_g0 hbn) (fun k hk => by cases hk))
  clear CU
  have CU := CU_
  clear CU_
  have R_ := hide ((unhide R).ups hbn)
  clear R
  have R := R_
  clear R_
  have sz5 := hide (hbn.size)
  have BB_ := hide (g_then (unhide BB) hbn)
  clear BB
  have BB := BB_
  clear BB_
  clear hbn
  have Q := hide Qx
  clear Qx
  go_wp2
  clear EQ
  obtain ⟨REL, HREL⟩ : ∃ REL : Value → World → Prop, Hid (REL = fun i wr => ∃ (k : Nat) (b : Bx) (m t : Value), k ≤ 17 ∧ i = .int .i64 k ∧ boxOk b = true ∧ HasObj wr (w4.heap.size) 27 [.string b.name, .int .i64 b.valid, .int .i64 b.next, .int .i64 b.mod, m, t, .int .i64 b.hor] ∧ HasObj wr (w.heap.size) 27 [.string ⟨#[]⟩, .int .i64 0, .int .i64 0, .int .i64 0, .slice none 0 0, .slice none 0 0, .int .i64 0] ∧ OwnBx w.heap.size wr m t b ∧ Cur B wr c ∧ w.grownBy wr (some c)) := ⟨_, rfl⟩
  go_loopw [5] (fun i wr => REL i wr) (fun i _ => 18 - (intOf i).toNat)
  case atStart => rw [unhide HREL]; exact ⟨0, b0, _, _, by omega, rfl, unhide OK0, unhide Q, unhide R, ⟨by rw [(unhide M0).1]; exact World.ownsRow_nil _ _ _ _, by rw [(unhide M0).2]; exact World.ownsRow_nil _ _ _ _⟩, unhide CU, unhide BB⟩
  clear Q R CU BB OK0 M0
  case round =>
    rw [unhide HREL] at hrel
    obtain ⟨k, b, m, t, hk, rfl, hok, oQ, oR, oB, cu, gr⟩ := hrel
    obtain ⟨wo, hwo⟩ : ∃ wo, wo = wr := ⟨_, rfl⟩
    subst hwo
    obtain ⟨am, cm, rfl⟩ := g_shape oB.1
    obtain ⟨at1, ct1, rfl⟩ := g_shape oB.2
    have FIT := hide (fit_ok hok)
    have OK := hide hok
    have hmod := inI_iff.1 (head_parts (boxOk_iff.1 hok).1).2.2.2.1
    have h30 := (head_parts (boxOk_iff.1 hok).1).2.2.2.2.1
    have nm : IntKind.i64.wrap (b.mod + 1) = b.mod + 1 := by rw [IntKind.wrap_i64]; omega
    have Q := hide oQ
    have R := hide oR
    have OB := hide oB
    have CU := hide cu
    have BB := hide gr
    have LBOB : Hid (w.heap.size ≤ w.heap.size) := Nat.le_refl _
    clear oQ oR oB cu gr hok
    go_wp2_with fail
    refine (unhide LIT _ 16 16 rfl (unhide CU) (by decide) (by decide)).mono ?_
    rintro e wr1 ⟨x1, hx1, rfl, hc, hg⟩
    have R_ := hide ((unhide R).kept hg (fun e => by have q1_ := Option.some.inj e; omega))
    clear R
    have R := R_
    clear R_
    have Q_ := hide ((unhide Q).kept hg (fun e => by have q1_ := Option.some.inj e; omega))
    clear Q
    have Q := Q_
    clear Q_
    have OB_ : Hid (OwnBx w.heap.size wr1 (.slice am b.mails.length cm) (.slice at1 b.tombs.length ct1) b) := ⟨g_aside (unhide OB).1 hg (fun z hz hz2 => by have q1_ := Option.some.inj hz; have q2_ := (World.ownsRow.lt (unhide OB).1 z hz2).1; have q3_ := unhide LBOB; omega), g_aside (unhide OB).2 hg (fun z hz hz2 => by have q1_ := Option.some.inj hz; have q2_ := (World.ownsRow.lt (unhide OB).2 z hz2).1; have q3_ := unhide LBOB; omega)⟩
    clear OB
    have OB := OB_
    clear OB_
    have sz101 := hide (hg.size)
    have BB_ := hide (g_join (unhide BB) hg)
    clear BB
    have BB := BB_
    clear BB_
    clear CU
    have CU := hide hc
    clear hg hc
    have n2 : IntKind.i64.wrap (2 + (x1 : Int)) = 2 + (x1 : Int) := by rw [IntKind.wrap_i64]; omega
    by_cases hlt : (k : Int) < 2 + (x1 : Int)
    · have dl : decide ((k : Int) < 2 + (x1 : Int)) = true := decide_eq_true hlt
      go_wp2_with fail
      refine (unhide LIT _ 6 6 rfl (unhide CU) (by decide) (by decide)).mono ?_
      rintro e wy2 ⟨x2, hx2, rfl, hc, hg⟩
      have R_ := hide ((unhide R).kept hg (fun e => by have q1_ := Option.some.inj e; omega))
      clear R
      have R := R_
      clear R_
      have Q_ := hide ((unhide Q).kept hg (fun e => by have q1_ := Option.some.inj e; omega))
      clear Q
      have Q := Q_
      clear Q_
      have OB_ : Hid (OwnBx w.heap.size wy2 (.slice am b.mails.length cm) (.slice at1 b.tombs.length ct1) b) := ⟨g_aside (unhide OB).1 hg (fun z hz hz2 => by have q1_ := Option.some.inj hz; have q2_ := (World.ownsRow.lt (unhide OB).1 z hz2).1; have q3_ := unhide LBOB; omega), g_aside (unhide OB).2 hg (fun z hz hz2 => by have q1_ := Option.some.inj hz; have q2_ := (World.ownsRow.lt (unhide OB).2 z hz2).1; have q3_ := unhide LBOB; omega)⟩
      clear OB
      have OB := OB_
      clear OB_
      have sz102 := hide (hg.size)
      have BB_ := hide (g_join (unhide BB) hg)
      clear BB
      have BB := BB_
      clear BB_
      clear CU
      have CU := hide hc
      clear hg hc
      clear dl n2
      have hx6 : x2 = 0 ∨ x2 = 1 ∨ x2 = 2 ∨ x2 = 3 ∨ x2 = 4 ∨ x2 = 5 := by omega
      rcases hx6 with rfl | rfl | rfl | rfl | rfl | rfl
      · simp only [show ((0 : Nat) : Int) = 0 from rfl]
        have Qc0_1 := (unhide Q).cell 0 rfl
        have Qc1_1 := (unhide Q).cell 1 rfl
        have Qc2_1 := (unhide Q).cell 2 rfl
        have Qc3_1 := (unhide Q).cell 3 rfl
        have Qc4_1 := (unhide Q).cell 4 rfl
        have Qc5_1 := (unhide Q).cell 5 rfl
        have Qc6_1 := (unhide Q).cell 6 rfl
        go_wp2
        refine lat2Begin (S := fun w' => w'.cell? ⟨w4.heap.size, 0, none⟩ = some (.string b.name) ∧ w'.cell? ⟨w4.heap.size, 1, none⟩ = some (.int .i64 b.valid) ∧ w'.cell? ⟨w4.heap.size, 2, none⟩ = some (.int .i64 b.next) ∧ w'.cell? ⟨w4.heap.size, 3, none⟩ = some (.int .i64 b.mod) ∧ w'.cell? ⟨w4.heap.size, 4, none⟩ = some (.slice am b.mails.length cm) ∧ w'.cell? ⟨w4.heap.size, 5, none⟩ = some (.slice at1 b.tombs.length ct1) ∧ w'.cell? ⟨w4.heap.size, 6, none⟩ = some (.int .i64 b.hor)) 9 (by kernel_rfl) (⟨(unhide Q).cell 0 rfl, (unhide Q).cell 1 rfl, (unhide Q).cell 2 rfl, (unhide Q).cell 3 rfl, (unhide Q).cell 4 rfl, (unhide Q).cell 5 rfl, (unhide Q).cell 6 rfl⟩) (fun hHeld => ?_)
        clear Qc0_1 Qc1_1 Qc2_1 Qc3_1 Qc4_1 Qc5_1 Qc6_1
        have CU_ : Hid (Cur B wy2.drew c) := (unhide CU).kept (g_drew (g_self _ none)) (fun k hk => by cases hk)
        clear CU
        have CU := CU_
        clear CU_
        have R_ := hide ((unhide R).drew)
        clear R
        have R := R_
        clear R_
        have Q_ := hide ((unhide Q).drew)
        clear Q
        have Q := Q_
        clear Q_
        have OB_ := hide ((unhide OB).drew)
        clear OB
        have OB := OB_
        clear OB_
        have BB_ := hide (g_drew (unhide BB))
        clear BB
        have BB := BB_
        clear BB_
        have sz103 : Hid (wy2.heap.size ≤ wy2.drew.heap.size) := Nat.le_refl _
        refine lat2Take 0 (some 39) ?_ rfl (by kernel_rfl) (by kernel_rfl) (by kernel_rfl) (by kernel_rfl) rfl (fun _ _ _ h => h) (by rfl) (by assumption) ?_ ?_
        rotate_left
        · (intro w hSw; (try dsimp only at hSw); go_simp <;> with_reducible rfl)
        simp only [Act.put, List.setIfInBounds_toArray, List.set_cons_zero, List.set_cons_succ]
        refine lat2Take 1 (some 40) ?_ rfl (by kernel_rfl) (by kernel_rfl) (by kernel_rfl) (by kernel_rfl) rfl (fun _ _ _ h => h) (by rfl) (by assumption) ?_ ?_
        rotate_left
        · (intro w hSw; (try dsimp only at hSw); go_simp <;> with_reducible rfl)
        simp only [Act.put, List.setIfInBounds_toArray, List.set_cons_zero, List.set_cons_succ]
        refine lat2Take 3 (some 42) ?_ rfl (by kernel_rfl) (by kernel_rfl) (by kernel_rfl) (by kernel_rfl) rfl (fun _ _ _ h => h) (by rfl) (by assumption) ?_ ?_
        rotate_left
        · (intro w hSw; (try dsimp only at hSw); go_simp <;> with_reducible rfl)
        simp only [Act.put, List.setIfInBounds_toArray, List.set_cons_zero, List.set_cons_succ]
        refine lat2Step 2 (by kernel_rfl) rfl (by rfl) (fun K hK => ?_)
        go_simp
        refine (unhide LIT _ 32 32 rfl (unhide CU) (by decide) (by decide)).mono ?_
        rintro e wy03 ⟨f, hf, rfl, hc, hg⟩
        have R_ := hide ((unhide R).kept hg (fun e => by have q1_ := Option.some.inj e; omega))
        clear R
        have R := R_
        clear R_
        have Q_ := hide ((unhide Q).kept hg (fun e => by have q1_ := Option.some.inj e; omega))
        clear Q
        have Q := Q_
        clear Q_
        have OB_ : Hid (OwnBx w.heap.size wy03 (.slice am b.mails.length cm) (.slice at1 b.tombs.length ct1) b) := ⟨g_aside (unhide OB).1 hg (fun z hz hz2 => by have q1_ := Option.some.inj hz; have q2_ := (World.ownsRow.lt (unhide OB).1 z hz2).1; have q3_ := unhide LBOB; omega), g_aside (unhide OB).2 hg (fun z hz hz2 => by have q1_ := Option.some.inj hz; have q2_ := (World.ownsRow.lt (unhide OB).2 z hz2).1; have q3_ := unhide LBOB; omega)⟩
        clear OB
        have OB := OB_
        clear OB_
        have sz104 := hide (hg.size)
        have BB_ := hide (g_join (unhide BB) hg)
        clear BB
        have BB := BB_
        clear BB_
        clear CU
        have CU := hide hc
        clear hg hc
        go_wp2_with fail
        refine hK.out _ _ (⟨(unhide Q).cell 0 rfl, (unhide Q).cell 1 rfl, (unhide Q).cell 2 rfl, (unhide Q).cell 3 rfl, (unhide Q).cell 4 rfl, (unhide Q).cell 5 rfl, (unhide Q).cell 6 rfl⟩) (fun hHeld2 => ?_)
        clear hK K hHeld
        have hHeld := hHeld2; clear hHeld2
        try simp only [Act.put, List.setIfInBounds_toArray, List.set_cons_zero, List.set_cons_succ]
        refine lat2Step 4 (by kernel_rfl) rfl (by rfl) (fun K hK => ?_)
        go_simp
        refine (l07Mail_any B c _ (unhide CU)).mono ?_
        rintro e wy04 ⟨tx, htx, rfl, hc, hg⟩
        have htx := hide htx
        have R_ := hide ((unhide R).kept hg (fun e => by have q1_ := Option.some.inj e; omega))
        clear R
        have R := R_
        clear R_
        have Q_ := hide ((unhide Q).kept hg (fun e => by have q1_ := Option.some.inj e; omega))
        clear Q
        have Q := Q_
        clear Q_
        have OB_ : Hid (OwnBx w.heap.size wy04 (.slice am b.mails.length cm) (.slice at1 b.tombs.length ct1) b) := ⟨g_aside (unhide OB).1 hg (fun z hz hz2 => by have q1_ := Option.some.inj hz; have q2_ := (World.ownsRow.lt (unhide OB).1 z hz2).1; have q3_ := unhide LBOB; omega), g_aside (unhide OB).2 hg (fun z hz hz2 => by have q1_ := Option.some.inj hz; have q2_ := (World.ownsRow.lt (unhide OB).2 z hz2).1; have q3_ := unhide LBOB; omega)⟩
        clear OB
        have OB := OB_
        clear OB_
        have sz105 := hide (hg.size)
        have BB_ := hide (g_join (unhide BB) hg)
        clear BB
        have BB := BB_
        clear BB_
        clear CU
        have CU := hide hc
        clear hg hc
        go_wp2_with fail
        refine hK.out _ _ (⟨(unhide Q).cell 0 rfl, (unhide Q).cell 1 rfl, (unhide Q).cell 2 rfl, (unhide Q).cell 3 rfl, (unhide Q).cell 4 rfl, (unhide Q).cell 5 rfl, (unhide Q).cell 6 rfl⟩) (fun hHeld2 => ?_)
        clear hK K hHeld
        have hHeld := hHeld2; clear hHeld2
        try simp only [Act.put, List.setIfInBounds_toArray, List.set_cons_zero, List.set_cons_succ]
        refine lat2Step 5 (by kernel_rfl) rfl (by rfl) (fun K hK => ?_)
        go_simp
        refine (spec_AddMail_any b _ _ _ (f : Int) tx _ (unhide FIT) (by omega) (mail_small (unhide htx)) (unhide OB)).mono ?_
        rintro e wy05 ⟨m5, t5, rfl, o5, hb⟩
        obtain ⟨bn, hbn⟩ : ∃ x, x = (addV b (f : Int) tx).1 := ⟨_, rfl⟩
        have OKN : Hid (boxOk bn = true) := by show _ = _; rw [hbn]; exact add_keeps (unhide OK)
        rw [← hbn] at o5 ⊢
        clear hbn
        obtain ⟨an, cn, rfl⟩ := g_shape o5.1
        obtain ⟨an2, cn2, rfl⟩ := g_shape o5.2
        have LBON : Hid (w.heap.size ≤ wy04.heap.size) := (unhide BB).size
        have ON := hide o5
        clear o5 OB
        have CU_ := hide ((unhide CU).kept (below_g0 hb) (fun k hk => by cases hk))
        clear CU
        have CU := CU_
        clear CU_
        have R_ := hide ((unhide R).ups hb)
        clear R
        have R := R_
        clear R_
        have Q_ := hide ((unhide Q).ups hb)
        clear Q
        have Q := Q_
        clear Q_
        have sz106 := hide (hb.size)
        have BB_ := hide (g_then (unhide BB) hb)
        clear BB
        have BB := BB_
        clear BB_
        clear hb
        go_wp2_with fail
        refine hK.out _ _ (⟨(unhide Q).cell 0 rfl, (unhide Q).cell 1 rfl, (unhide Q).cell 2 rfl, (unhide Q).cell 3 rfl, (unhide Q).cell 4 rfl, (unhide Q).cell 5 rfl, (unhide Q).cell 6 rfl⟩) (fun hHeld2 => ?_)
        clear hK K hHeld
        have hHeld := hHeld2; clear hHeld2
        try simp only [Act.put, List.setIfInBounds_toArray, List.set_cons_zero, List.set_cons_succ]
        refine lat2Take 6 (some 38) ?_ rfl (by kernel_rfl) (by kernel_rfl) (by kernel_rfl) (by kernel_rfl) rfl (fun _ _ _ h => h) (by rfl) (by assumption) ?_ ?_
        rotate_left
        · (intro w hSw; (try dsimp only at hSw); go_simp <;> with_reducible rfl)
        simp only [Act.put, List.setIfInBounds_toArray, List.set_cons_zero, List.set_cons_succ]
        refine lat2Pure 8 (some 46) ?_ rfl (by kernel_rfl) (by kernel_rfl) (by kernel_rfl) rfl (fun _ _ _ h => h) (by rfl) ?_ ?_
        rotate_left
        · (intro w hSw; (try dsimp only at hSw); go_simp <;> with_reducible rfl)
        simp only [Act.put, List.setIfInBounds_toArray, List.set_cons_zero, List.set_cons_succ]
        refine lat2Take 7 (some 45) ?_ rfl (by kernel_rfl) (by kernel_rfl) (by kernel_rfl) (by kernel_rfl) rfl (fun _ _ _ h => h) (by rfl) (by assumption) ?_ ?_
        rotate_left
        · (intro w hSw; (try dsimp only at hSw); go_simp <;> with_reducible rfl)
        simp only [Act.put, List.setIfInBounds_toArray, List.set_cons_zero, List.set_cons_succ]
        have Qf0 := (unhide Q).frozen 0
        have Qf1 := (unhide Q).frozen 1
        have Qf2 := (unhide Q).frozen 2
        have Qf3 := (unhide Q).frozen 3
        have Qf4 := (unhide Q).frozen 4
        have Qf5 := (unhide Q).frozen 5
        have Qf6 := (unhide Q).frozen 6
        have Qe0 := (unhide Q).cell 0 rfl
        have Qe1 := (unhide Q).cell 1 rfl
        have Qe2 := (unhide Q).cell 2 rfl
        have Qe3 := (unhide Q).cell 3 rfl
        have Qe4 := (unhide Q).cell 4 rfl
        have Qe5 := (unhide Q).cell 5 rfl
        have Qe6 := (unhide Q).cell 6 rfl
        have F_ := hide (fill7 (unhide Q) (.string bn.name) (.int .i64 bn.valid) (.int .i64 bn.next) (.int .i64 bn.mod) (.slice an bn.mails.length cn) (.slice an2 bn.tombs.length cn2) (.int .i64 bn.hor))
        refine lat2Last 9 (by decide) (by kernel_rfl) rfl (by rfl) (fun K hK => ?_)
        go_simp
        refine hK.out _ _ ?_
        clear hK K hHeld
        try simp only [Act.put, List.setIfInBounds_toArray, List.set_cons_zero, List.set_cons_succ]
        obtain ⟨wy06, hU⟩ : ∃ U, U = (((((((wy05.setCell ⟨w4.heap.size, 0, none⟩ (.string bn.name)).setCell ⟨w4.heap.size, 1, none⟩ (.int .i64 bn.valid)).setCell ⟨w4.heap.size, 2, none⟩ (.int .i64 bn.next)).setCell ⟨w4.heap.size, 3, none⟩ (.int .i64 bn.mod)).setCell ⟨w4.heap.size, 4, none⟩ (.slice an bn.mails.length cn)).setCell ⟨w4.heap.size, 5, none⟩ (.slice an2 bn.tombs.length cn2)).setCell ⟨w4.heap.size, 6, none⟩ (.int .i64 bn.hor)) := ⟨_, rfl⟩
        have GU : wy05.grownBy wy06 (some (w4.heap.size)) := by rw [hU]; exact g_store (g_store (g_store (g_store (g_store (g_store (g_store (g_self _ _) _) _) _) _) _) _) _
        have F := unhide F_
        rw [← hU] at F ⊢
        clear hU F_
        clear Qf0 Qf1 Qf2 Qf3 Qf4 Qf5 Qf6 Qe0 Qe1 Qe2 Qe3 Qe4 Qe5 Qe6
        have CU_ := hide ((unhide CU).kept GU (fun k hk => by have q1_ := Option.some.inj hk; omega))
        have R_ := hide (F.other neRQ (unhide R))
        have Q_ := hide (F.obj)
        have ON_ : Hid (OwnBx wy04.heap.size wy06 (.slice an bn.mails.length cn) (.slice an2 bn.tombs.length cn2) bn) := ⟨F.row (by decide) (unhide ON).1, F.row (by decide) (unhide ON).2⟩
        have BB_ : Hid (w.grownBy wy06 (some c)) := g_new (unhide BB) GU (fun k hk => by have q1_ := Option.some.inj hk; omega)
        clear R
        have R := R_
        clear R_
        clear Q
        have Q := Q_
        clear Q_
        clear ON
        have ON := ON_
        clear ON_
        clear BB
        have BB := BB_
        clear BB_
        clear CU
        have CU := CU_
        clear CU_
        clear F GU
        refine lat2Done (by kernel_rfl) ?_ _
        go_wp2
        go_roundw
        case rel => rw [unhide HREL]; exact ⟨k + 1, bn, _, _, by omega, by go_num, unhide OKN, unhide Q, unhide R, ⟨g_based (unhide ON).1 (unhide LBON), g_based (unhide ON).2 (unhide LBON)⟩, unhide CU, unhide BB⟩
        case measure => simp [intOf]; omega
      · simp only [show ((1 : Nat) : Int) = 1 from rfl]
        have Qc0_1 := (unhide Q).cell 0 rfl
        have Qc1_1 := (unhide Q).cell 1 rfl
        have Qc2_1 := (unhide Q).cell 2 rfl
        have Qc3_1 := (unhide Q).cell 3 rfl
        have Qc4_1 := (unhide Q).cell 4 rfl
        have Qc5_1 := (unhide Q).cell 5 rfl
        have Qc6_1 := (unhide Q).cell 6 rfl
        go_wp2
        refine lat2Begin (S := fun w' => w'.cell? ⟨w4.heap.size, 0, none⟩ = some (.string b.name) ∧ w'.cell? ⟨w4.heap.size, 1, none⟩ = some (.int .i64 b.valid) ∧ w'.cell? ⟨w4.heap.size, 2, none⟩ = some (.int .i64 b.next) ∧ w'.cell? ⟨w4.heap.size, 3, none⟩ = some (.int .i64 b.mod) ∧ w'.cell? ⟨w4.heap.size, 4, none⟩ = some (.slice am b.mails.length cm) ∧ w'.cell? ⟨w4.heap.size, 5, none⟩ = some (.slice at1 b.tombs.length ct1) ∧ w'.cell? ⟨w4.heap.size, 6, none⟩ = some (.int .i64 b.hor)) 9 (by kernel_rfl) (⟨(unhide Q).cell 0 rfl, (unhide Q).cell 1 rfl, (unhide Q).cell 2 rfl, (unhide Q).cell 3 rfl, (unhide Q).cell 4 rfl, (unhide Q).cell 5 rfl, (unhide Q).cell 6 rfl⟩) (fun hHeld => ?_)
        clear Qc0_1 Qc1_1 Qc2_1 Qc3_1 Qc4_1 Qc5_1 Qc6_1
        have CU_ : Hid (Cur B wy2.drew c) := (unhide CU).kept (g_drew (g_self _ none)) (fun k hk => by cases hk)
        clear CU
        have CU := CU_
        clear CU_
        have R_ := hide ((unhide R).drew)
        clear R
        have R := R_
        clear R_
        have Q_ := hide ((unhide Q).drew)
        clear Q
        have Q := Q_
        clear Q_
        have OB_ := hide ((unhide OB).drew)
        clear OB
        have OB := OB_
        clear OB_
        have BB_ := hide (g_drew (unhide BB))
        clear BB
        have BB := BB_
        clear BB_
        have sz103 : Hid (wy2.heap.size ≤ wy2.drew.heap.size) := Nat.le_refl _
        refine lat2Take 0 (some 39) ?_ rfl (by kernel_rfl) (by kernel_rfl) (by kernel_rfl) (by kernel_rfl) rfl (fun _ _ _ h => h) (by rfl) (by assumption) ?_ ?_
        rotate_left
        · (intro w hSw; (try dsimp only at hSw); go_simp <;> with_reducible rfl)
        simp only [Act.put, List.setIfInBounds_toArray, List.set_cons_zero, List.set_cons_succ]
        refine lat2Take 1 (some 40) ?_ rfl (by kernel_rfl) (by kernel_rfl) (by kernel_rfl) (by kernel_rfl) rfl (fun _ _ _ h => h) (by rfl) (by assumption) ?_ ?_
        rotate_left
        · (intro w hSw; (try dsimp only at hSw); go_simp <;> with_reducible rfl)
        simp only [Act.put, List.setIfInBounds_toArray, List.set_cons_zero, List.set_cons_succ]
        refine lat2Take 3 (some 42) ?_ rfl (by kernel_rfl) (by kernel_rfl) (by kernel_rfl) (by kernel_rfl) rfl (fun _ _ _ h => h) (by rfl) (by assumption) ?_ ?_
        rotate_left
        · (intro w hSw; (try dsimp only at hSw); go_simp <;> with_reducible rfl)
        simp only [Act.put, List.setIfInBounds_toArray, List.set_cons_zero, List.set_cons_succ]
        refine lat2Step 2 (by kernel_rfl) rfl (by rfl) (fun K hK => ?_)
        go_simp
        refine (unhide LIT _ 32 32 rfl (unhide CU) (by decide) (by decide)).mono ?_
        rintro e wy13 ⟨f, hf, rfl, hc, hg⟩
        have R_ := hide ((unhide R).kept hg (fun e => by have q1_ := Option.some.inj e; omega))
        clear R
        have R := R_
        clear R_
        have Q_ := hide ((unhide Q).kept hg (fun e => by have q1_ := Option.some.inj e; omega))
        clear Q
        have Q := Q_
        clear Q_
        have OB_ : Hid (OwnBx w.heap.size wy13 (.slice am b.mails.length cm) (.slice at1 b.tombs.length ct1) b) := ⟨g_aside (unhide OB).1 hg (fun z hz hz2 => by have q1_ := Option.some.inj hz; have q2_ := (World.ownsRow.lt (unhide OB).1 z hz2).1; have q3_ := unhide LBOB; omega), g_aside (unhide OB).2 hg (fun z hz hz2 => by have q1_ := Option.some.inj hz; have q2_ := (World.ownsRow.lt (unhide OB).2 z hz2).1; have q3_ := unhide LBOB; omega)⟩
        clear OB
        have OB := OB_
        clear OB_
        have sz104 := hide (hg.size)
        have BB_ := hide (g_join (unhide BB) hg)
        clear BB
        have BB := BB_
        clear BB_
        clear CU
        have CU := hide hc
        clear hg hc
        go_wp2_with fail
        refine hK.out _ _ (⟨(unhide Q).cell 0 rfl, (unhide Q).cell 1 rfl, (unhide Q).cell 2 rfl, (unhide Q).cell 3 rfl, (unhide Q).cell 4 rfl, (unhide Q).cell 5 rfl, (unhide Q).cell 6 rfl⟩) (fun hHeld2 => ?_)
        clear hK K hHeld
        have hHeld := hHeld2; clear hHeld2
        try simp only [Act.put, List.setIfInBounds_toArray, List.set_cons_zero, List.set_cons_succ]
        refine lat2Step 4 (by kernel_rfl) rfl (by rfl) (fun K hK => ?_)
        go_simp
        refine (l07Mail_any B c _ (unhide CU)).mono ?_
        rintro e wy14 ⟨tx, htx, rfl, hc, hg⟩
        have htx := hide htx
        have R_ := hide ((unhide R).kept hg (fun e => by have q1_ := Option.some.inj e; omega))
        clear R
        have R := R_
        clear R_
        have Q_ := hide ((unhide Q).kept hg (fun e => by have q1_ := Option.some.inj e; omega))
        clear Q
        have Q := Q_
        clear Q_
        have OB_ : Hid (OwnBx w.heap.size wy14 (.slice am b.mails.length cm) (.slice at1 b.tombs.length ct1) b) := ⟨g_aside (unhide OB).1 hg (fun z hz hz2 => by have q1_ := Option.some.inj hz; have q2_ := (World.ownsRow.lt (unhide OB).1 z hz2).1; have q3_ := unhide LBOB; omega), g_aside (unhide OB).2 hg (fun z hz hz2 => by have q1_ := Option.some.inj hz; have q2_ := (World.ownsRow.lt (unhide OB).2 z hz2).1; have q3_ := unhide LBOB; omega)⟩
        clear OB
        have OB := OB_
        clear OB_
        have sz105 := hide (hg.size)
        have BB_ := hide (g_join (unhide BB) hg)
        clear BB
        have BB := BB_
        clear BB_
        clear CU
        have CU := hide hc
        clear hg hc
        go_wp2_with fail
        refine hK.out _ _ (⟨(unhide Q).cell 0 rfl, (unhide Q).cell 1 rfl, (unhide Q).cell 2 rfl, (unhide Q).cell 3 rfl, (unhide Q).cell 4 rfl, (unhide Q).cell 5 rfl, (unhide Q).cell 6 rfl⟩) (fun hHeld2 => ?_)
        clear hK K hHeld
        have hHeld := hHeld2; clear hHeld2
        try simp only [Act.put, List.setIfInBounds_toArray, List.set_cons_zero, List.set_cons_succ]
        refine lat2Step 5 (by kernel_rfl) rfl (by rfl) (fun K hK => ?_)
        go_simp
        refine (spec_AddMail_any b _ _ _ (f : Int) tx _ (unhide FIT) (by omega) (mail_small (unhide htx)) (unhide OB)).mono ?_
        rintro e wy15 ⟨m5, t5, rfl, o5, hb⟩
        obtain ⟨bn, hbn⟩ : ∃ x, x = (addV b (f : Int) tx).1 := ⟨_, rfl⟩
        have OKN : Hid (boxOk bn = true) := by show _ = _; rw [hbn]; exact add_keeps (unhide OK)
        rw [← hbn] at o5 ⊢
        clear hbn
        obtain ⟨an, cn, rfl⟩ := g_shape o5.1
        obtain ⟨an2, cn2, rfl⟩ := g_shape o5.2
        have LBON : Hid (w.heap.size ≤ wy14.heap.size) := (unhide BB).size
        have ON := hide o5
        clear o5 OB
        have CU_ := hide ((unhide CU).kept (below_g0 hb) (fun k hk => by cases hk))
        clear CU
        have CU := CU_
        clear CU_
        have R_ := hide ((unhide R).ups hb)
        clear R
        have R := R_
        clear R_
        have Q_ := hide ((unhide Q).ups hb)
        clear Q
        have Q := Q_
        clear Q_
        have sz106 := hide (hb.size)
        have BB_ := hide (g_then (unhide BB) hb)
        clear BB
        have BB := BB_
        clear BB_
        clear hb
        go_wp2_with fail
        refine hK.out _ _ (⟨(unhide Q).cell 0 rfl, (unhide Q).cell 1 rfl, (unhide Q).cell 2 rfl, (unhide Q).cell 3 rfl, (unhide Q).cell 4 rfl, (unhide Q).cell 5 rfl, (unhide Q).cell 6 rfl⟩) (fun hHeld2 => ?_)
        clear hK K hHeld
        have hHeld := hHeld2; clear hHeld2
        try simp only [Act.put, List.setIfInBounds_toArray, List.set_cons_zero, List.set_cons_succ]
        refine lat2Take 6 (some 38) ?_ rfl (by kernel_rfl) (by kernel_rfl) (by kernel_rfl) (by kernel_rfl) rfl (fun _ _ _ h => h) (by rfl) (by assumption) ?_ ?_
        rotate_left
        · (intro w hSw; (try dsimp only at hSw); go_simp <;> with_reducible rfl)
        simp only [Act.put, List.setIfInBounds_toArray, List.set_cons_zero, List.set_cons_succ]
        refine lat2Pure 8 (some 46) ?_ rfl (by kernel_rfl) (by kernel_rfl) (by kernel_rfl) rfl (fun _ _ _ h => h) (by rfl) ?_ ?_
        rotate_left
        · (intro w hSw; (try dsimp only at hSw); go_simp <;> with_reducible rfl)
        simp only [Act.put, List.setIfInBounds_toArray, List.set_cons_zero, List.set_cons_succ]
        refine lat2Take 7 (some 45) ?_ rfl (by kernel_rfl) (by kernel_rfl) (by kernel_rfl) (by kernel_rfl) rfl (fun _ _ _ h => h) (by rfl) (by assumption) ?_ ?_
        rotate_left
        · (intro w hSw; (try dsimp only at hSw); go_simp <;> with_reducible rfl)
        simp only [Act.put, List.setIfInBounds_toArray, List.set_cons_zero, List.set_cons_succ]
        have Qf0 := (unhide Q).frozen 0
        have Qf1 := (unhide Q).frozen 1
        have Qf2 := (unhide Q).frozen 2
        have Qf3 := (unhide Q).frozen 3
        have Qf4 := (unhide Q).frozen 4
        have Qf5 := (unhide Q).frozen 5
        have Qf6 := (unhide Q).frozen 6
        have Qe0 := (unhide Q).cell 0 rfl
        have Qe1 := (unhide Q).cell 1 rfl
        have Qe2 := (unhide Q).cell 2 rfl
        have Qe3 := (unhide Q).cell 3 rfl
        have Qe4 := (unhide Q).cell 4 rfl
        have Qe5 := (unhide Q).cell 5 rfl
        have Qe6 := (unhide Q).cell 6 rfl
        have F_ := hide (fill7 (unhide Q) (.string bn.name) (.int .i64 bn.valid) (.int .i64 bn.next) (.int .i64 bn.mod) (.slice an bn.mails.length cn) (.slice an2 bn.tombs.length cn2) (.int .i64 bn.hor))
        refine lat2Last 9 (by decide) (by kernel_rfl) rfl (by rfl) (fun K hK => ?_)
        go_simp
        refine hK.out _ _ ?_
        clear hK K hHeld
        try simp only [Act.put, List.setIfInBounds_toArray, List.set_cons_zero, List.set_cons_succ]
        obtain ⟨wy16, hU⟩ : ∃ U, U = (((((((wy15.setCell ⟨w4.heap.size, 0, none⟩ (.string bn.name)).setCell ⟨w4.heap.size, 1, none⟩ (.int .i64 bn.valid)).setCell ⟨w4.heap.size, 2, none⟩ (.int .i64 bn.next)).setCell ⟨w4.heap.size, 3, none⟩ (.int .i64 bn.mod)).setCell ⟨w4.heap.size, 4, none⟩ (.slice an bn.mails.length cn)).setCell ⟨w4.heap.size, 5, none⟩ (.slice an2 bn.tombs.length cn2)).setCell ⟨w4.heap.size, 6, none⟩ (.int .i64 bn.hor)) := ⟨_, rfl⟩
        have GU : wy15.grownBy wy16 (some (w4.heap.size)) := by rw [hU]; exact g_store (g_store (g_store (g_store (g_store (g_store (g_store (g_self _ _) _) _) _) _) _) _) _
        have F := unhide F_
        rw [← hU] at F ⊢
        clear hU F_
        clear Qf0 Qf1 Qf2 Qf3 Qf4 Qf5 Qf6 Qe0 Qe1 Qe2 Qe3 Qe4 Qe5 Qe6
        have CU_ := hide ((unhide CU).kept GU (fun k hk => by have q1_ := Option.some.inj hk; omega))
        have R_ := hide (F.other neRQ (unhide R))
        have Q_ := hide (F.obj)
        have ON_ : Hid (OwnBx wy14.heap.size wy16 (.slice an bn.mails.length cn) (.slice an2 bn.tombs.length cn2) bn) := ⟨F.row (by decide) (unhide ON).1, F.row (by decide) (unhide ON).2⟩
        have BB_ : Hid (w.grownBy wy16 (some c)) := g_new (unhide BB) GU (fun k hk => by have q1_ := Option.some.inj hk; omega)
        clear R
        have R := R_
        clear R_
        clear Q
        have Q := Q_
        clear Q_
        clear ON
        have ON := ON_
        clear ON_
        clear BB
        have BB := BB_
        clear BB_
        clear CU
        have CU := CU_
        clear CU_
        clear F GU
        refine lat2Done (by kernel_rfl) ?_ _
        go_wp2
        go_roundw
        case rel => rw [unhide HREL]; exact ⟨k + 1, bn, _, _, by omega, by go_num, unhide OKN, unhide Q, unhide R, ⟨g_based (unhide ON).1 (unhide LBON), g_based (unhide ON).2 (unhide LBON)⟩, unhide CU, unhide BB⟩
        case measure => simp [intOf]; omega
      · simp only [show ((2 : Nat) : Int) = 2 from rfl]
        have Qc0_1 := (unhide Q).cell 0 rfl
        have Qc1_1 := (unhide Q).cell 1 rfl
        have Qc2_1 := (unhide Q).cell 2 rfl
        have Qc3_1 := (unhide Q).cell 3 rfl
        have Qc4_1 := (unhide Q).cell 4 rfl
        have Qc5_1 := (unhide Q).cell 5 rfl
        have Qc6_1 := (unhide Q).cell 6 rfl
        go_wp2
        refine lat2Begin (S := fun w' => w'.cell? ⟨w4.heap.size, 0, none⟩ = some (.string b.name) ∧ w'.cell? ⟨w4.heap.size, 1, none⟩ = some (.int .i64 b.valid) ∧ w'.cell? ⟨w4.heap.size, 2, none⟩ = some (.int .i64 b.next) ∧ w'.cell? ⟨w4.heap.size, 3, none⟩ = some (.int .i64 b.mod) ∧ w'.cell? ⟨w4.heap.size, 4, none⟩ = some (.slice am b.mails.length cm) ∧ w'.cell? ⟨w4.heap.size, 5, none⟩ = some (.slice at1 b.tombs.length ct1) ∧ w'.cell? ⟨w4.heap.size, 6, none⟩ = some (.int .i64 b.hor)) 9 (by kernel_rfl) (⟨(unhide Q).cell 0 rfl, (unhide Q).cell 1 rfl, (unhide Q).cell 2 rfl, (unhide Q).cell 3 rfl, (unhide Q).cell 4 rfl, (unhide Q).cell 5 rfl, (unhide Q).cell 6 rfl⟩) (fun hHeld => ?_)
        clear Qc0_1 Qc1_1 Qc2_1 Qc3_1 Qc4_1 Qc5_1 Qc6_1
        have CU_ : Hid (Cur B wy2.drew c) := (unhide CU).kept (g_drew (g_self _ none)) (fun k hk => by cases hk)
        clear CU
        have CU := CU_
        clear CU_
        have R_ := hide ((unhide R).drew)
        clear R
        have R := R_
        clear R_
        have Q_ := hide ((unhide Q).drew)
        clear Q
        have Q := Q_
        clear Q_
        have OB_ := hide ((unhide OB).drew)
        clear OB
        have OB := OB_
        clear OB_
        have BB_ := hide (g_drew (unhide BB))
        clear BB
        have BB := BB_
        clear BB_
        have sz103 : Hid (wy2.heap.size ≤ wy2.drew.heap.size) := Nat.le_refl _
        refine lat2Take 0 (some 39) ?_ rfl (by kernel_rfl) (by kernel_rfl) (by kernel_rfl) (by kernel_rfl) rfl (fun _ _ _ h => h) (by rfl) (by assumption) ?_ ?_
        rotate_left
        · (intro w hSw; (try dsimp only at hSw); go_simp <;> with_reducible rfl)
        simp only [Act.put, List.setIfInBounds_toArray, List.set_cons_zero, List.set_cons_succ]
        refine lat2Take 1 (some 40) ?_ rfl (by kernel_rfl) (by kernel_rfl) (by kernel_rfl) (by kernel_rfl) rfl (fun _ _ _ h => h) (by rfl) (by assumption) ?_ ?_
        rotate_left
        · (intro w hSw; (try dsimp only at hSw); go_simp <;> with_reducible rfl)
        simp only [Act.put, List.setIfInBounds_toArray, List.set_cons_zero, List.set_cons_succ]
        refine lat2Take 3 (some 42) ?_ rfl (by kernel_rfl) (by kernel_rfl) (by kernel_rfl) (by kernel_rfl) rfl (fun _ _ _ h => h) (by rfl) (by assumption) ?_ ?_
        rotate_left
        · (intro w hSw; (try dsimp only at hSw); go_simp <;> with_reducible rfl)
        simp only [Act.put, List.setIfInBounds_toArray, List.set_cons_zero, List.set_cons_succ]
        refine lat2Step 2 (by kernel_rfl) rfl (by rfl) (fun K hK => ?_)
        go_simp
        refine (unhide LIT _ 32 32 rfl (unhide CU) (by decide) (by decide)).mono ?_
        rintro e wy23 ⟨f, hf, rfl, hc, hg⟩
        have R_ := hide ((unhide R).kept hg (fun e => by have q1_ := Option.some.inj e; omega))
        clear R
        have R := R_
        clear R_
        have Q_ := hide ((unhide Q).kept hg (fun e => by have q1_ := Option.some.inj e; omega))
        clear Q
        have Q := Q_
        clear Q_
        have OB_ : Hid (OwnBx w.heap.size wy23 (.slice am b.mails.length cm) (.slice at1 b.tombs.length ct1) b) := ⟨g_aside (unhide OB).1 hg (fun z hz hz2 => by have q1_ := Option.some.inj hz; have q2_ := (World.ownsRow.lt (unhide OB).1 z hz2).1; have q3_ := unhide LBOB; omega), g_aside (unhide OB).2 hg (fun z hz hz2 => by have q1_ := Option.some.inj hz; have q2_ := (World.ownsRow.lt (unhide OB).2 z hz2).1; have q3_ := unhide LBOB; omega)⟩
        clear OB
        have OB := OB_
        clear OB_
        have sz104 := hide (hg.size)
        have BB_ := hide (g_join (unhide BB) hg)
        clear BB
        have BB := BB_
        clear BB_
        clear CU
        have CU := hide hc
        clear hg hc
        go_wp2_with fail
        refine hK.out _ _ (⟨(unhide Q).cell 0 rfl, (unhide Q).cell 1 rfl, (unhide Q).cell 2 rfl, (unhide Q).cell 3 rfl, (unhide Q).cell 4 rfl, (unhide Q).cell 5 rfl, (unhide Q).cell 6 rfl⟩) (fun hHeld2 => ?_)
        clear hK K hHeld
        have hHeld := hHeld2; clear hHeld2
        try simp only [Act.put, List.setIfInBounds_toArray, List.set_cons_zero, List.set_cons_succ]
        refine lat2Step 4 (by kernel_rfl) rfl (by rfl) (fun K hK => ?_)
        go_simp
        refine (l07Mail_any B c _ (unhide CU)).mono ?_
        rintro e wy24 ⟨tx, htx, rfl, hc, hg⟩
        have htx := hide htx
        have R_ := hide ((unhide R).kept hg (fun e => by have q1_ := Option.some.inj e; omega))
        clear R
        have R := R_
        clear R_
        have Q_ := hide ((unhide Q).kept hg (fun e => by have q1_ := Option.some.inj e; omega))
        clear Q
        have Q := Q_
        clear Q_
        have OB_ : Hid (OwnBx w.heap.size wy24 (.slice am b.mails.length cm) (.slice at1 b.tombs.length ct1) b) := ⟨g_aside (unhide OB).1 hg (fun z hz hz2 => by have q1_ := Option.some.inj hz; have q2_ := (World.ownsRow.lt (unhide OB).1 z hz2).1; have q3_ := unhide LBOB; omega), g_aside (unhide OB).2 hg (fun z hz hz2 => by have q1_ := Option.some.inj hz; have q2_ := (World.ownsRow.lt (unhide OB).2 z hz2).1; have q3_ := unhide LBOB; omega)⟩
        clear OB
        have OB := OB_
        clear OB_
        have sz105 := hide (hg.size)
        have BB_ := hide (g_join (unhide BB) hg)
        clear BB
        have BB := BB_
        clear BB_
        clear CU
        have CU := hide hc
        clear hg hc
        go_wp2_with fail
        refine hK.out _ _ (⟨(unhide Q).cell 0 rfl, (unhide Q).cell 1 rfl, (unhide Q).cell 2 rfl, (unhide Q).cell 3 rfl, (unhide Q).cell 4 rfl, (unhide Q).cell 5 rfl, (unhide Q).cell 6 rfl⟩) (fun hHeld2 => ?_)
        clear hK K hHeld
        have hHeld := hHeld2; clear hHeld2
        try simp only [Act.put, List.setIfInBounds_toArray, List.set_cons_zero, List.set_cons_succ]
        refine lat2Step 5 (by kernel_rfl) rfl (by rfl) (fun K hK => ?_)
        go_simp
        refine (spec_AddMail_any b _ _ _ (f : Int) tx _ (unhide FIT) (by omega) (mail_small (unhide htx)) (unhide OB)).mono ?_
        rintro e wy25 ⟨m5, t5, rfl, o5, hb⟩
        obtain ⟨bn, hbn⟩ : ∃ x, x = (addV b (f : Int) tx).1 := ⟨_, rfl⟩
        have OKN : Hid (boxOk bn = true) := by show _ = _; rw [hbn]; exact add_keeps (unhide OK)
        rw [← hbn] at o5 ⊢
        clear hbn
        obtain ⟨an, cn, rfl⟩ := g_shape o5.1
        obtain ⟨an2, cn2, rfl⟩ := g_shape o5.2
        have LBON : Hid (w.heap.size ≤ wy24.heap.size) := (unhide BB).size
        have ON := hide o5
        clear o5 OB
        have CU_ := hide ((unhide CU).kept (below_g0 hb) (fun k hk => by cases hk))
        clear CU
        have CU := CU_
        clear CU_
        have R_ := hide ((unhide R).ups hb)
        clear R
        have R := R_
        clear R_
        have Q_ := hide ((unhide Q).ups hb)
        clear Q
        have Q := Q_
        clear Q_
        have sz106 := hide (hb.size)
        have BB_ := hide (g_then (unhide BB) hb)
        clear BB
        have BB := BB_
        clear BB_
        clear hb
        go_wp2_with fail
        refine hK.out _ _ (⟨(unhide Q).cell 0 rfl, (unhide Q).cell 1 rfl, (unhide Q).cell 2 rfl, (unhide Q).cell 3 rfl, (unhide Q).cell 4 rfl, (unhide Q).cell 5 rfl, (unhide Q).cell 6 rfl⟩) (fun hHeld2 => ?_)
        clear hK K hHeld
        have hHeld := hHeld2; clear hHeld2
        try simp only [Act.put, List.setIfInBounds_toArray, List.set_cons_zero, List.set_cons_succ]
        refine lat2Take 6 (some 38) ?_ rfl (by kernel_rfl) (by kernel_rfl) (by kernel_rfl) (by kernel_rfl) rfl (fun _ _ _ h => h) (by rfl) (by assumption) ?_ ?_
        rotate_left
        · (intro w hSw; (try dsimp only at hSw); go_simp <;> with_reducible rfl)
        simp only [Act.put, List.setIfInBounds_toArray, List.set_cons_zero, List.set_cons_succ]
        refine lat2Pure 8 (some 46) ?_ rfl (by kernel_rfl) (by kernel_rfl) (by kernel_rfl) rfl (fun _ _ _ h => h) (by rfl) ?_ ?_
        rotate_left
        · (intro w hSw; (try dsimp only at hSw); go_simp <;> with_reducible rfl)
        simp only [Act.put, List.setIfInBounds_toArray, List.set_cons_zero, List.set_cons_succ]
        refine lat2Take 7 (some 45) ?_ rfl (by kernel_rfl) (by kernel_rfl) (by kernel_rfl) (by kernel_rfl) rfl (fun _ _ _ h => h) (by rfl) (by assumption) ?_ ?_
        rotate_left
        · (intro w hSw; (try dsimp only at hSw); go_simp <;> with_reducible rfl)
        simp only [Act.put, List.setIfInBounds_toArray, List.set_cons_zero, List.set_cons_succ]
        have Qf0 := (unhide Q).frozen 0
        have Qf1 := (unhide Q).frozen 1
        have Qf2 := (unhide Q).frozen 2
        have Qf3 := (unhide Q).frozen 3
        have Qf4 := (unhide Q).frozen 4
        have Qf5 := (unhide Q).frozen 5
        have Qf6 := (unhide Q).frozen 6
        have Qe0 := (unhide Q).cell 0 rfl
        have Qe1 := (unhide Q).cell 1 rfl
        have Qe2 := (unhide Q).cell 2 rfl
        have Qe3 := (unhide Q).cell 3 rfl
        have Qe4 := (unhide Q).cell 4 rfl
        have Qe5 := (unhide Q).cell 5 rfl
        have Qe6 := (unhide Q).cell 6 rfl
        have F_ := hide (fill7 (unhide Q) (.string bn.name) (.int .i64 bn.valid) (.int .i64 bn.next) (.int .i64 bn.mod) (.slice an bn.mails.length cn) (.slice an2 bn.tombs.length cn2) (.int .i64 bn.hor))
        refine lat2Last 9 (by decide) (by kernel_rfl) rfl (by rfl) (fun K hK => ?_)
        go_simp
        refine hK.out _ _ ?_
        clear hK K hHeld
        try simp only [Act.put, List.setIfInBounds_toArray, List.set_cons_zero, List.set_cons_succ]
        obtain ⟨wy26, hU⟩ : ∃ U, U = (((((((wy25.setCell ⟨w4.heap.size, 0, none⟩ (.string bn.name)).setCell ⟨w4.heap.size, 1, none⟩ (.int .i64 bn.valid)).setCell ⟨w4.heap.size, 2, none⟩ (.int .i64 bn.next)).setCell ⟨w4.heap.size, 3, none⟩ (.int .i64 bn.mod)).setCell ⟨w4.heap.size, 4, none⟩ (.slice an bn.mails.length cn)).setCell ⟨w4.heap.size, 5, none⟩ (.slice an2 bn.tombs.length cn2)).setCell ⟨w4.heap.size, 6, none⟩ (.int .i64 bn.hor)) := ⟨_, rfl⟩
        have GU : wy25.grownBy wy26 (some (w4.heap.size)) := by rw [hU]; exact g_store (g_store (g_store (g_store (g_store (g_store (g_store (g_self _ _) _) _) _) _) _) _) _
        have F := unhide F_
        rw [← hU] at F ⊢
        clear hU F_
        clear Qf0 Qf1 Qf2 Qf3 Qf4 Qf5 Qf6 Qe0 Qe1 Qe2 Qe3 Qe4 Qe5 Qe6
        have CU_ := hide ((unhide CU).kept GU (fun k hk => by have q1_ := Option.some.inj hk; omega))
        have R_ := hide (F.other neRQ (unhide R))
        have Q_ := hide (F.obj)
        have ON_ : Hid (OwnBx wy24.heap.size wy26 (.slice an bn.mails.length cn) (.slice an2 bn.tombs.length cn2) bn) := ⟨F.row (by decide) (unhide ON).1, F.row (by decide) (unhide ON).2⟩
        have BB_ : Hid (w.grownBy wy26 (some c)) := g_new (unhide BB) GU (fun k hk => by have q1_ := Option.some.inj hk; omega)
        clear R
        have R := R_
        clear R_
        clear Q
        have Q := Q_
        clear Q_
        clear ON
        have ON := ON_
        clear ON_
        clear BB
        have BB := BB_
        clear BB_
        clear CU
        have CU := CU_
        clear CU_
        clear F GU
        refine lat2Done (by kernel_rfl) ?_ _
        go_wp2
        go_roundw
        case rel => rw [unhide HREL]; exact ⟨k + 1, bn, _, _, by omega, by go_num, unhide OKN, unhide Q, unhide R, ⟨g_based (unhide ON).1 (unhide LBON), g_based (unhide ON).2 (unhide LBON)⟩, unhide CU, unhide BB⟩
        case measure => simp [intOf]; omega
      · simp only [show ((3 : Nat) : Int) = 3 from rfl]
        have Qc0_1 := (unhide Q).cell 0 rfl
        have Qc1_1 := (unhide Q).cell 1 rfl
        have Qc2_1 := (unhide Q).cell 2 rfl
        have Qc3_1 := (unhide Q).cell 3 rfl
        have Qc4_1 := (unhide Q).cell 4 rfl
        have Qc5_1 := (unhide Q).cell 5 rfl
        have Qc6_1 := (unhide Q).cell 6 rfl
        go_wp2
        refine lat2Begin (S := fun w' => w'.cell? ⟨w4.heap.size, 0, none⟩ = some (.string b.name) ∧ w'.cell? ⟨w4.heap.size, 1, none⟩ = some (.int .i64 b.valid) ∧ w'.cell? ⟨w4.heap.size, 2, none⟩ = some (.int .i64 b.next) ∧ w'.cell? ⟨w4.heap.size, 3, none⟩ = some (.int .i64 b.mod) ∧ w'.cell? ⟨w4.heap.size, 4, none⟩ = some (.slice am b.mails.length cm) ∧ w'.cell? ⟨w4.heap.size, 5, none⟩ = some (.slice at1 b.tombs.length ct1) ∧ w'.cell? ⟨w4.heap.size, 6, none⟩ = some (.int .i64 b.hor)) 13 (by kernel_rfl) (⟨(unhide Q).cell 0 rfl, (unhide Q).cell 1 rfl, (unhide Q).cell 2 rfl, (unhide Q).cell 3 rfl, (unhide Q).cell 4 rfl, (unhide Q).cell 5 rfl, (unhide Q).cell 6 rfl⟩) (fun hHeld => ?_)
        clear Qc0_1 Qc1_1 Qc2_1 Qc3_1 Qc4_1 Qc5_1 Qc6_1
        have CU_ : Hid (Cur B wy2.drew c) := (unhide CU).kept (g_drew (g_self _ none)) (fun k hk => by cases hk)
        clear CU
        have CU := CU_
        clear CU_
        have R_ := hide ((unhide R).drew)
        clear R
        have R := R_
        clear R_
        have Q_ := hide ((unhide Q).drew)
        clear Q
        have Q := Q_
        clear Q_
        have OB_ := hide ((unhide OB).drew)
        clear OB
        have OB := OB_
        clear OB_
        have BB_ := hide (g_drew (unhide BB))
        clear BB
        have BB := BB_
        clear BB_
        have sz103 : Hid (wy2.heap.size ≤ wy2.drew.heap.size) := Nat.le_refl _
        refine lat2Take 0 (some 50) ?_ rfl (by kernel_rfl) (by kernel_rfl) (by kernel_rfl) (by kernel_rfl) rfl (fun _ _ _ h => h) (by rfl) (by assumption) ?_ ?_
        rotate_left
        · (intro w hSw; (try dsimp only at hSw); go_simp <;> with_reducible rfl)
        simp only [Act.put, List.setIfInBounds_toArray, List.set_cons_zero, List.set_cons_succ]
        refine lat2Take 1 (some 51) ?_ rfl (by kernel_rfl) (by kernel_rfl) (by kernel_rfl) (by kernel_rfl) rfl (fun _ _ _ h => h) (by rfl) (by assumption) ?_ ?_
        rotate_left
        · (intro w hSw; (try dsimp only at hSw); go_simp <;> with_reducible rfl)
        simp only [Act.put, List.setIfInBounds_toArray, List.set_cons_zero, List.set_cons_succ]
        refine lat2Take 3 (some 53) ?_ rfl (by kernel_rfl) (by kernel_rfl) (by kernel_rfl) (by kernel_rfl) rfl (fun _ _ _ h => h) (by rfl) (by assumption) ?_ ?_
        rotate_left
        · (intro w hSw; (try dsimp only at hSw); go_simp <;> with_reducible rfl)
        simp only [Act.put, List.setIfInBounds_toArray, List.set_cons_zero, List.set_cons_succ]
        refine lat2Take 6 (some 56) ?_ rfl (by kernel_rfl) (by kernel_rfl) (by kernel_rfl) (by kernel_rfl) rfl (fun _ _ _ h => h) (by rfl) (by assumption) ?_ ?_
        rotate_left
        · (intro w hSw; (try dsimp only at hSw); go_simp <;> with_reducible rfl)
        simp only [Act.put, List.setIfInBounds_toArray, List.set_cons_zero, List.set_cons_succ]
        refine lat2Step 2 (by kernel_rfl) rfl (by rfl) (fun K hK => ?_)
        go_simp
        refine (l05Draw_any B c _ (unhide CU)).mono ?_
        rintro e wy33 ⟨vS, sS, rfl, hokS, hlS, hSS, gS, cpS, rfl⟩
        have oS := hide hSS.own
        have hc := hSS.cur
        have hg := hSS.grown
        have LBRS : Hid (w.heap.size ≤ wy2.drew.heap.size) := (unhide BB).size
        have hokS := hide hokS
        clear hSS
        have R_ := hide ((unhide R).kept hg (fun e => by have q1_ := Option.some.inj e; omega))
        clear R
        have R := R_
        clear R_
        have Q_ := hide ((unhide Q).kept hg (fun e => by have q1_ := Option.some.inj e; omega))
        clear Q
        have Q := Q_
        clear Q_
        have OB_ : Hid (OwnBx w.heap.size wy33 (.slice am b.mails.length cm) (.slice at1 b.tombs.length ct1) b) := ⟨g_aside (unhide OB).1 hg (fun z hz hz2 => by have q1_ := Option.some.inj hz; have q2_ := (World.ownsRow.lt (unhide OB).1 z hz2).1; have q3_ := unhide LBOB; omega), g_aside (unhide OB).2 hg (fun z hz hz2 => by have q1_ := Option.some.inj hz; have q2_ := (World.ownsRow.lt (unhide OB).2 z hz2).1; have q3_ := unhide LBOB; omega)⟩
        clear OB
        have OB := OB_
        clear OB_
        have sz104 := hide (hg.size)
        have BB_ := hide (g_join (unhide BB) hg)
        clear BB
        have BB := BB_
        clear BB_
        clear CU
        have CU := hide hc
        clear hg hc
        have RS := oS
        clear oS
        go_wp2_with fail
        refine hK.out _ _ (⟨(unhide Q).cell 0 rfl, (unhide Q).cell 1 rfl, (unhide Q).cell 2 rfl, (unhide Q).cell 3 rfl, (unhide Q).cell 4 rfl, (unhide Q).cell 5 rfl, (unhide Q).cell 6 rfl⟩) (fun hHeld2 => ?_)
        clear hK K hHeld
        have hHeld := hHeld2; clear hHeld2
        try simp only [Act.put, List.setIfInBounds_toArray, List.set_cons_zero, List.set_cons_succ]
        refine lat2Step 4 (by kernel_rfl) rfl (by rfl) (fun K hK => ?_)
        go_simp
        refine (unhide LIT _ 3 3 rfl (unhide CU) (by decide) (by decide)).mono ?_
        rintro e wy34 ⟨h, hh, rfl, hc, hg⟩
        have R_ := hide ((unhide R).kept hg (fun e => by have q1_ := Option.some.inj e; omega))
        clear R
        have R := R_
        clear R_
        have Q_ := hide ((unhide Q).kept hg (fun e => by have q1_ := Option.some.inj e; omega))
        clear Q
        have Q := Q_
        clear Q_
        have OB_ : Hid (OwnBx w.heap.size wy34 (.slice am b.mails.length cm) (.slice at1 b.tombs.length ct1) b) := ⟨g_aside (unhide OB).1 hg (fun z hz hz2 => by have q1_ := Option.some.inj hz; have q2_ := (World.ownsRow.lt (unhide OB).1 z hz2).1; have q3_ := unhide LBOB; omega), g_aside (unhide OB).2 hg (fun z hz hz2 => by have q1_ := Option.some.inj hz; have q2_ := (World.ownsRow.lt (unhide OB).2 z hz2).1; have q3_ := unhide LBOB; omega)⟩
        clear OB
        have OB := OB_
        clear OB_
        have RS_ : Hid (OwnR wy2.drew.heap.size wy34 (.slice (some ⟨gS, 0, none⟩) sS.length cpS) (sS)) := g_aside (unhide RS) hg (fun z hz hz2 => by have q1_ := Option.some.inj hz; have q2_ := (World.ownsRow.lt (unhide RS) z hz2).1; have q3_ := unhide LBRS; omega)
        clear RS
        have RS := RS_
        clear RS_
        have sz105 := hide (hg.size)
        have BB_ := hide (g_join (unhide BB) hg)
        clear BB
        have BB := BB_
        clear BB_
        clear CU
        have CU := hide hc
        clear hg hc
        go_wp2_with fail
        refine hK.out _ _ (⟨(unhide Q).cell 0 rfl, (unhide Q).cell 1 rfl, (unhide Q).cell 2 rfl, (unhide Q).cell 3 rfl, (unhide Q).cell 4 rfl, (unhide Q).cell 5 rfl, (unhide Q).cell 6 rfl⟩) (fun hHeld2 => ?_)
        clear hK K hHeld
        have hHeld := hHeld2; clear hHeld2
        try simp only [Act.put, List.setIfInBounds_toArray, List.set_cons_zero, List.set_cons_succ]
        have n3 : IntKind.i64.wrap (1 + (h : Int)) = 1 + (h : Int) := by rw [IntKind.wrap_i64]; omega
        refine lat2Take 5 (some 55) ?_ rfl (by kernel_rfl) (by kernel_rfl) (by kernel_rfl) (by kernel_rfl) rfl (fun _ _ _ h => h) (by rfl) (by assumption) ?_ ?_
        rotate_left
        · (intro w hSw; (try dsimp only at hSw); go_simp <;> with_reducible rfl)
        simp only [Act.put, List.setIfInBounds_toArray, List.set_cons_zero, List.set_cons_succ]
        refine lat2Step 7 (by kernel_rfl) rfl (by rfl) (fun K hK => ?_)
        go_simp
        refine (unhide LIT _ 32 32 rfl (unhide CU) (by decide) (by decide)).mono ?_
        rintro e wy35 ⟨f, hf, rfl, hc, hg⟩
        have R_ := hide ((unhide R).kept hg (fun e => by have q1_ := Option.some.inj e; omega))
        clear R
        have R := R_
        clear R_
        have Q_ := hide ((unhide Q).kept hg (fun e => by have q1_ := Option.some.inj e; omega))
        clear Q
        have Q := Q_
        clear Q_
        have OB_ : Hid (OwnBx w.heap.size wy35 (.slice am b.mails.length cm) (.slice at1 b.tombs.length ct1) b) := ⟨g_aside (unhide OB).1 hg (fun z hz hz2 => by have q1_ := Option.some.inj hz; have q2_ := (World.ownsRow.lt (unhide OB).1 z hz2).1; have q3_ := unhide LBOB; omega), g_aside (unhide OB).2 hg (fun z hz hz2 => by have q1_ := Option.some.inj hz; have q2_ := (World.ownsRow.lt (unhide OB).2 z hz2).1; have q3_ := unhide LBOB; omega)⟩
        clear OB
        have OB := OB_
        clear OB_
        have RS_ : Hid (OwnR wy2.drew.heap.size wy35 (.slice (some ⟨gS, 0, none⟩) sS.length cpS) (sS)) := g_aside (unhide RS) hg (fun z hz hz2 => by have q1_ := Option.some.inj hz; have q2_ := (World.ownsRow.lt (unhide RS) z hz2).1; have q3_ := unhide LBRS; omega)
        clear RS
        have RS := RS_
        clear RS_
        have sz106 := hide (hg.size)
        have BB_ := hide (g_join (unhide BB) hg)
        clear BB
        have BB := BB_
        clear BB_
        clear CU
        have CU := hide hc
        clear hg hc
        go_wp2_with fail
        refine hK.out _ _ (⟨(unhide Q).cell 0 rfl, (unhide Q).cell 1 rfl, (unhide Q).cell 2 rfl, (unhide Q).cell 3 rfl, (unhide Q).cell 4 rfl, (unhide Q).cell 5 rfl, (unhide Q).cell 6 rfl⟩) (fun hHeld2 => ?_)
        clear hK K hHeld
        have hHeld := hHeld2; clear hHeld2
        try simp only [Act.put, List.setIfInBounds_toArray, List.set_cons_zero, List.set_cons_succ]
        refine lat2Step 8 (by kernel_rfl) rfl (by rfl) (fun K hK => ?_)
        go_simp
        refine (spec_SetFlags_any b _ _ _ sS _ (1 + (h : Int)) (f : Int) (-1) _ (unhide FIT) (by omega) (OwnR.read (unhide RS)) (unhide OB)).mono ?_
        rintro e wy36 ⟨m5, t5, vd5, vl5, rfl, o5, od5, ol5, hb⟩
        obtain ⟨bn, hbn⟩ : ∃ x, x = (flagsV b sS (1 + (h : Int)) (f : Int) (-1)).1 := ⟨_, rfl⟩
        have OKN : Hid (boxOk bn = true) := by show _ = _; rw [hbn]; exact flags_keeps (unhide OK)
        rw [← hbn] at o5 ⊢
        clear hbn
        obtain ⟨an, cn, rfl⟩ := g_shape o5.1
        obtain ⟨an2, cn2, rfl⟩ := g_shape o5.2
        have LBON : Hid (w.heap.size ≤ wy35.heap.size) := (unhide BB).size
        have ON := hide o5
        clear o5 OB
        have CU_ := hide ((unhide CU).kept (below_g0 hb) (fun k hk => by cases hk))
        clear CU
        have CU := CU_
        clear CU_
        have R_ := hide ((unhide R).ups hb)
        clear R
        have R := R_
        clear R_
        have Q_ := hide ((unhide Q).ups hb)
        clear Q
        have Q := Q_
        clear Q_
        have sz107 := hide (hb.size)
        have BB_ := hide (g_then (unhide BB) hb)
        clear BB
        have BB := BB_
        clear BB_
        clear hb
        go_wp2_with fail
        refine hK.out _ _ (⟨(unhide Q).cell 0 rfl, (unhide Q).cell 1 rfl, (unhide Q).cell 2 rfl, (unhide Q).cell 3 rfl, (unhide Q).cell 4 rfl, (unhide Q).cell 5 rfl, (unhide Q).cell 6 rfl⟩) (fun hHeld2 => ?_)
        clear hK K hHeld
        have hHeld := hHeld2; clear hHeld2
        try simp only [Act.put, List.setIfInBounds_toArray, List.set_cons_zero, List.set_cons_succ]
        refine lat2Take 9 (some 49) ?_ rfl (by kernel_rfl) (by kernel_rfl) (by kernel_rfl) (by kernel_rfl) rfl (fun _ _ _ h => h) (by rfl) (by assumption) ?_ ?_
        rotate_left
        · (intro w hSw; (try dsimp only at hSw); go_simp <;> with_reducible rfl)
        simp only [Act.put, List.setIfInBounds_toArray, List.set_cons_zero, List.set_cons_succ]
        refine lat2Pure 11 (some 60) ?_ rfl (by kernel_rfl) (by kernel_rfl) (by kernel_rfl) rfl (fun _ _ _ h => h) (by rfl) ?_ ?_
        rotate_left
        · (intro w hSw; (try dsimp only at hSw); go_simp <;> with_reducible rfl)
        simp only [Act.put, List.setIfInBounds_toArray, List.set_cons_zero, List.set_cons_succ]
        refine lat2Pure 12 (some 61) ?_ rfl (by kernel_rfl) (by kernel_rfl) (by kernel_rfl) rfl (fun _ _ _ h => h) (by rfl) ?_ ?_
        rotate_left
        · (intro w hSw; (try dsimp only at hSw); go_simp <;> with_reducible rfl)
        simp only [Act.put, List.setIfInBounds_toArray, List.set_cons_zero, List.set_cons_succ]
        refine lat2Take 10 (some 59) ?_ rfl (by kernel_rfl) (by kernel_rfl) (by kernel_rfl) (by kernel_rfl) rfl (fun _ _ _ h => h) (by rfl) (by assumption) ?_ ?_
        rotate_left
        · (intro w hSw; (try dsimp only at hSw); go_simp <;> with_reducible rfl)
        simp only [Act.put, List.setIfInBounds_toArray, List.set_cons_zero, List.set_cons_succ]
        have Qf0 := (unhide Q).frozen 0
        have Qf1 := (unhide Q).frozen 1
        have Qf2 := (unhide Q).frozen 2
        have Qf3 := (unhide Q).frozen 3
        have Qf4 := (unhide Q).frozen 4
        have Qf5 := (unhide Q).frozen 5
        have Qf6 := (unhide Q).frozen 6
        have Qe0 := (unhide Q).cell 0 rfl
        have Qe1 := (unhide Q).cell 1 rfl
        have Qe2 := (unhide Q).cell 2 rfl
        have Qe3 := (unhide Q).cell 3 rfl
        have Qe4 := (unhide Q).cell 4 rfl
        have Qe5 := (unhide Q).cell 5 rfl
        have Qe6 := (unhide Q).cell 6 rfl
        have F_ := hide (fill7 (unhide Q) (.string bn.name) (.int .i64 bn.valid) (.int .i64 bn.next) (.int .i64 bn.mod) (.slice an bn.mails.length cn) (.slice an2 bn.tombs.length cn2) (.int .i64 bn.hor))
        refine lat2Last 13 (by decide) (by kernel_rfl) rfl (by rfl) (fun K hK => ?_)
        go_simp
        refine hK.out _ _ ?_
        clear hK K hHeld
        try simp only [Act.put, List.setIfInBounds_toArray, List.set_cons_zero, List.set_cons_succ]
        obtain ⟨wy37, hU⟩ : ∃ U, U = (((((((wy36.setCell ⟨w4.heap.size, 0, none⟩ (.string bn.name)).setCell ⟨w4.heap.size, 1, none⟩ (.int .i64 bn.valid)).setCell ⟨w4.heap.size, 2, none⟩ (.int .i64 bn.next)).setCell ⟨w4.heap.size, 3, none⟩ (.int .i64 bn.mod)).setCell ⟨w4.heap.size, 4, none⟩ (.slice an bn.mails.length cn)).setCell ⟨w4.heap.size, 5, none⟩ (.slice an2 bn.tombs.length cn2)).setCell ⟨w4.heap.size, 6, none⟩ (.int .i64 bn.hor)) := ⟨_, rfl⟩
        have GU : wy36.grownBy wy37 (some (w4.heap.size)) := by rw [hU]; exact g_store (g_store (g_store (g_store (g_store (g_store (g_store (g_self _ _) _) _) _) _) _) _) _
        have F := unhide F_
        rw [← hU] at F ⊢
        clear hU F_
        clear Qf0 Qf1 Qf2 Qf3 Qf4 Qf5 Qf6 Qe0 Qe1 Qe2 Qe3 Qe4 Qe5 Qe6
        have CU_ := hide ((unhide CU).kept GU (fun k hk => by have q1_ := Option.some.inj hk; omega))
        have R_ := hide (F.other neRQ (unhide R))
        have Q_ := hide (F.obj)
        have ON_ : Hid (OwnBx wy35.heap.size wy37 (.slice an bn.mails.length cn) (.slice an2 bn.tombs.length cn2) bn) := ⟨F.row (by decide) (unhide ON).1, F.row (by decide) (unhide ON).2⟩
        have BB_ : Hid (w.grownBy wy37 (some c)) := g_new (unhide BB) GU (fun k hk => by have q1_ := Option.some.inj hk; omega)
        clear R
        have R := R_
        clear R_
        clear Q
        have Q := Q_
        clear Q_
        clear ON
        have ON := ON_
        clear ON_
        clear BB
        have BB := BB_
        clear BB_
        clear CU
        have CU := CU_
        clear CU_
        clear F GU
        refine lat2Done (by kernel_rfl) ?_ _
        go_wp2
        go_roundw
        case rel => rw [unhide HREL]; exact ⟨k + 1, bn, _, _, by omega, by go_num, unhide OKN, unhide Q, unhide R, ⟨g_based (unhide ON).1 (unhide LBON), g_based (unhide ON).2 (unhide LBON)⟩, unhide CU, unhide BB⟩
        case measure => simp [intOf]; omega
      · simp only [show ((4 : Nat) : Int) = 4 from rfl]
        have Qc0_1 := (unhide Q).cell 0 rfl
        have Qc1_1 := (unhide Q).cell 1 rfl
        have Qc2_1 := (unhide Q).cell 2 rfl
        have Qc3_1 := (unhide Q).cell 3 rfl
        have Qc4_1 := (unhide Q).cell 4 rfl
        have Qc5_1 := (unhide Q).cell 5 rfl
        have Qc6_1 := (unhide Q).cell 6 rfl
        go_wp2
        refine lat2Begin (S := fun w' => w'.cell? ⟨w4.heap.size, 0, none⟩ = some (.string b.name) ∧ w'.cell? ⟨w4.heap.size, 1, none⟩ = some (.int .i64 b.valid) ∧ w'.cell? ⟨w4.heap.size, 2, none⟩ = some (.int .i64 b.next) ∧ w'.cell? ⟨w4.heap.size, 3, none⟩ = some (.int .i64 b.mod) ∧ w'.cell? ⟨w4.heap.size, 4, none⟩ = some (.slice am b.mails.length cm) ∧ w'.cell? ⟨w4.heap.size, 5, none⟩ = some (.slice at1 b.tombs.length ct1) ∧ w'.cell? ⟨w4.heap.size, 6, none⟩ = some (.int .i64 b.hor)) 7 (by kernel_rfl) (⟨(unhide Q).cell 0 rfl, (unhide Q).cell 1 rfl, (unhide Q).cell 2 rfl, (unhide Q).cell 3 rfl, (unhide Q).cell 4 rfl, (unhide Q).cell 5 rfl, (unhide Q).cell 6 rfl⟩) (fun hHeld => ?_)
        clear Qc0_1 Qc1_1 Qc2_1 Qc3_1 Qc4_1 Qc5_1 Qc6_1
        have CU_ : Hid (Cur B wy2.drew c) := (unhide CU).kept (g_drew (g_self _ none)) (fun k hk => by cases hk)
        clear CU
        have CU := CU_
        clear CU_
        have R_ := hide ((unhide R).drew)
        clear R
        have R := R_
        clear R_
        have Q_ := hide ((unhide Q).drew)
        clear Q
        have Q := Q_
        clear Q_
        have OB_ := hide ((unhide OB).drew)
        clear OB
        have OB := OB_
        clear OB_
        have BB_ := hide (g_drew (unhide BB))
        clear BB
        have BB := BB_
        clear BB_
        have sz103 : Hid (wy2.heap.size ≤ wy2.drew.heap.size) := Nat.le_refl _
        refine lat2Take 0 (some 65) ?_ rfl (by kernel_rfl) (by kernel_rfl) (by kernel_rfl) (by kernel_rfl) rfl (fun _ _ _ h => h) (by rfl) (by assumption) ?_ ?_
        rotate_left
        · (intro w hSw; (try dsimp only at hSw); go_simp <;> with_reducible rfl)
        simp only [Act.put, List.setIfInBounds_toArray, List.set_cons_zero, List.set_cons_succ]
        refine lat2Take 1 (some 66) ?_ rfl (by kernel_rfl) (by kernel_rfl) (by kernel_rfl) (by kernel_rfl) rfl (fun _ _ _ h => h) (by rfl) (by assumption) ?_ ?_
        rotate_left
        · (intro w hSw; (try dsimp only at hSw); go_simp <;> with_reducible rfl)
        simp only [Act.put, List.setIfInBounds_toArray, List.set_cons_zero, List.set_cons_succ]
        refine lat2Step 2 (by kernel_rfl) rfl (by rfl) (fun K hK => ?_)
        go_simp
        refine (l05Draw_any B c _ (unhide CU)).mono ?_
        rintro e wy43 ⟨vS, sS, rfl, hokS, hlS, hSS, gS, cpS, rfl⟩
        have oS := hide hSS.own
        have hc := hSS.cur
        have hg := hSS.grown
        have LBRS : Hid (w.heap.size ≤ wy2.drew.heap.size) := (unhide BB).size
        have hokS := hide hokS
        clear hSS
        have R_ := hide ((unhide R).kept hg (fun e => by have q1_ := Option.some.inj e; omega))
        clear R
        have R := R_
        clear R_
        have Q_ := hide ((unhide Q).kept hg (fun e => by have q1_ := Option.some.inj e; omega))
        clear Q
        have Q := Q_
        clear Q_
        have OB_ : Hid (OwnBx w.heap.size wy43 (.slice am b.mails.length cm) (.slice at1 b.tombs.length ct1) b) := ⟨g_aside (unhide OB).1 hg (fun z hz hz2 => by have q1_ := Option.some.inj hz; have q2_ := (World.ownsRow.lt (unhide OB).1 z hz2).1; have q3_ := unhide LBOB; omega), g_aside (unhide OB).2 hg (fun z hz hz2 => by have q1_ := Option.some.inj hz; have q2_ := (World.ownsRow.lt (unhide OB).2 z hz2).1; have q3_ := unhide LBOB; omega)⟩
        clear OB
        have OB := OB_
        clear OB_
        have sz104 := hide (hg.size)
        have BB_ := hide (g_join (unhide BB) hg)
        clear BB
        have BB := BB_
        clear BB_
        clear CU
        have CU := hide hc
        clear hg hc
        have RS := oS
        clear oS
        go_wp2_with fail
        refine hK.out _ _ (⟨(unhide Q).cell 0 rfl, (unhide Q).cell 1 rfl, (unhide Q).cell 2 rfl, (unhide Q).cell 3 rfl, (unhide Q).cell 4 rfl, (unhide Q).cell 5 rfl, (unhide Q).cell 6 rfl⟩) (fun hHeld2 => ?_)
        clear hK K hHeld
        have hHeld := hHeld2; clear hHeld2
        try simp only [Act.put, List.setIfInBounds_toArray, List.set_cons_zero, List.set_cons_succ]
        refine lat2Step 3 (by kernel_rfl) rfl (by rfl) (fun K hK => ?_)
        go_simp
        refine (spec_Expunge_any b _ _ _ sS _ _ (unhide FIT) (by omega) (OwnR.read (unhide RS)) (unhide OB)).mono ?_
        rintro e wy44 ⟨m5, t5, vd5, rfl, o5, od5, hb⟩
        obtain ⟨bn, hbn⟩ : ∃ x, x = (expV b sS).1 := ⟨_, rfl⟩
        have OKN : Hid (boxOk bn = true) := by show _ = _; rw [hbn]; exact exp_keeps (unhide OK)
        rw [← hbn] at o5 ⊢
        clear hbn
        obtain ⟨an, cn, rfl⟩ := g_shape o5.1
        obtain ⟨an2, cn2, rfl⟩ := g_shape o5.2
        have LBON : Hid (w.heap.size ≤ wy43.heap.size) := (unhide BB).size
        have ON := hide o5
        clear o5 OB
        have CU_ := hide ((unhide CU).kept (below_g0 hb) (fun k hk => by cases hk))
        clear CU
        have CU := CU_
        clear CU_
        have R_ := hide ((unhide R).ups hb)
        clear R
        have R := R_
        clear R_
        have Q_ := hide ((unhide Q).ups hb)
        clear Q
        have Q := Q_
        clear Q_
        have sz105 := hide (hb.size)
        have BB_ := hide (g_then (unhide BB) hb)
        clear BB
        have BB := BB_
        clear BB_
        clear hb
        go_wp2_with fail
        refine hK.out _ _ (⟨(unhide Q).cell 0 rfl, (unhide Q).cell 1 rfl, (unhide Q).cell 2 rfl, (unhide Q).cell 3 rfl, (unhide Q).cell 4 rfl, (unhide Q).cell 5 rfl, (unhide Q).cell 6 rfl⟩) (fun hHeld2 => ?_)
        clear hK K hHeld
        have hHeld := hHeld2; clear hHeld2
        try simp only [Act.put, List.setIfInBounds_toArray, List.set_cons_zero, List.set_cons_succ]
        refine lat2Take 4 (some 64) ?_ rfl (by kernel_rfl) (by kernel_rfl) (by kernel_rfl) (by kernel_rfl) rfl (fun _ _ _ h => h) (by rfl) (by assumption) ?_ ?_
        rotate_left
        · (intro w hSw; (try dsimp only at hSw); go_simp <;> with_reducible rfl)
        simp only [Act.put, List.setIfInBounds_toArray, List.set_cons_zero, List.set_cons_succ]
        refine lat2Pure 6 (some 70) ?_ rfl (by kernel_rfl) (by kernel_rfl) (by kernel_rfl) rfl (fun _ _ _ h => h) (by rfl) ?_ ?_
        rotate_left
        · (intro w hSw; (try dsimp only at hSw); go_simp <;> with_reducible rfl)
        simp only [Act.put, List.setIfInBounds_toArray, List.set_cons_zero, List.set_cons_succ]
        refine lat2Take 5 (some 69) ?_ rfl (by kernel_rfl) (by kernel_rfl) (by kernel_rfl) (by kernel_rfl) rfl (fun _ _ _ h => h) (by rfl) (by assumption) ?_ ?_
        rotate_left
        · (intro w hSw; (try dsimp only at hSw); go_simp <;> with_reducible rfl)
        simp only [Act.put, List.setIfInBounds_toArray, List.set_cons_zero, List.set_cons_succ]
        have Qf0 := (unhide Q).frozen 0
        have Qf1 := (unhide Q).frozen 1
        have Qf2 := (unhide Q).frozen 2
        have Qf3 := (unhide Q).frozen 3
        have Qf4 := (unhide Q).frozen 4
        have Qf5 := (unhide Q).frozen 5
        have Qf6 := (unhide Q).frozen 6
        have Qe0 := (unhide Q).cell 0 rfl
        have Qe1 := (unhide Q).cell 1 rfl
        have Qe2 := (unhide Q).cell 2 rfl
        have Qe3 := (unhide Q).cell 3 rfl
        have Qe4 := (unhide Q).cell 4 rfl
        have Qe5 := (unhide Q).cell 5 rfl
        have Qe6 := (unhide Q).cell 6 rfl
        have F_ := hide (fill7 (unhide Q) (.string bn.name) (.int .i64 bn.valid) (.int .i64 bn.next) (.int .i64 bn.mod) (.slice an bn.mails.length cn) (.slice an2 bn.tombs.length cn2) (.int .i64 bn.hor))
        refine lat2Last 7 (by decide) (by kernel_rfl) rfl (by rfl) (fun K hK => ?_)
        go_simp
        refine hK.out _ _ ?_
        clear hK K hHeld
        try simp only [Act.put, List.setIfInBounds_toArray, List.set_cons_zero, List.set_cons_succ]
        obtain ⟨wy45, hU⟩ : ∃ U, U = (((((((wy44.setCell ⟨w4.heap.size, 0, none⟩ (.string bn.name)).setCell ⟨w4.heap.size, 1, none⟩ (.int .i64 bn.valid)).setCell ⟨w4.heap.size, 2, none⟩ (.int .i64 bn.next)).setCell ⟨w4.heap.size, 3, none⟩ (.int .i64 bn.mod)).setCell ⟨w4.heap.size, 4, none⟩ (.slice an bn.mails.length cn)).setCell ⟨w4.heap.size, 5, none⟩ (.slice an2 bn.tombs.length cn2)).setCell ⟨w4.heap.size, 6, none⟩ (.int .i64 bn.hor)) := ⟨_, rfl⟩
        have GU : wy44.grownBy wy45 (some (w4.heap.size)) := by rw [hU]; exact g_store (g_store (g_store (g_store (g_store (g_store (g_store (g_self _ _) _) _) _) _) _) _) _
        have F := unhide F_
        rw [← hU] at F ⊢
        clear hU F_
        clear Qf0 Qf1 Qf2 Qf3 Qf4 Qf5 Qf6 Qe0 Qe1 Qe2 Qe3 Qe4 Qe5 Qe6
        have CU_ := hide ((unhide CU).kept GU (fun k hk => by have q1_ := Option.some.inj hk; omega))
        have R_ := hide (F.other neRQ (unhide R))
        have Q_ := hide (F.obj)
        have ON_ : Hid (OwnBx wy43.heap.size wy45 (.slice an bn.mails.length cn) (.slice an2 bn.tombs.length cn2) bn) := ⟨F.row (by decide) (unhide ON).1, F.row (by decide) (unhide ON).2⟩
        have BB_ : Hid (w.grownBy wy45 (some c)) := g_new (unhide BB) GU (fun k hk => by have q1_ := Option.some.inj hk; omega)
        clear R
        have R := R_
        clear R_
        clear Q
        have Q := Q_
        clear Q_
        clear ON
        have ON := ON_
        clear ON_
        clear BB
        have BB := BB_
        clear BB_
        clear CU
        have CU := CU_
        clear CU_
        clear F GU
        refine lat2Done (by kernel_rfl) ?_ _
        go_wp2
        go_roundw
        case rel => rw [unhide HREL]; exact ⟨k + 1, bn, _, _, by omega, by go_num, unhide OKN, unhide Q, unhide R, ⟨g_based (unhide ON).1 (unhide LBON), g_based (unhide ON).2 (unhide LBON)⟩, unhide CU, unhide BB⟩
        case measure => simp [intOf]; omega
      · simp only [show ((5 : Nat) : Int) = 5 from rfl]
        have Qc0_1 := (unhide Q).cell 0 rfl
        have Qc1_1 := (unhide Q).cell 1 rfl
        have Qc2_1 := (unhide Q).cell 2 rfl
        have Qc3_1 := (unhide Q).cell 3 rfl
        have Qc4_1 := (unhide Q).cell 4 rfl
        have Qc5_1 := (unhide Q).cell 5 rfl
        have Qc6_1 := (unhide Q).cell 6 rfl
        go_wp2_with fail
        clear Qc0_1 Qc1_1 Qc2_1 Qc3_1 Qc4_1 Qc5_1 Qc6_1
        refine (l01Once_any B c 3 _ (unhide CU) (by decide) (by decide)).mono ?_
        rintro e wy53 ⟨on, rfl, hc, hg⟩
        have R_ := hide ((unhide R).kept hg (fun e => by have q1_ := Option.some.inj e; omega))
        clear R
        have R := R_
        clear R_
        have Q_ := hide ((unhide Q).kept hg (fun e => by have q1_ := Option.some.inj e; omega))
        clear Q
        have Q := Q_
        clear Q_
        have OB_ : Hid (OwnBx w.heap.size wy53 (.slice am b.mails.length cm) (.slice at1 b.tombs.length ct1) b) := ⟨g_aside (unhide OB).1 hg (fun z hz hz2 => by have q1_ := Option.some.inj hz; have q2_ := (World.ownsRow.lt (unhide OB).1 z hz2).1; have q3_ := unhide LBOB; omega), g_aside (unhide OB).2 hg (fun z hz hz2 => by have q1_ := Option.some.inj hz; have q2_ := (World.ownsRow.lt (unhide OB).2 z hz2).1; have q3_ := unhide LBOB; omega)⟩
        clear OB
        have OB := OB_
        clear OB_
        have sz103 := hide (hg.size)
        have BB_ := hide (g_join (unhide BB) hg)
        clear BB
        have BB := BB_
        clear BB_
        clear CU
        have CU := hide hc
        clear hg hc
        cases on with
        | false =>
          go_wp2
          go_roundw
          case rel => rw [unhide HREL]; exact ⟨k + 1, b, _, _, by omega, by go_num, unhide OK, unhide Q, unhide R, unhide OB, unhide CU, unhide BB⟩
          case measure => simp [intOf]; omega
        | true =>
          have Qc0_2 := (unhide Q).cell 0 rfl
          have Qc1_2 := (unhide Q).cell 1 rfl
          have Qc2_2 := (unhide Q).cell 2 rfl
          have Qc3_2 := (unhide Q).cell 3 rfl
          have Qc4_2 := (unhide Q).cell 4 rfl
          have Qc5_2 := (unhide Q).cell 5 rfl
          have Qc6_2 := (unhide Q).cell 6 rfl
          go_wp2
          refine lat2Begin (S := fun w' => w'.cell? ⟨w4.heap.size, 0, none⟩ = some (.string b.name) ∧ w'.cell? ⟨w4.heap.size, 1, none⟩ = some (.int .i64 b.valid) ∧ w'.cell? ⟨w4.heap.size, 2, none⟩ = some (.int .i64 b.next) ∧ w'.cell? ⟨w4.heap.size, 3, none⟩ = some (.int .i64 b.mod) ∧ w'.cell? ⟨w4.heap.size, 4, none⟩ = some (.slice am b.mails.length cm) ∧ w'.cell? ⟨w4.heap.size, 5, none⟩ = some (.slice at1 b.tombs.length ct1) ∧ w'.cell? ⟨w4.heap.size, 6, none⟩ = some (.int .i64 b.hor)) 7 (by kernel_rfl) (⟨(unhide Q).cell 0 rfl, (unhide Q).cell 1 rfl, (unhide Q).cell 2 rfl, (unhide Q).cell 3 rfl, (unhide Q).cell 4 rfl, (unhide Q).cell 5 rfl, (unhide Q).cell 6 rfl⟩) (fun hHeld => ?_)
          clear Qc0_2 Qc1_2 Qc2_2 Qc3_2 Qc4_2 Qc5_2 Qc6_2
          have CU_ : Hid (Cur B wy53.drew c) := (unhide CU).kept (g_drew (g_self _ none)) (fun k hk => by cases hk)
          clear CU
          have CU := CU_
          clear CU_
          have R_ := hide ((unhide R).drew)
          clear R
          have R := R_
          clear R_
          have Q_ := hide ((unhide Q).drew)
          clear Q
          have Q := Q_
          clear Q_
          have OB_ := hide ((unhide OB).drew)
          clear OB
          have OB := OB_
          clear OB_
          have BB_ := hide (g_drew (unhide BB))
          clear BB
          have BB := BB_
          clear BB_
          have sz104 : Hid (wy53.heap.size ≤ wy53.drew.heap.size) := Nat.le_refl _
          refine lat2Take 0 (some 27) ?_ rfl (by kernel_rfl) (by kernel_rfl) (by kernel_rfl) (by kernel_rfl) rfl (fun _ _ _ h => h) (by rfl) (by assumption) ?_ ?_
          rotate_left
          · (intro w hSw; (try dsimp only at hSw); go_simp <;> with_reducible rfl)
          simp only [Act.put, List.setIfInBounds_toArray, List.set_cons_zero, List.set_cons_succ]
          refine lat2Take 1 (some 28) ?_ rfl (by kernel_rfl) (by kernel_rfl) (by kernel_rfl) (by kernel_rfl) rfl (fun _ _ _ h => h) (by rfl) (by assumption) ?_ ?_
          rotate_left
          · (intro w hSw; (try dsimp only at hSw); go_simp <;> with_reducible rfl)
          simp only [Act.put, List.setIfInBounds_toArray, List.set_cons_zero, List.set_cons_succ]
          refine lat2Take 2 (some 29) ?_ rfl (by kernel_rfl) (by kernel_rfl) (by kernel_rfl) (by kernel_rfl) rfl (fun _ _ _ h => h) (by rfl) (by assumption) ?_ ?_
          rotate_left
          · (intro w hSw; (try dsimp only at hSw); go_simp <;> with_reducible rfl)
          simp only [Act.put, List.setIfInBounds_toArray, List.set_cons_zero, List.set_cons_succ]
          refine lat2Take 3 (some 30) ?_ rfl (by kernel_rfl) (by kernel_rfl) (by kernel_rfl) (by kernel_rfl) rfl (fun _ _ _ h => h) (by rfl) (by assumption) ?_ ?_
          rotate_left
          · (intro w hSw; (try dsimp only at hSw); go_simp <;> with_reducible rfl)
          simp only [Act.put, List.setIfInBounds_toArray, List.set_cons_zero, List.set_cons_succ]
          refine lat2Take 4 (some 31) ?_ rfl (by kernel_rfl) (by kernel_rfl) (by kernel_rfl) (by kernel_rfl) rfl (fun _ _ _ h => h) (by rfl) (by assumption) ?_ ?_
          rotate_left
          · (intro w hSw; (try dsimp only at hSw); go_simp <;> with_reducible rfl)
          simp only [Act.put, List.setIfInBounds_toArray, List.set_cons_zero, List.set_cons_succ]
          refine lat2Step 5 (by kernel_rfl) rfl (by rfl) (fun K hK => ?_)
          go_simp
          refine (unhide LIT _ (b.mod + 1).toNat (b.mod + 1) (by omega) (unhide CU) (by omega) (by omega)).mono ?_
          rintro e wy64 ⟨f, hf, rfl, hc, hg⟩
          have R_ := hide ((unhide R).kept hg (fun e => by have q1_ := Option.some.inj e; omega))
          clear R
          have R := R_
          clear R_
          have Q_ := hide ((unhide Q).kept hg (fun e => by have q1_ := Option.some.inj e; omega))
          clear Q
          have Q := Q_
          clear Q_
          have OB_ : Hid (OwnBx w.heap.size wy64 (.slice am b.mails.length cm) (.slice at1 b.tombs.length ct1) b) := ⟨g_aside (unhide OB).1 hg (fun z hz hz2 => by have q1_ := Option.some.inj hz; have q2_ := (World.ownsRow.lt (unhide OB).1 z hz2).1; have q3_ := unhide LBOB; omega), g_aside (unhide OB).2 hg (fun z hz hz2 => by have q1_ := Option.some.inj hz; have q2_ := (World.ownsRow.lt (unhide OB).2 z hz2).1; have q3_ := unhide LBOB; omega)⟩
          clear OB
          have OB := OB_
          clear OB_
          have sz105 := hide (hg.size)
          have BB_ := hide (g_join (unhide BB) hg)
          clear BB
          have BB := BB_
          clear BB_
          clear CU
          have CU := hide hc
          clear hg hc
          go_wp2_with fail
          refine hK.out _ _ (⟨(unhide Q).cell 0 rfl, (unhide Q).cell 1 rfl, (unhide Q).cell 2 rfl, (unhide Q).cell 3 rfl, (unhide Q).cell 4 rfl, (unhide Q).cell 5 rfl, (unhide Q).cell 6 rfl⟩) (fun hHeld2 => ?_)
          clear hK K hHeld
          have hHeld := hHeld2; clear hHeld2
          try simp only [Act.put, List.setIfInBounds_toArray, List.set_cons_zero, List.set_cons_succ]
          refine lat2Step 6 (by kernel_rfl) rfl (by rfl) (fun K hK => ?_)
          go_simp
          refine (spec_ForgetTombs_any b _ _ _ (f : Int) _ (unhide FIT) (unhide OB)).mono ?_
          rintro e wy65 ⟨m5, t5, rfl, o5, hb⟩
          obtain ⟨bn, hbn⟩ : ∃ x, x = (forgetV b (f : Int)) := ⟨_, rfl⟩
          have OKN : Hid (boxOk bn = true) := by show _ = _; rw [hbn]; exact forget_keeps (unhide OK)
          rw [← hbn] at o5 ⊢
          clear hbn
          obtain ⟨an, cn, rfl⟩ := g_shape o5.1
          obtain ⟨an2, cn2, rfl⟩ := g_shape o5.2
          have LBON : Hid (w.heap.size ≤ wy64.heap.size) := (unhide BB).size
          have ON := hide o5
          clear o5 OB
          have CU_ := hide ((unhide CU).kept (below_g0 hb) (fun k hk => by cases hk))
          clear CU
          have CU := CU_
          clear CU_
          have R_ := hide ((unhide R).ups hb)
          clear R
          have R := R_
          clear R_
          have Q_ := hide ((unhide Q).ups hb)
          clear Q
          have Q := Q_
          clear Q_
          have sz106 := hide (hb.size)
          have BB_ := hide (g_then (unhide BB) hb)
          clear BB
          have BB := BB_
          clear BB_
          clear hb
          go_wp2_with fail
          refine hK.out _ _ (⟨(unhide Q).cell 0 rfl, (unhide Q).cell 1 rfl, (unhide Q).cell 2 rfl, (unhide Q).cell 3 rfl, (unhide Q).cell 4 rfl, (unhide Q).cell 5 rfl, (unhide Q).cell 6 rfl⟩) (fun hHeld2 => ?_)
          clear hK K hHeld
          have hHeld := hHeld2; clear hHeld2
          try simp only [Act.put, List.setIfInBounds_toArray, List.set_cons_zero, List.set_cons_succ]
          have Qf0 := (unhide Q).frozen 0
          have Qf1 := (unhide Q).frozen 1
          have Qf2 := (unhide Q).frozen 2
          have Qf3 := (unhide Q).frozen 3
          have Qf4 := (unhide Q).frozen 4
          have Qf5 := (unhide Q).frozen 5
          have Qf6 := (unhide Q).frozen 6
          have Qe0 := (unhide Q).cell 0 rfl
          have Qe1 := (unhide Q).cell 1 rfl
          have Qe2 := (unhide Q).cell 2 rfl
          have Qe3 := (unhide Q).cell 3 rfl
          have Qe4 := (unhide Q).cell 4 rfl
          have Qe5 := (unhide Q).cell 5 rfl
          have Qe6 := (unhide Q).cell 6 rfl
          have F_ := hide (fill7 (unhide Q) (.string bn.name) (.int .i64 bn.valid) (.int .i64 bn.next) (.int .i64 bn.mod) (.slice an bn.mails.length cn) (.slice an2 bn.tombs.length cn2) (.int .i64 bn.hor))
          refine lat2Last 7 (by decide) (by kernel_rfl) rfl (by rfl) (fun K hK => ?_)
          go_simp
          refine hK.out _ _ ?_
          clear hK K hHeld
          try simp only [Act.put, List.setIfInBounds_toArray, List.set_cons_zero, List.set_cons_succ]
          obtain ⟨wy66, hU⟩ : ∃ U, U = (((((((wy65.setCell ⟨w4.heap.size, 0, none⟩ (.string bn.name)).setCell ⟨w4.heap.size, 1, none⟩ (.int .i64 bn.valid)).setCell ⟨w4.heap.size, 2, none⟩ (.int .i64 bn.next)).setCell ⟨w4.heap.size, 3, none⟩ (.int .i64 bn.mod)).setCell ⟨w4.heap.size, 4, none⟩ (.slice an bn.mails.length cn)).setCell ⟨w4.heap.size, 5, none⟩ (.slice an2 bn.tombs.length cn2)).setCell ⟨w4.heap.size, 6, none⟩ (.int .i64 bn.hor)) := ⟨_, rfl⟩
          have GU : wy65.grownBy wy66 (some (w4.heap.size)) := by rw [hU]; exact g_store (g_store (g_store (g_store (g_store (g_store (g_store (g_self _ _) _) _) _) _) _) _) _
          have F := unhide F_
          rw [← hU] at F ⊢
          clear hU F_
          clear Qf0 Qf1 Qf2 Qf3 Qf4 Qf5 Qf6 Qe0 Qe1 Qe2 Qe3 Qe4 Qe5 Qe6
          have CU_ := hide ((unhide CU).kept GU (fun k hk => by have q1_ := Option.some.inj hk; omega))
          have R_ := hide (F.other neRQ (unhide R))
          have Q_ := hide (F.obj)
          have ON_ : Hid (OwnBx wy64.heap.size wy66 (.slice an bn.mails.length cn) (.slice an2 bn.tombs.length cn2) bn) := ⟨F.row (by decide) (unhide ON).1, F.row (by decide) (unhide ON).2⟩
          have BB_ : Hid (w.grownBy wy66 (some c)) := g_new (unhide BB) GU (fun k hk => by have q1_ := Option.some.inj hk; omega)
          clear R
          have R := R_
          clear R_
          clear Q
          have Q := Q_
          clear Q_
          clear ON
          have ON := ON_
          clear ON_
          clear BB
          have BB := BB_
          clear BB_
          clear CU
          have CU := CU_
          clear CU_
          clear F GU
          refine lat2Done (by kernel_rfl) ?_ _
          go_wp2
          go_roundw
          case rel => rw [unhide HREL]; exact ⟨k + 1, bn, _, _, by omega, by go_num, unhide OKN, unhide Q, unhide R, ⟨g_based (unhide ON).1 (unhide LBON), g_based (unhide ON).2 (unhide LBON)⟩, unhide CU, unhide BB⟩
          case measure => simp [intOf]; omega
    · have dl : decide ((k : Int) < 2 + (x1 : Int)) = false := decide_eq_false hlt
      have Qc0_1 := (unhide Q).cell 0 rfl
      have Qc1_1 := (unhide Q).cell 1 rfl
      have Qc2_1 := (unhide Q).cell 2 rfl
      have Qc3_1 := (unhide Q).cell 3 rfl
      have Qc4_1 := (unhide Q).cell 4 rfl
      have Qc5_1 := (unhide Q).cell 5 rfl
      have Qc6_1 := (unhide Q).cell 6 rfl
      have Rf0 := (unhide R).frozen 0
      have Rf1 := (unhide R).frozen 1
      have Rf2 := (unhide R).frozen 2
      have Rf3 := (unhide R).frozen 3
      have Rf4 := (unhide R).frozen 4
      have Rf5 := (unhide R).frozen 5
      have Rf6 := (unhide R).frozen 6
      have Re0 := (unhide R).cell 0 rfl
      have Re1 := (unhide R).cell 1 rfl
      have Re2 := (unhide R).cell 2 rfl
      have Re3 := (unhide R).cell 3 rfl
      have Re4 := (unhide R).cell 4 rfl
      have Re5 := (unhide R).cell 5 rfl
      have Re6 := (unhide R).cell 6 rfl
      have F := hide (fill7 (unhide R) (.string b.name) (.int .i64 b.valid) (.int .i64 b.next) (.int .i64 b.mod) (.slice am b.mails.length cm) (.slice at1 b.tombs.length ct1) (.int .i64 b.hor))
      obtain ⟨U, hU⟩ : ∃ U, U = (((((((wr1.setCell ⟨w.heap.size, 0, none⟩ (.string b.name)).setCell ⟨w.heap.size, 1, none⟩ (.int .i64 b.valid)).setCell ⟨w.heap.size, 2, none⟩ (.int .i64 b.next)).setCell ⟨w.heap.size, 3, none⟩ (.int .i64 b.mod)).setCell ⟨w.heap.size, 4, none⟩ (.slice am b.mails.length cm)).setCell ⟨w.heap.size, 5, none⟩ (.slice at1 b.tombs.length ct1)).setCell ⟨w.heap.size, 6, none⟩ (.int .i64 b.hor)) := ⟨_, rfl⟩
      have F9 := unhide F
      rw [← hU] at F9
      have GU : wr1.grownBy U (some (w.heap.size)) := by rw [hU]; exact g_store (g_store (g_store (g_store (g_store (g_store (g_store (g_self _ _) _) _) _) _) _) _) _
      have GU := hide GU
      have EU := hU.symm
      clear F hU
      have v0 := F9.obj.cell 0 rfl
      have v1 := F9.obj.cell 1 rfl
      have v2 := F9.obj.cell 2 rfl
      have v3 := F9.obj.cell 3 rfl
      have v4 := F9.obj.cell 4 rfl
      have v5 := F9.obj.cell 5 rfl
      have v6 := F9.obj.cell 6 rfl
      have F := hide F9
      clear F9
      go_wp2_with (refine bodyPost_ret (by simp [results, Try.results26, go_sem, v0, v1, v2, v3, v4, v5, v6]; try rfl) rfl ?_)
      clear EU
      have F := unhide F
      exact ⟨b, _, _, rfl, unhide OK, ⟨F.row (by decide) (unhide OB).1, F.row (by decide) (unhide OB).2⟩, (unhide CU).kept (unhide GU) (fun k hk => by have q1_ := Option.some.inj hk; omega), g_new (unhide BB) (unhide GU) (fun k hk => by have q1_ := Option.some.inj hk; omega)⟩
end Go.Proofs.Ytmedhmgihfenhaa
