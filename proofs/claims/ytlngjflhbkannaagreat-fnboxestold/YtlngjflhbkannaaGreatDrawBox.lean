/- The draws of chapter 8: a box that was made, written to, cleared. Made by gen_drawbox.py. -/
import Derived.Test.YtlngjflhbkannaaGreatTv
import Derived.Test.YtlngjflhbkannaaGreatFfA
import Derived.Test.YtlngjflhbkannaaGreatSetFlagsS
import Derived.Test.YtlngjflhbkannaaGreatExpungeS
import Derived.Test.YtlngjflhbkannaaGreatDwB
import Derived.Test.YtlngjflhbkannaaGreatRegA
namespace Go.Proofs.YtlngjflhbkannaaGreat
open Go.RowKit
open Plain
set_option linter.unusedVariables false
set_option linter.unusedSimpArgs false

namespace Plain
def boxNames : List ByteArray := [⟨#[105, 110, 98, 111, 120]⟩, ⟨#[119, 111, 114, 107]⟩, ⟨#[111, 108, 100]⟩]
theorem new_right {z : ByteArray} {v : Int} (hz : z ∈ boxNames) (h1 : 1 ≤ v) (h2 : v ≤ 9999) : boxOk (newBox z v) = true := by
 refine boxOk_all ?_ (fun i hi => absurd hi (Nat.not_lt_zero _)) (fun i hi => absurd hi (Nat.not_lt_zero _))
 have hn : nameOkL z.data.toList = true := by
  simp only [boxNames, List.mem_cons, List.not_mem_nil, or_false] at hz
  rcases hz with rfl | rfl | rfl <;> decide
 unfold headOk newBox
 simp only [Bool.and_eq_true]
 exact ⟨hn, inI_iff.2 ⟨h1, h2⟩, by decide, by decide, decide_eq_true (Nat.zero_le _), decide_eq_true (Nat.zero_le _), by decide⟩
theorem new_yes {z : ByteArray} {v : Int} (hz : z ∈ boxNames) (h1 : 1 ≤ v) (h2 : v ≤ 9999) : newV z v = (newBox z v, true) := if_pos (new_right hz h1 h2)
theorem name_small {z : ByteArray} (hz : z ∈ boxNames) : z.size ≤ 1048576 := by
 simp only [boxNames, List.mem_cons, List.not_mem_nil, or_false] at hz
 rcases hz with rfl | rfl | rfl <;> decide
theorem mail_small {t : ByteArray} (h : t.data.toList ∈ mailT) : t.size ≤ 1048576 := by
 have := (mail_facts _ h).1
 simp only [Bool.and_eq_true, decide_eq_true_eq] at this
 rw [show t.size = t.data.toList.length from by show t.data.size = _; rw [Array.length_toList]]
 omega
theorem add_mod (b : Bx) (f : Int) (t : ByteArray) : (addV b f t).1.mod ≤ b.mod + 1 := by
 unfold addV
 split
 ·exact Int.le_refl _
 ·show b.mod ≤ b.mod + 1; omega
theorem flags_mod (b : Bx) (s : List Rg) (how bits since : Int) : (flagsV b s how bits since).1.mod ≤ b.mod + 1 := by
 unfold flagsV
 split
 ·rw [fg_is]
  show (if (newU s how bits since b.mails).isEmpty = true then b.mod else b.mod + 1) ≤ b.mod + 1
  split <;> omega
 ·show b.mod ≤ b.mod + 1; omega
theorem exp_mod (b : Bx) (s : List Rg) : (expV b s).1.mod ≤ b.mod + 1 := by
 unfold expV
 split
 ·exact Int.le_refl _
 ·show b.mod ≤ b.mod + 1; omega
theorem forget_mod (b : Bx) (u : Int) : (forgetV b u).mod ≤ b.mod + 1 := by
 unfold forgetV
 split
 ·show b.mod ≤ b.mod + 1; omega
 ·omega
end Plain
theorem below_g0 {w w' : World} (h : Below w.heap.size w w') : w.grownBy w' none := ⟨h.os, h.tape, h.output, h.size, fun k hk _ => h.block k hk⟩
set_option maxHeartbeats 16000000 in
set_option maxRecDepth 100000 in
theorem l08Box_any (B c : Nat) (w : World) (hc : Cur B w c) :
  Calls Tryz.prog 125 #[.pointer (some ⟨c, 0, none⟩)] w fun e w' => ∃ b m t, e = .returned (boxV b m t) ∧ (boxOk b = true ∧ b.mod ≤ 18) ∧ OwnBx w.heap.size w' m t b ∧ Cur B w' c ∧ w.grownBy w' (some c) := by
 have hcl := hc.lt.2; have CU := hide hc; have BB := hide (g_self w (some c))
 have LIT := hide (fun (W : World) (n : Nat) (z : Int) (hz : z = (n : Int)) (hC : Cur B W c) (h0 : 0 < n) (h1 : n ≤ 4294967296) => belowS_lit B c n z hz W hC h0 h1)
 clear hc
 obtain ⟨w1, hR⟩ : ∃ X, X = w.alloc (.cells ([.string ⟨#[]⟩, .int .i64 0, .int .i64 0, .int .i64 0, .slice none 0 0, .slice none 0 0, .int .i64 0] : List Value).toArray 50) := ⟨_, rfl⟩
 have Rx : HasObj w1 w.heap.size 50 [.string ⟨#[]⟩, .int .i64 0, .int .i64 0, .int .i64 0, .slice none 0 0, .slice none 0 0, .int .i64 0] := by rw [hR]; exact HasObj.new _ _ _
 have hbn : Below w.heap.size w w1 := by rw [hR]; exact (Below.refl _ _).alloc (Nat.le_refl _) _
 have loR : w.heap.size ≤ w.heap.size := (uh BB).size
 have ER := hR.symm; clear hR
 replace CU := hide ((uh CU).kept (below_g0 hbn) (fun k hk => by cases hk))
 have sz1 := hide (hbn.size); replace BB := hide (g_then (uh BB) hbn); clear hbn; have R := hide Rx; clear Rx
 go_enter Tryz.func125, Tryz.ntmps125
 go_wp2_with fail; clear ER
 refine (flag_str boxNames B c _ (uh CU) (by decide) (by decide)).mono ?_
 rintro e w2 ⟨z, hz, rfl, hc, hg⟩
 have hz := hide hz
 replace R := hide ((uh R).kept hg (fun e => by have q1_ := Option.some.inj e; omega))
 have sz2 := hide (hg.size); replace BB := hide (g_join (uh BB) hg); clear CU; have CU := hide hc; clear hg hc; go_wp2_with fail
 refine (uh LIT _ 5 5 rfl (uh CU) (by decide) (by decide)).mono ?_
 rintro e w3 ⟨x, hx, rfl, hc, hg⟩
 replace R := hide ((uh R).kept hg (fun e => by have q1_ := Option.some.inj e; omega))
 have sz3 := hide (hg.size); replace BB := hide (g_join (uh BB) hg); clear CU; have CU := hide hc; clear hg hc
 have n1 : IntKind.i64.wrap (1 + (x : Int)) = 1 + (x : Int) := by rw [IntKind.wrap_i64]; omega
 go_wp2_with fail
 refine (spec_BoxNew_any z (1 + (x : Int)) _ (name_small (uh hz))).mono ?_
 rintro e w4 ⟨rfl, hb⟩
 replace CU := hide ((uh CU).kept (below_g0 hb) (fun k hk => by cases hk))
 replace R := hide ((uh R).ups hb); have sz4 := hide (hb.size); replace BB := hide (g_then (uh BB) hb); clear hb
 rw [new_yes (uh hz) (by omega) (by omega)]
 have OK0 : Hid (boxOk (newBox z (1 + (x : Int))) = true) := new_right (uh hz) (by omega) (by omega)
 obtain ⟨b0, hb0⟩ : ∃ b0, b0 = newBox z (1 + (x : Int)) := ⟨_, rfl⟩
 have M0 : Hid (b0.mails = [] ∧ b0.tombs = [] ∧ b0.mod = 1) := by rw [hb0]; exact ⟨rfl, rfl, rfl⟩
 rw [← hb0] at OK0 ⊢
 clear hb0 n1 hx
 obtain ⟨w5, hQ⟩ : ∃ X, X = w4.alloc (.cells ([.string b0.name, .int .i64 b0.valid, .int .i64 b0.next, .int .i64 b0.mod, .slice none 0 0, .slice none 0 0, .int .i64 b0.hor] : List Value).toArray 50) := ⟨_, rfl⟩
 have Qx : HasObj w5 w4.heap.size 50 [.string b0.name, .int .i64 b0.valid, .int .i64 b0.next, .int .i64 b0.mod, .slice none 0 0, .slice none 0 0, .int .i64 b0.hor] := by rw [hQ]; exact HasObj.new _ _ _
 have hbn : Below w4.heap.size w4 w5 := by rw [hQ]; exact (Below.refl _ _).alloc (Nat.le_refl _) _
 have neRQ : w.heap.size ≠ w4.heap.size := Nat.ne_of_lt (uh R).lt
 have loQ : w.heap.size ≤ w4.heap.size := (uh BB).size
 have EQ := hQ.symm; clear hQ
 replace CU := hide ((uh CU).kept (below_g0 hbn) (fun k hk => by cases hk))
 replace R := hide ((uh R).ups hbn); have sz5 := hide (hbn.size); replace BB := hide (g_then (uh BB) hbn); clear hbn; have Q := hide Qx; clear Qx
 go_wp2
 clear EQ
 obtain ⟨REL, HREL⟩ : ∃ REL : Value → World → Prop, Hid (REL = fun i wr => ∃ (k : Nat) (b : Bx) (m t : Value), k ≤ 17 ∧ i = .int .i64 k ∧ (boxOk b = true ∧ b.mod ≤ (k : Int) + 1) ∧ HasObj wr (w4.heap.size) 50 [.string b.name, .int .i64 b.valid, .int .i64 b.next, .int .i64 b.mod, m, t, .int .i64 b.hor] ∧ HasObj wr (w.heap.size) 50 [.string ⟨#[]⟩, .int .i64 0, .int .i64 0, .int .i64 0, .slice none 0 0, .slice none 0 0, .int .i64 0] ∧ OwnBx w.heap.size wr m t b ∧ Cur B wr c ∧ w.grownBy wr (some c)) := ⟨_, rfl⟩
 go_loopw [5] (fun i wr => REL i wr) (fun i _ => 18 - (intOf i).toNat)
 case atStart => rw [uh HREL]; exact ⟨0, b0, _, _, by omega, rfl, ⟨uh OK0, by rw [(uh M0).2.2]; decide⟩, uh Q, uh R, ⟨by rw [(uh M0).1]; exact World.ownsRow_nil _ _ _ _, by rw [(uh M0).2.1]; exact World.ownsRow_nil _ _ _ _⟩, uh CU, uh BB⟩
 clear Q R CU BB OK0 M0
 case round =>
  rw [uh HREL] at hrel
  obtain ⟨k, b, m, t, hk, rfl, ⟨hok, hmk⟩, oQ, oR, oB, cu, gr⟩ := hrel
  obtain ⟨wo, hwo⟩ : ∃ wo, wo = wr := ⟨_, rfl⟩
  subst hwo
  obtain ⟨am, cm, rfl⟩ := g_shape oB.1
  obtain ⟨at1, ct1, rfl⟩ := g_shape oB.2
  have FIT := hide (fit_ok hok); have OK := hide hok; have hmod := inI_iff.1 (head_parts (boxOk_iff.1 hok).1).2.2.2.1; have h30 := (head_parts (boxOk_iff.1 hok).1).2.2.2.2.1
  have nm : IntKind.i64.wrap (b.mod + 1) = b.mod + 1 := by rw [IntKind.wrap_i64]; omega
  have Q := hide oQ; have R := hide oR; have OB := hide oB; have CU := hide cu; have BB := hide gr
  have LBOB : Hid (w.heap.size ≤ w.heap.size) := Nat.le_refl _
  clear oQ oR oB cu gr hok; go_wp2_with fail
  refine (uh LIT _ 16 16 rfl (uh CU) (by decide) (by decide)).mono ?_
  rintro e wr1 ⟨x1, hx1, rfl, hc, hg⟩
  replace R := hide ((uh R).kept hg (fun e => by have q1_ := Option.some.inj e; omega))
  replace Q := hide ((uh Q).kept hg (fun e => by have q1_ := Option.some.inj e; omega))
  replace OB : Hid (OwnBx w.heap.size wr1 (.slice am b.mails.length cm) (.slice at1 b.tombs.length ct1) b) := ⟨g_aside (uh OB).1 hg (fun z hz hz2 => by have q1_ := Option.some.inj hz; have q2_ := (World.ownsRow.lt (uh OB).1 z hz2).1; have q3_ := uh LBOB; omega), g_aside (uh OB).2 hg (fun z hz hz2 => by have q1_ := Option.some.inj hz; have q2_ := (World.ownsRow.lt (uh OB).2 z hz2).1; have q3_ := uh LBOB; omega)⟩
  have sz101 := hide (hg.size); replace BB := hide (g_join (uh BB) hg); clear CU; have CU := hide hc; clear hg hc
  have n2 : IntKind.i64.wrap (2 + (x1 : Int)) = 2 + (x1 : Int) := by rw [IntKind.wrap_i64]; omega
  by_cases hlt : (k : Int) < 2 + (x1 : Int)
  ·have dl : decide ((k : Int) < 2 + (x1 : Int)) = true := decide_eq_true hlt
   go_wp2_with fail
   refine (uh LIT _ 6 6 rfl (uh CU) (by decide) (by decide)).mono ?_
   rintro e wy2 ⟨x2, hx2, rfl, hc, hg⟩
   replace R := hide ((uh R).kept hg (fun e => by have q1_ := Option.some.inj e; omega))
   replace Q := hide ((uh Q).kept hg (fun e => by have q1_ := Option.some.inj e; omega))
   replace OB : Hid (OwnBx w.heap.size wy2 (.slice am b.mails.length cm) (.slice at1 b.tombs.length ct1) b) := ⟨g_aside (uh OB).1 hg (fun z hz hz2 => by have q1_ := Option.some.inj hz; have q2_ := (World.ownsRow.lt (uh OB).1 z hz2).1; have q3_ := uh LBOB; omega), g_aside (uh OB).2 hg (fun z hz hz2 => by have q1_ := Option.some.inj hz; have q2_ := (World.ownsRow.lt (uh OB).2 z hz2).1; have q3_ := uh LBOB; omega)⟩
   have sz102 := hide (hg.size); replace BB := hide (g_join (uh BB) hg); clear CU; have CU := hide hc; clear hg hc; clear dl n2
   have hx6 : x2 = 0 ∨ x2 = 1 ∨ x2 = 2 ∨ x2 = 3 ∨ x2 = 4 ∨ x2 = 5 := by omega
   rcases hx6 with rfl | rfl | rfl | rfl | rfl | rfl
   ·simp only [show ((0 : Nat) : Int) = 0 from rfl]
    have Qc0_1 := (uh Q).cell 0 rfl; have Qc1_1 := (uh Q).cell 1 rfl; have Qc2_1 := (uh Q).cell 2 rfl; have Qc3_1 := (uh Q).cell 3 rfl; have Qc4_1 := (uh Q).cell 4 rfl; have Qc5_1 := (uh Q).cell 5 rfl; have Qc6_1 := (uh Q).cell 6 rfl
    go_wp2
    refine lat2Begin (S := fun w' => w'.cell? ⟨w4.heap.size, 0, none⟩ = some (.string b.name) ∧ w'.cell? ⟨w4.heap.size, 1, none⟩ = some (.int .i64 b.valid) ∧ w'.cell? ⟨w4.heap.size, 2, none⟩ = some (.int .i64 b.next) ∧ w'.cell? ⟨w4.heap.size, 3, none⟩ = some (.int .i64 b.mod) ∧ w'.cell? ⟨w4.heap.size, 4, none⟩ = some (.slice am b.mails.length cm) ∧ w'.cell? ⟨w4.heap.size, 5, none⟩ = some (.slice at1 b.tombs.length ct1) ∧ w'.cell? ⟨w4.heap.size, 6, none⟩ = some (.int .i64 b.hor)) 9 (by kernel_rfl) (⟨(uh Q).cell 0 rfl, (uh Q).cell 1 rfl, (uh Q).cell 2 rfl, (uh Q).cell 3 rfl, (uh Q).cell 4 rfl, (uh Q).cell 5 rfl, (uh Q).cell 6 rfl⟩) (fun hHeld => ?_)
    clear Qc0_1 Qc1_1 Qc2_1 Qc3_1 Qc4_1 Qc5_1 Qc6_1
    replace CU : Hid (Cur B wy2.drew c) := (uh CU).kept (g_drew (g_self _ none)) (fun k hk => by cases hk)
    replace R := hide ((uh R).drew); replace Q := hide ((uh Q).drew); replace OB := hide ((uh OB).drew); replace BB := hide (g_drew (uh BB))
    have sz103 : Hid (wy2.heap.size ≤ wy2.drew.heap.size) := Nat.le_refl _
    refine lat2Take 0 (some 39) ?_ rfl (by kernel_rfl) (by kernel_rfl) (by kernel_rfl) (by kernel_rfl) rfl (fun _ _ _ h => h) (by rfl) (by assumption) ?_ ?_; rotate_left; (intro w hSw; (try dsimp only at hSw); go_simp <;> with_reducible rfl); simp only [Act.put, p1, p2, p3]
    refine lat2Take 1 (some 40) ?_ rfl (by kernel_rfl) (by kernel_rfl) (by kernel_rfl) (by kernel_rfl) rfl (fun _ _ _ h => h) (by rfl) (by assumption) ?_ ?_; rotate_left; (intro w hSw; (try dsimp only at hSw); go_simp <;> with_reducible rfl); simp only [Act.put, p1, p2, p3]
    refine lat2Take 3 (some 42) ?_ rfl (by kernel_rfl) (by kernel_rfl) (by kernel_rfl) (by kernel_rfl) rfl (fun _ _ _ h => h) (by rfl) (by assumption) ?_ ?_; rotate_left; (intro w hSw; (try dsimp only at hSw); go_simp <;> with_reducible rfl); simp only [Act.put, p1, p2, p3]
    refine lat2Step 2 (by kernel_rfl) rfl (by rfl) (fun K hK => ?_)
    go_simp
    refine (uh LIT _ 32 32 rfl (uh CU) (by decide) (by decide)).mono ?_
    rintro e wy03 ⟨f, hf, rfl, hc, hg⟩
    replace R := hide ((uh R).kept hg (fun e => by have q1_ := Option.some.inj e; omega))
    replace Q := hide ((uh Q).kept hg (fun e => by have q1_ := Option.some.inj e; omega))
    replace OB : Hid (OwnBx w.heap.size wy03 (.slice am b.mails.length cm) (.slice at1 b.tombs.length ct1) b) := ⟨g_aside (uh OB).1 hg (fun z hz hz2 => by have q1_ := Option.some.inj hz; have q2_ := (World.ownsRow.lt (uh OB).1 z hz2).1; have q3_ := uh LBOB; omega), g_aside (uh OB).2 hg (fun z hz hz2 => by have q1_ := Option.some.inj hz; have q2_ := (World.ownsRow.lt (uh OB).2 z hz2).1; have q3_ := uh LBOB; omega)⟩
    have sz104 := hide (hg.size); replace BB := hide (g_join (uh BB) hg); clear CU; have CU := hide hc; clear hg hc; go_wp2_with fail
    refine hK.out _ _ (⟨(uh Q).cell 0 rfl, (uh Q).cell 1 rfl, (uh Q).cell 2 rfl, (uh Q).cell 3 rfl, (uh Q).cell 4 rfl, (uh Q).cell 5 rfl, (uh Q).cell 6 rfl⟩) (fun hHeld2 => ?_)
    clear hK K hHeld; have hHeld := hHeld2; clear hHeld2
    try simp only [Act.put, p1, p2, p3]
    refine lat2Step 4 (by kernel_rfl) rfl (by rfl) (fun K hK => ?_)
    go_simp
    refine (l07Mail_any B c _ (uh CU)).mono ?_
    rintro e wy04 ⟨tx, htx, rfl, hc, hg⟩
    have htx := hide htx
    replace R := hide ((uh R).kept hg (fun e => by have q1_ := Option.some.inj e; omega))
    replace Q := hide ((uh Q).kept hg (fun e => by have q1_ := Option.some.inj e; omega))
    replace OB : Hid (OwnBx w.heap.size wy04 (.slice am b.mails.length cm) (.slice at1 b.tombs.length ct1) b) := ⟨g_aside (uh OB).1 hg (fun z hz hz2 => by have q1_ := Option.some.inj hz; have q2_ := (World.ownsRow.lt (uh OB).1 z hz2).1; have q3_ := uh LBOB; omega), g_aside (uh OB).2 hg (fun z hz hz2 => by have q1_ := Option.some.inj hz; have q2_ := (World.ownsRow.lt (uh OB).2 z hz2).1; have q3_ := uh LBOB; omega)⟩
    have sz105 := hide (hg.size); replace BB := hide (g_join (uh BB) hg); clear CU; have CU := hide hc; clear hg hc; go_wp2_with fail
    refine hK.out _ _ (⟨(uh Q).cell 0 rfl, (uh Q).cell 1 rfl, (uh Q).cell 2 rfl, (uh Q).cell 3 rfl, (uh Q).cell 4 rfl, (uh Q).cell 5 rfl, (uh Q).cell 6 rfl⟩) (fun hHeld2 => ?_)
    clear hK K hHeld; have hHeld := hHeld2; clear hHeld2
    try simp only [Act.put, p1, p2, p3]
    refine lat2Step 5 (by kernel_rfl) rfl (by rfl) (fun K hK => ?_)
    go_simp
    refine (spec_AddMail_any b _ _ _ (f : Int) tx _ (uh FIT) (by omega) (mail_small (uh htx)) (uh OB)).mono ?_
    rintro e wy05 ⟨m5, t5, rfl, o5, hb⟩
    obtain ⟨bn, hbn⟩ : ∃ x, x = (addV b (f : Int) tx).1 := ⟨_, rfl⟩
    have OKN : Hid (boxOk bn = true) := by show _ = _; rw [hbn]; exact add_keeps (uh OK)
    have MDN : Hid (bn.mod ≤ b.mod + 1) := by show _ ≤ _; rw [hbn]; exact add_mod _ _ _
    rw [← hbn] at o5 ⊢
    clear hbn
    obtain ⟨an, cn, rfl⟩ := g_shape o5.1
    obtain ⟨an2, cn2, rfl⟩ := g_shape o5.2
    have LBON : Hid (w.heap.size ≤ wy04.heap.size) := (uh BB).size
    have ON := hide o5; clear o5 OB
    replace CU := hide ((uh CU).kept (below_g0 hb) (fun k hk => by cases hk))
    replace R := hide ((uh R).ups hb); replace Q := hide ((uh Q).ups hb); have sz106 := hide (hb.size); replace BB := hide (g_then (uh BB) hb); clear hb; go_wp2_with fail
    refine hK.out _ _ (⟨(uh Q).cell 0 rfl, (uh Q).cell 1 rfl, (uh Q).cell 2 rfl, (uh Q).cell 3 rfl, (uh Q).cell 4 rfl, (uh Q).cell 5 rfl, (uh Q).cell 6 rfl⟩) (fun hHeld2 => ?_)
    clear hK K hHeld; have hHeld := hHeld2; clear hHeld2
    try simp only [Act.put, p1, p2, p3]
    refine lat2Take 6 (some 38) ?_ rfl (by kernel_rfl) (by kernel_rfl) (by kernel_rfl) (by kernel_rfl) rfl (fun _ _ _ h => h) (by rfl) (by assumption) ?_ ?_; rotate_left; (intro w hSw; (try dsimp only at hSw); go_simp <;> with_reducible rfl); simp only [Act.put, p1, p2, p3]
    refine lat2Pure 8 (some 46) ?_ rfl (by kernel_rfl) (by kernel_rfl) (by kernel_rfl) rfl (fun _ _ _ h => h) (by rfl) ?_ ?_; rotate_left; (intro w hSw; (try dsimp only at hSw); go_simp <;> with_reducible rfl); simp only [Act.put, p1, p2, p3]
    refine lat2Take 7 (some 45) ?_ rfl (by kernel_rfl) (by kernel_rfl) (by kernel_rfl) (by kernel_rfl) rfl (fun _ _ _ h => h) (by rfl) (by assumption) ?_ ?_; rotate_left; (intro w hSw; (try dsimp only at hSw); go_simp <;> with_reducible rfl); simp only [Act.put, p1, p2, p3]
    have Qf0 := (uh Q).frozen 0; have Qf1 := (uh Q).frozen 1; have Qf2 := (uh Q).frozen 2; have Qf3 := (uh Q).frozen 3; have Qf4 := (uh Q).frozen 4; have Qf5 := (uh Q).frozen 5; have Qf6 := (uh Q).frozen 6; have Qe0 := (uh Q).cell 0 rfl; have Qe1 := (uh Q).cell 1 rfl; have Qe2 := (uh Q).cell 2 rfl; have Qe3 := (uh Q).cell 3 rfl; have Qe4 := (uh Q).cell 4 rfl; have Qe5 := (uh Q).cell 5 rfl; have Qe6 := (uh Q).cell 6 rfl; have F_ := hide (fill7 (uh Q) (.string bn.name) (.int .i64 bn.valid) (.int .i64 bn.next) (.int .i64 bn.mod) (.slice an bn.mails.length cn) (.slice an2 bn.tombs.length cn2) (.int .i64 bn.hor))
    refine lat2Last 9 (by decide) (by kernel_rfl) rfl (by rfl) (fun K hK => ?_)
    go_simp
    refine hK.out _ _ ?_
    clear hK K hHeld
    try simp only [Act.put, p1, p2, p3]
    obtain ⟨wy06, hU⟩ : ∃ U, U = (((((((wy05.setCell ⟨w4.heap.size, 0, none⟩ (.string bn.name)).setCell ⟨w4.heap.size, 1, none⟩ (.int .i64 bn.valid)).setCell ⟨w4.heap.size, 2, none⟩ (.int .i64 bn.next)).setCell ⟨w4.heap.size, 3, none⟩ (.int .i64 bn.mod)).setCell ⟨w4.heap.size, 4, none⟩ (.slice an bn.mails.length cn)).setCell ⟨w4.heap.size, 5, none⟩ (.slice an2 bn.tombs.length cn2)).setCell ⟨w4.heap.size, 6, none⟩ (.int .i64 bn.hor)) := ⟨_, rfl⟩
    have GU : wy05.grownBy wy06 (some (w4.heap.size)) := by rw [hU]; exact g_store (g_store (g_store (g_store (g_store (g_store (g_store (g_self _ _) _) _) _) _) _) _) _
    have F := uh F_
    rw [← hU] at F ⊢
    clear hU F_; clear Qf0 Qf1 Qf2 Qf3 Qf4 Qf5 Qf6 Qe0 Qe1 Qe2 Qe3 Qe4 Qe5 Qe6
    have CU_ := hide ((uh CU).kept GU (fun k hk => by have q1_ := Option.some.inj hk; omega))
    have R_ := hide (F.other neRQ (uh R)); have Q_ := hide (F.obj)
    have ON_ : Hid (OwnBx wy04.heap.size wy06 (.slice an bn.mails.length cn) (.slice an2 bn.tombs.length cn2) bn) := ⟨F.row (by decide) (uh ON).1, F.row (by decide) (uh ON).2⟩
    have BB_ : Hid (w.grownBy wy06 (some c)) := g_new (uh BB) GU (fun k hk => by have q1_ := Option.some.inj hk; omega)
    replace R := R_; clear R_; replace Q := Q_; clear Q_; replace ON := ON_; clear ON_; replace BB := BB_; clear BB_; replace CU := CU_; clear CU_; clear F GU
    refine lat2Done (by kernel_rfl) ?_ _
    go_wp2
    go_roundw
    case rel => rw [uh HREL]; exact ⟨k + 1, bn, _, _, by omega, by go_num, ⟨uh OKN, by have h9 := uh MDN; go_num⟩, uh Q, uh R, ⟨g_based (uh ON).1 (uh LBON), g_based (uh ON).2 (uh LBON)⟩, uh CU, uh BB⟩
    case measure => simp [intOf]; omega
   ·simp only [show ((1 : Nat) : Int) = 1 from rfl]
    have Qc0_1 := (uh Q).cell 0 rfl; have Qc1_1 := (uh Q).cell 1 rfl; have Qc2_1 := (uh Q).cell 2 rfl; have Qc3_1 := (uh Q).cell 3 rfl; have Qc4_1 := (uh Q).cell 4 rfl; have Qc5_1 := (uh Q).cell 5 rfl; have Qc6_1 := (uh Q).cell 6 rfl
    go_wp2
    refine lat2Begin (S := fun w' => w'.cell? ⟨w4.heap.size, 0, none⟩ = some (.string b.name) ∧ w'.cell? ⟨w4.heap.size, 1, none⟩ = some (.int .i64 b.valid) ∧ w'.cell? ⟨w4.heap.size, 2, none⟩ = some (.int .i64 b.next) ∧ w'.cell? ⟨w4.heap.size, 3, none⟩ = some (.int .i64 b.mod) ∧ w'.cell? ⟨w4.heap.size, 4, none⟩ = some (.slice am b.mails.length cm) ∧ w'.cell? ⟨w4.heap.size, 5, none⟩ = some (.slice at1 b.tombs.length ct1) ∧ w'.cell? ⟨w4.heap.size, 6, none⟩ = some (.int .i64 b.hor)) 9 (by kernel_rfl) (⟨(uh Q).cell 0 rfl, (uh Q).cell 1 rfl, (uh Q).cell 2 rfl, (uh Q).cell 3 rfl, (uh Q).cell 4 rfl, (uh Q).cell 5 rfl, (uh Q).cell 6 rfl⟩) (fun hHeld => ?_)
    clear Qc0_1 Qc1_1 Qc2_1 Qc3_1 Qc4_1 Qc5_1 Qc6_1
    replace CU : Hid (Cur B wy2.drew c) := (uh CU).kept (g_drew (g_self _ none)) (fun k hk => by cases hk)
    replace R := hide ((uh R).drew); replace Q := hide ((uh Q).drew); replace OB := hide ((uh OB).drew); replace BB := hide (g_drew (uh BB))
    have sz103 : Hid (wy2.heap.size ≤ wy2.drew.heap.size) := Nat.le_refl _
    refine lat2Take 0 (some 39) ?_ rfl (by kernel_rfl) (by kernel_rfl) (by kernel_rfl) (by kernel_rfl) rfl (fun _ _ _ h => h) (by rfl) (by assumption) ?_ ?_; rotate_left; (intro w hSw; (try dsimp only at hSw); go_simp <;> with_reducible rfl); simp only [Act.put, p1, p2, p3]
    refine lat2Take 1 (some 40) ?_ rfl (by kernel_rfl) (by kernel_rfl) (by kernel_rfl) (by kernel_rfl) rfl (fun _ _ _ h => h) (by rfl) (by assumption) ?_ ?_; rotate_left; (intro w hSw; (try dsimp only at hSw); go_simp <;> with_reducible rfl); simp only [Act.put, p1, p2, p3]
    refine lat2Take 3 (some 42) ?_ rfl (by kernel_rfl) (by kernel_rfl) (by kernel_rfl) (by kernel_rfl) rfl (fun _ _ _ h => h) (by rfl) (by assumption) ?_ ?_; rotate_left; (intro w hSw; (try dsimp only at hSw); go_simp <;> with_reducible rfl); simp only [Act.put, p1, p2, p3]
    refine lat2Step 2 (by kernel_rfl) rfl (by rfl) (fun K hK => ?_)
    go_simp
    refine (uh LIT _ 32 32 rfl (uh CU) (by decide) (by decide)).mono ?_
    rintro e wy13 ⟨f, hf, rfl, hc, hg⟩
    replace R := hide ((uh R).kept hg (fun e => by have q1_ := Option.some.inj e; omega))
    replace Q := hide ((uh Q).kept hg (fun e => by have q1_ := Option.some.inj e; omega))
    replace OB : Hid (OwnBx w.heap.size wy13 (.slice am b.mails.length cm) (.slice at1 b.tombs.length ct1) b) := ⟨g_aside (uh OB).1 hg (fun z hz hz2 => by have q1_ := Option.some.inj hz; have q2_ := (World.ownsRow.lt (uh OB).1 z hz2).1; have q3_ := uh LBOB; omega), g_aside (uh OB).2 hg (fun z hz hz2 => by have q1_ := Option.some.inj hz; have q2_ := (World.ownsRow.lt (uh OB).2 z hz2).1; have q3_ := uh LBOB; omega)⟩
    have sz104 := hide (hg.size); replace BB := hide (g_join (uh BB) hg); clear CU; have CU := hide hc; clear hg hc; go_wp2_with fail
    refine hK.out _ _ (⟨(uh Q).cell 0 rfl, (uh Q).cell 1 rfl, (uh Q).cell 2 rfl, (uh Q).cell 3 rfl, (uh Q).cell 4 rfl, (uh Q).cell 5 rfl, (uh Q).cell 6 rfl⟩) (fun hHeld2 => ?_)
    clear hK K hHeld; have hHeld := hHeld2; clear hHeld2
    try simp only [Act.put, p1, p2, p3]
    refine lat2Step 4 (by kernel_rfl) rfl (by rfl) (fun K hK => ?_)
    go_simp
    refine (l07Mail_any B c _ (uh CU)).mono ?_
    rintro e wy14 ⟨tx, htx, rfl, hc, hg⟩
    have htx := hide htx
    replace R := hide ((uh R).kept hg (fun e => by have q1_ := Option.some.inj e; omega))
    replace Q := hide ((uh Q).kept hg (fun e => by have q1_ := Option.some.inj e; omega))
    replace OB : Hid (OwnBx w.heap.size wy14 (.slice am b.mails.length cm) (.slice at1 b.tombs.length ct1) b) := ⟨g_aside (uh OB).1 hg (fun z hz hz2 => by have q1_ := Option.some.inj hz; have q2_ := (World.ownsRow.lt (uh OB).1 z hz2).1; have q3_ := uh LBOB; omega), g_aside (uh OB).2 hg (fun z hz hz2 => by have q1_ := Option.some.inj hz; have q2_ := (World.ownsRow.lt (uh OB).2 z hz2).1; have q3_ := uh LBOB; omega)⟩
    have sz105 := hide (hg.size); replace BB := hide (g_join (uh BB) hg); clear CU; have CU := hide hc; clear hg hc; go_wp2_with fail
    refine hK.out _ _ (⟨(uh Q).cell 0 rfl, (uh Q).cell 1 rfl, (uh Q).cell 2 rfl, (uh Q).cell 3 rfl, (uh Q).cell 4 rfl, (uh Q).cell 5 rfl, (uh Q).cell 6 rfl⟩) (fun hHeld2 => ?_)
    clear hK K hHeld; have hHeld := hHeld2; clear hHeld2
    try simp only [Act.put, p1, p2, p3]
    refine lat2Step 5 (by kernel_rfl) rfl (by rfl) (fun K hK => ?_)
    go_simp
    refine (spec_AddMail_any b _ _ _ (f : Int) tx _ (uh FIT) (by omega) (mail_small (uh htx)) (uh OB)).mono ?_
    rintro e wy15 ⟨m5, t5, rfl, o5, hb⟩
    obtain ⟨bn, hbn⟩ : ∃ x, x = (addV b (f : Int) tx).1 := ⟨_, rfl⟩
    have OKN : Hid (boxOk bn = true) := by show _ = _; rw [hbn]; exact add_keeps (uh OK)
    have MDN : Hid (bn.mod ≤ b.mod + 1) := by show _ ≤ _; rw [hbn]; exact add_mod _ _ _
    rw [← hbn] at o5 ⊢
    clear hbn
    obtain ⟨an, cn, rfl⟩ := g_shape o5.1
    obtain ⟨an2, cn2, rfl⟩ := g_shape o5.2
    have LBON : Hid (w.heap.size ≤ wy14.heap.size) := (uh BB).size
    have ON := hide o5; clear o5 OB
    replace CU := hide ((uh CU).kept (below_g0 hb) (fun k hk => by cases hk))
    replace R := hide ((uh R).ups hb); replace Q := hide ((uh Q).ups hb); have sz106 := hide (hb.size); replace BB := hide (g_then (uh BB) hb); clear hb; go_wp2_with fail
    refine hK.out _ _ (⟨(uh Q).cell 0 rfl, (uh Q).cell 1 rfl, (uh Q).cell 2 rfl, (uh Q).cell 3 rfl, (uh Q).cell 4 rfl, (uh Q).cell 5 rfl, (uh Q).cell 6 rfl⟩) (fun hHeld2 => ?_)
    clear hK K hHeld; have hHeld := hHeld2; clear hHeld2
    try simp only [Act.put, p1, p2, p3]
    refine lat2Take 6 (some 38) ?_ rfl (by kernel_rfl) (by kernel_rfl) (by kernel_rfl) (by kernel_rfl) rfl (fun _ _ _ h => h) (by rfl) (by assumption) ?_ ?_; rotate_left; (intro w hSw; (try dsimp only at hSw); go_simp <;> with_reducible rfl); simp only [Act.put, p1, p2, p3]
    refine lat2Pure 8 (some 46) ?_ rfl (by kernel_rfl) (by kernel_rfl) (by kernel_rfl) rfl (fun _ _ _ h => h) (by rfl) ?_ ?_; rotate_left; (intro w hSw; (try dsimp only at hSw); go_simp <;> with_reducible rfl); simp only [Act.put, p1, p2, p3]
    refine lat2Take 7 (some 45) ?_ rfl (by kernel_rfl) (by kernel_rfl) (by kernel_rfl) (by kernel_rfl) rfl (fun _ _ _ h => h) (by rfl) (by assumption) ?_ ?_; rotate_left; (intro w hSw; (try dsimp only at hSw); go_simp <;> with_reducible rfl); simp only [Act.put, p1, p2, p3]
    have Qf0 := (uh Q).frozen 0; have Qf1 := (uh Q).frozen 1; have Qf2 := (uh Q).frozen 2; have Qf3 := (uh Q).frozen 3; have Qf4 := (uh Q).frozen 4; have Qf5 := (uh Q).frozen 5; have Qf6 := (uh Q).frozen 6; have Qe0 := (uh Q).cell 0 rfl; have Qe1 := (uh Q).cell 1 rfl; have Qe2 := (uh Q).cell 2 rfl; have Qe3 := (uh Q).cell 3 rfl; have Qe4 := (uh Q).cell 4 rfl; have Qe5 := (uh Q).cell 5 rfl; have Qe6 := (uh Q).cell 6 rfl; have F_ := hide (fill7 (uh Q) (.string bn.name) (.int .i64 bn.valid) (.int .i64 bn.next) (.int .i64 bn.mod) (.slice an bn.mails.length cn) (.slice an2 bn.tombs.length cn2) (.int .i64 bn.hor))
    refine lat2Last 9 (by decide) (by kernel_rfl) rfl (by rfl) (fun K hK => ?_)
    go_simp
    refine hK.out _ _ ?_
    clear hK K hHeld
    try simp only [Act.put, p1, p2, p3]
    obtain ⟨wy16, hU⟩ : ∃ U, U = (((((((wy15.setCell ⟨w4.heap.size, 0, none⟩ (.string bn.name)).setCell ⟨w4.heap.size, 1, none⟩ (.int .i64 bn.valid)).setCell ⟨w4.heap.size, 2, none⟩ (.int .i64 bn.next)).setCell ⟨w4.heap.size, 3, none⟩ (.int .i64 bn.mod)).setCell ⟨w4.heap.size, 4, none⟩ (.slice an bn.mails.length cn)).setCell ⟨w4.heap.size, 5, none⟩ (.slice an2 bn.tombs.length cn2)).setCell ⟨w4.heap.size, 6, none⟩ (.int .i64 bn.hor)) := ⟨_, rfl⟩
    have GU : wy15.grownBy wy16 (some (w4.heap.size)) := by rw [hU]; exact g_store (g_store (g_store (g_store (g_store (g_store (g_store (g_self _ _) _) _) _) _) _) _) _
    have F := uh F_
    rw [← hU] at F ⊢
    clear hU F_; clear Qf0 Qf1 Qf2 Qf3 Qf4 Qf5 Qf6 Qe0 Qe1 Qe2 Qe3 Qe4 Qe5 Qe6
    have CU_ := hide ((uh CU).kept GU (fun k hk => by have q1_ := Option.some.inj hk; omega))
    have R_ := hide (F.other neRQ (uh R)); have Q_ := hide (F.obj)
    have ON_ : Hid (OwnBx wy14.heap.size wy16 (.slice an bn.mails.length cn) (.slice an2 bn.tombs.length cn2) bn) := ⟨F.row (by decide) (uh ON).1, F.row (by decide) (uh ON).2⟩
    have BB_ : Hid (w.grownBy wy16 (some c)) := g_new (uh BB) GU (fun k hk => by have q1_ := Option.some.inj hk; omega)
    replace R := R_; clear R_; replace Q := Q_; clear Q_; replace ON := ON_; clear ON_; replace BB := BB_; clear BB_; replace CU := CU_; clear CU_; clear F GU
    refine lat2Done (by kernel_rfl) ?_ _
    go_wp2
    go_roundw
    case rel => rw [uh HREL]; exact ⟨k + 1, bn, _, _, by omega, by go_num, ⟨uh OKN, by have h9 := uh MDN; go_num⟩, uh Q, uh R, ⟨g_based (uh ON).1 (uh LBON), g_based (uh ON).2 (uh LBON)⟩, uh CU, uh BB⟩
    case measure => simp [intOf]; omega
   ·simp only [show ((2 : Nat) : Int) = 2 from rfl]
    have Qc0_1 := (uh Q).cell 0 rfl; have Qc1_1 := (uh Q).cell 1 rfl; have Qc2_1 := (uh Q).cell 2 rfl; have Qc3_1 := (uh Q).cell 3 rfl; have Qc4_1 := (uh Q).cell 4 rfl; have Qc5_1 := (uh Q).cell 5 rfl; have Qc6_1 := (uh Q).cell 6 rfl
    go_wp2
    refine lat2Begin (S := fun w' => w'.cell? ⟨w4.heap.size, 0, none⟩ = some (.string b.name) ∧ w'.cell? ⟨w4.heap.size, 1, none⟩ = some (.int .i64 b.valid) ∧ w'.cell? ⟨w4.heap.size, 2, none⟩ = some (.int .i64 b.next) ∧ w'.cell? ⟨w4.heap.size, 3, none⟩ = some (.int .i64 b.mod) ∧ w'.cell? ⟨w4.heap.size, 4, none⟩ = some (.slice am b.mails.length cm) ∧ w'.cell? ⟨w4.heap.size, 5, none⟩ = some (.slice at1 b.tombs.length ct1) ∧ w'.cell? ⟨w4.heap.size, 6, none⟩ = some (.int .i64 b.hor)) 9 (by kernel_rfl) (⟨(uh Q).cell 0 rfl, (uh Q).cell 1 rfl, (uh Q).cell 2 rfl, (uh Q).cell 3 rfl, (uh Q).cell 4 rfl, (uh Q).cell 5 rfl, (uh Q).cell 6 rfl⟩) (fun hHeld => ?_)
    clear Qc0_1 Qc1_1 Qc2_1 Qc3_1 Qc4_1 Qc5_1 Qc6_1
    replace CU : Hid (Cur B wy2.drew c) := (uh CU).kept (g_drew (g_self _ none)) (fun k hk => by cases hk)
    replace R := hide ((uh R).drew); replace Q := hide ((uh Q).drew); replace OB := hide ((uh OB).drew); replace BB := hide (g_drew (uh BB))
    have sz103 : Hid (wy2.heap.size ≤ wy2.drew.heap.size) := Nat.le_refl _
    refine lat2Take 0 (some 39) ?_ rfl (by kernel_rfl) (by kernel_rfl) (by kernel_rfl) (by kernel_rfl) rfl (fun _ _ _ h => h) (by rfl) (by assumption) ?_ ?_; rotate_left; (intro w hSw; (try dsimp only at hSw); go_simp <;> with_reducible rfl); simp only [Act.put, p1, p2, p3]
    refine lat2Take 1 (some 40) ?_ rfl (by kernel_rfl) (by kernel_rfl) (by kernel_rfl) (by kernel_rfl) rfl (fun _ _ _ h => h) (by rfl) (by assumption) ?_ ?_; rotate_left; (intro w hSw; (try dsimp only at hSw); go_simp <;> with_reducible rfl); simp only [Act.put, p1, p2, p3]
    refine lat2Take 3 (some 42) ?_ rfl (by kernel_rfl) (by kernel_rfl) (by kernel_rfl) (by kernel_rfl) rfl (fun _ _ _ h => h) (by rfl) (by assumption) ?_ ?_; rotate_left; (intro w hSw; (try dsimp only at hSw); go_simp <;> with_reducible rfl); simp only [Act.put, p1, p2, p3]
    refine lat2Step 2 (by kernel_rfl) rfl (by rfl) (fun K hK => ?_)
    go_simp
    refine (uh LIT _ 32 32 rfl (uh CU) (by decide) (by decide)).mono ?_
    rintro e wy23 ⟨f, hf, rfl, hc, hg⟩
    replace R := hide ((uh R).kept hg (fun e => by have q1_ := Option.some.inj e; omega))
    replace Q := hide ((uh Q).kept hg (fun e => by have q1_ := Option.some.inj e; omega))
    replace OB : Hid (OwnBx w.heap.size wy23 (.slice am b.mails.length cm) (.slice at1 b.tombs.length ct1) b) := ⟨g_aside (uh OB).1 hg (fun z hz hz2 => by have q1_ := Option.some.inj hz; have q2_ := (World.ownsRow.lt (uh OB).1 z hz2).1; have q3_ := uh LBOB; omega), g_aside (uh OB).2 hg (fun z hz hz2 => by have q1_ := Option.some.inj hz; have q2_ := (World.ownsRow.lt (uh OB).2 z hz2).1; have q3_ := uh LBOB; omega)⟩
    have sz104 := hide (hg.size); replace BB := hide (g_join (uh BB) hg); clear CU; have CU := hide hc; clear hg hc; go_wp2_with fail
    refine hK.out _ _ (⟨(uh Q).cell 0 rfl, (uh Q).cell 1 rfl, (uh Q).cell 2 rfl, (uh Q).cell 3 rfl, (uh Q).cell 4 rfl, (uh Q).cell 5 rfl, (uh Q).cell 6 rfl⟩) (fun hHeld2 => ?_)
    clear hK K hHeld; have hHeld := hHeld2; clear hHeld2
    try simp only [Act.put, p1, p2, p3]
    refine lat2Step 4 (by kernel_rfl) rfl (by rfl) (fun K hK => ?_)
    go_simp
    refine (l07Mail_any B c _ (uh CU)).mono ?_
    rintro e wy24 ⟨tx, htx, rfl, hc, hg⟩
    have htx := hide htx
    replace R := hide ((uh R).kept hg (fun e => by have q1_ := Option.some.inj e; omega))
    replace Q := hide ((uh Q).kept hg (fun e => by have q1_ := Option.some.inj e; omega))
    replace OB : Hid (OwnBx w.heap.size wy24 (.slice am b.mails.length cm) (.slice at1 b.tombs.length ct1) b) := ⟨g_aside (uh OB).1 hg (fun z hz hz2 => by have q1_ := Option.some.inj hz; have q2_ := (World.ownsRow.lt (uh OB).1 z hz2).1; have q3_ := uh LBOB; omega), g_aside (uh OB).2 hg (fun z hz hz2 => by have q1_ := Option.some.inj hz; have q2_ := (World.ownsRow.lt (uh OB).2 z hz2).1; have q3_ := uh LBOB; omega)⟩
    have sz105 := hide (hg.size); replace BB := hide (g_join (uh BB) hg); clear CU; have CU := hide hc; clear hg hc; go_wp2_with fail
    refine hK.out _ _ (⟨(uh Q).cell 0 rfl, (uh Q).cell 1 rfl, (uh Q).cell 2 rfl, (uh Q).cell 3 rfl, (uh Q).cell 4 rfl, (uh Q).cell 5 rfl, (uh Q).cell 6 rfl⟩) (fun hHeld2 => ?_)
    clear hK K hHeld; have hHeld := hHeld2; clear hHeld2
    try simp only [Act.put, p1, p2, p3]
    refine lat2Step 5 (by kernel_rfl) rfl (by rfl) (fun K hK => ?_)
    go_simp
    refine (spec_AddMail_any b _ _ _ (f : Int) tx _ (uh FIT) (by omega) (mail_small (uh htx)) (uh OB)).mono ?_
    rintro e wy25 ⟨m5, t5, rfl, o5, hb⟩
    obtain ⟨bn, hbn⟩ : ∃ x, x = (addV b (f : Int) tx).1 := ⟨_, rfl⟩
    have OKN : Hid (boxOk bn = true) := by show _ = _; rw [hbn]; exact add_keeps (uh OK)
    have MDN : Hid (bn.mod ≤ b.mod + 1) := by show _ ≤ _; rw [hbn]; exact add_mod _ _ _
    rw [← hbn] at o5 ⊢
    clear hbn
    obtain ⟨an, cn, rfl⟩ := g_shape o5.1
    obtain ⟨an2, cn2, rfl⟩ := g_shape o5.2
    have LBON : Hid (w.heap.size ≤ wy24.heap.size) := (uh BB).size
    have ON := hide o5; clear o5 OB
    replace CU := hide ((uh CU).kept (below_g0 hb) (fun k hk => by cases hk))
    replace R := hide ((uh R).ups hb); replace Q := hide ((uh Q).ups hb); have sz106 := hide (hb.size); replace BB := hide (g_then (uh BB) hb); clear hb; go_wp2_with fail
    refine hK.out _ _ (⟨(uh Q).cell 0 rfl, (uh Q).cell 1 rfl, (uh Q).cell 2 rfl, (uh Q).cell 3 rfl, (uh Q).cell 4 rfl, (uh Q).cell 5 rfl, (uh Q).cell 6 rfl⟩) (fun hHeld2 => ?_)
    clear hK K hHeld; have hHeld := hHeld2; clear hHeld2
    try simp only [Act.put, p1, p2, p3]
    refine lat2Take 6 (some 38) ?_ rfl (by kernel_rfl) (by kernel_rfl) (by kernel_rfl) (by kernel_rfl) rfl (fun _ _ _ h => h) (by rfl) (by assumption) ?_ ?_; rotate_left; (intro w hSw; (try dsimp only at hSw); go_simp <;> with_reducible rfl); simp only [Act.put, p1, p2, p3]
    refine lat2Pure 8 (some 46) ?_ rfl (by kernel_rfl) (by kernel_rfl) (by kernel_rfl) rfl (fun _ _ _ h => h) (by rfl) ?_ ?_; rotate_left; (intro w hSw; (try dsimp only at hSw); go_simp <;> with_reducible rfl); simp only [Act.put, p1, p2, p3]
    refine lat2Take 7 (some 45) ?_ rfl (by kernel_rfl) (by kernel_rfl) (by kernel_rfl) (by kernel_rfl) rfl (fun _ _ _ h => h) (by rfl) (by assumption) ?_ ?_; rotate_left; (intro w hSw; (try dsimp only at hSw); go_simp <;> with_reducible rfl); simp only [Act.put, p1, p2, p3]
    have Qf0 := (uh Q).frozen 0; have Qf1 := (uh Q).frozen 1; have Qf2 := (uh Q).frozen 2; have Qf3 := (uh Q).frozen 3; have Qf4 := (uh Q).frozen 4; have Qf5 := (uh Q).frozen 5; have Qf6 := (uh Q).frozen 6; have Qe0 := (uh Q).cell 0 rfl; have Qe1 := (uh Q).cell 1 rfl; have Qe2 := (uh Q).cell 2 rfl; have Qe3 := (uh Q).cell 3 rfl; have Qe4 := (uh Q).cell 4 rfl; have Qe5 := (uh Q).cell 5 rfl; have Qe6 := (uh Q).cell 6 rfl; have F_ := hide (fill7 (uh Q) (.string bn.name) (.int .i64 bn.valid) (.int .i64 bn.next) (.int .i64 bn.mod) (.slice an bn.mails.length cn) (.slice an2 bn.tombs.length cn2) (.int .i64 bn.hor))
    refine lat2Last 9 (by decide) (by kernel_rfl) rfl (by rfl) (fun K hK => ?_)
    go_simp
    refine hK.out _ _ ?_
    clear hK K hHeld
    try simp only [Act.put, p1, p2, p3]
    obtain ⟨wy26, hU⟩ : ∃ U, U = (((((((wy25.setCell ⟨w4.heap.size, 0, none⟩ (.string bn.name)).setCell ⟨w4.heap.size, 1, none⟩ (.int .i64 bn.valid)).setCell ⟨w4.heap.size, 2, none⟩ (.int .i64 bn.next)).setCell ⟨w4.heap.size, 3, none⟩ (.int .i64 bn.mod)).setCell ⟨w4.heap.size, 4, none⟩ (.slice an bn.mails.length cn)).setCell ⟨w4.heap.size, 5, none⟩ (.slice an2 bn.tombs.length cn2)).setCell ⟨w4.heap.size, 6, none⟩ (.int .i64 bn.hor)) := ⟨_, rfl⟩
    have GU : wy25.grownBy wy26 (some (w4.heap.size)) := by rw [hU]; exact g_store (g_store (g_store (g_store (g_store (g_store (g_store (g_self _ _) _) _) _) _) _) _) _
    have F := uh F_
    rw [← hU] at F ⊢
    clear hU F_; clear Qf0 Qf1 Qf2 Qf3 Qf4 Qf5 Qf6 Qe0 Qe1 Qe2 Qe3 Qe4 Qe5 Qe6
    have CU_ := hide ((uh CU).kept GU (fun k hk => by have q1_ := Option.some.inj hk; omega))
    have R_ := hide (F.other neRQ (uh R)); have Q_ := hide (F.obj)
    have ON_ : Hid (OwnBx wy24.heap.size wy26 (.slice an bn.mails.length cn) (.slice an2 bn.tombs.length cn2) bn) := ⟨F.row (by decide) (uh ON).1, F.row (by decide) (uh ON).2⟩
    have BB_ : Hid (w.grownBy wy26 (some c)) := g_new (uh BB) GU (fun k hk => by have q1_ := Option.some.inj hk; omega)
    replace R := R_; clear R_; replace Q := Q_; clear Q_; replace ON := ON_; clear ON_; replace BB := BB_; clear BB_; replace CU := CU_; clear CU_; clear F GU
    refine lat2Done (by kernel_rfl) ?_ _
    go_wp2
    go_roundw
    case rel => rw [uh HREL]; exact ⟨k + 1, bn, _, _, by omega, by go_num, ⟨uh OKN, by have h9 := uh MDN; go_num⟩, uh Q, uh R, ⟨g_based (uh ON).1 (uh LBON), g_based (uh ON).2 (uh LBON)⟩, uh CU, uh BB⟩
    case measure => simp [intOf]; omega
   ·simp only [show ((3 : Nat) : Int) = 3 from rfl]
    have Qc0_1 := (uh Q).cell 0 rfl; have Qc1_1 := (uh Q).cell 1 rfl; have Qc2_1 := (uh Q).cell 2 rfl; have Qc3_1 := (uh Q).cell 3 rfl; have Qc4_1 := (uh Q).cell 4 rfl; have Qc5_1 := (uh Q).cell 5 rfl; have Qc6_1 := (uh Q).cell 6 rfl
    go_wp2
    refine lat2Begin (S := fun w' => w'.cell? ⟨w4.heap.size, 0, none⟩ = some (.string b.name) ∧ w'.cell? ⟨w4.heap.size, 1, none⟩ = some (.int .i64 b.valid) ∧ w'.cell? ⟨w4.heap.size, 2, none⟩ = some (.int .i64 b.next) ∧ w'.cell? ⟨w4.heap.size, 3, none⟩ = some (.int .i64 b.mod) ∧ w'.cell? ⟨w4.heap.size, 4, none⟩ = some (.slice am b.mails.length cm) ∧ w'.cell? ⟨w4.heap.size, 5, none⟩ = some (.slice at1 b.tombs.length ct1) ∧ w'.cell? ⟨w4.heap.size, 6, none⟩ = some (.int .i64 b.hor)) 13 (by kernel_rfl) (⟨(uh Q).cell 0 rfl, (uh Q).cell 1 rfl, (uh Q).cell 2 rfl, (uh Q).cell 3 rfl, (uh Q).cell 4 rfl, (uh Q).cell 5 rfl, (uh Q).cell 6 rfl⟩) (fun hHeld => ?_)
    clear Qc0_1 Qc1_1 Qc2_1 Qc3_1 Qc4_1 Qc5_1 Qc6_1
    replace CU : Hid (Cur B wy2.drew c) := (uh CU).kept (g_drew (g_self _ none)) (fun k hk => by cases hk)
    replace R := hide ((uh R).drew); replace Q := hide ((uh Q).drew); replace OB := hide ((uh OB).drew); replace BB := hide (g_drew (uh BB))
    have sz103 : Hid (wy2.heap.size ≤ wy2.drew.heap.size) := Nat.le_refl _
    refine lat2Take 0 (some 50) ?_ rfl (by kernel_rfl) (by kernel_rfl) (by kernel_rfl) (by kernel_rfl) rfl (fun _ _ _ h => h) (by rfl) (by assumption) ?_ ?_; rotate_left; (intro w hSw; (try dsimp only at hSw); go_simp <;> with_reducible rfl); simp only [Act.put, p1, p2, p3]
    refine lat2Take 1 (some 51) ?_ rfl (by kernel_rfl) (by kernel_rfl) (by kernel_rfl) (by kernel_rfl) rfl (fun _ _ _ h => h) (by rfl) (by assumption) ?_ ?_; rotate_left; (intro w hSw; (try dsimp only at hSw); go_simp <;> with_reducible rfl); simp only [Act.put, p1, p2, p3]
    refine lat2Take 3 (some 53) ?_ rfl (by kernel_rfl) (by kernel_rfl) (by kernel_rfl) (by kernel_rfl) rfl (fun _ _ _ h => h) (by rfl) (by assumption) ?_ ?_; rotate_left; (intro w hSw; (try dsimp only at hSw); go_simp <;> with_reducible rfl); simp only [Act.put, p1, p2, p3]
    refine lat2Take 6 (some 56) ?_ rfl (by kernel_rfl) (by kernel_rfl) (by kernel_rfl) (by kernel_rfl) rfl (fun _ _ _ h => h) (by rfl) (by assumption) ?_ ?_; rotate_left; (intro w hSw; (try dsimp only at hSw); go_simp <;> with_reducible rfl); simp only [Act.put, p1, p2, p3]
    refine lat2Step 2 (by kernel_rfl) rfl (by rfl) (fun K hK => ?_)
    go_simp
    refine (l05Draw_any B c _ (uh CU)).mono ?_
    rintro e wy33 ⟨vS, sS, rfl, hokS, hlS, hSS, gS, cpS, rfl⟩
    have oS := hide hSS.own; have hc := hSS.cur; have hg := hSS.grown
    have LBRS : Hid (w.heap.size ≤ wy2.drew.heap.size) := (uh BB).size
    have hokS := hide hokS; clear hSS
    replace R := hide ((uh R).kept hg (fun e => by have q1_ := Option.some.inj e; omega))
    replace Q := hide ((uh Q).kept hg (fun e => by have q1_ := Option.some.inj e; omega))
    replace OB : Hid (OwnBx w.heap.size wy33 (.slice am b.mails.length cm) (.slice at1 b.tombs.length ct1) b) := ⟨g_aside (uh OB).1 hg (fun z hz hz2 => by have q1_ := Option.some.inj hz; have q2_ := (World.ownsRow.lt (uh OB).1 z hz2).1; have q3_ := uh LBOB; omega), g_aside (uh OB).2 hg (fun z hz hz2 => by have q1_ := Option.some.inj hz; have q2_ := (World.ownsRow.lt (uh OB).2 z hz2).1; have q3_ := uh LBOB; omega)⟩
    have sz104 := hide (hg.size); replace BB := hide (g_join (uh BB) hg); clear CU; have CU := hide hc; clear hg hc; have RS := oS; clear oS; go_wp2_with fail
    refine hK.out _ _ (⟨(uh Q).cell 0 rfl, (uh Q).cell 1 rfl, (uh Q).cell 2 rfl, (uh Q).cell 3 rfl, (uh Q).cell 4 rfl, (uh Q).cell 5 rfl, (uh Q).cell 6 rfl⟩) (fun hHeld2 => ?_)
    clear hK K hHeld; have hHeld := hHeld2; clear hHeld2
    try simp only [Act.put, p1, p2, p3]
    refine lat2Step 4 (by kernel_rfl) rfl (by rfl) (fun K hK => ?_)
    go_simp
    refine (uh LIT _ 3 3 rfl (uh CU) (by decide) (by decide)).mono ?_
    rintro e wy34 ⟨h, hh, rfl, hc, hg⟩
    replace R := hide ((uh R).kept hg (fun e => by have q1_ := Option.some.inj e; omega))
    replace Q := hide ((uh Q).kept hg (fun e => by have q1_ := Option.some.inj e; omega))
    replace OB : Hid (OwnBx w.heap.size wy34 (.slice am b.mails.length cm) (.slice at1 b.tombs.length ct1) b) := ⟨g_aside (uh OB).1 hg (fun z hz hz2 => by have q1_ := Option.some.inj hz; have q2_ := (World.ownsRow.lt (uh OB).1 z hz2).1; have q3_ := uh LBOB; omega), g_aside (uh OB).2 hg (fun z hz hz2 => by have q1_ := Option.some.inj hz; have q2_ := (World.ownsRow.lt (uh OB).2 z hz2).1; have q3_ := uh LBOB; omega)⟩
    replace RS : Hid (OwnR wy2.drew.heap.size wy34 (.slice (some ⟨gS, 0, none⟩) sS.length cpS) (sS)) := g_aside (uh RS) hg (fun z hz hz2 => by have q1_ := Option.some.inj hz; have q2_ := (World.ownsRow.lt (uh RS) z hz2).1; have q3_ := uh LBRS; omega)
    have sz105 := hide (hg.size); replace BB := hide (g_join (uh BB) hg); clear CU; have CU := hide hc; clear hg hc; go_wp2_with fail
    refine hK.out _ _ (⟨(uh Q).cell 0 rfl, (uh Q).cell 1 rfl, (uh Q).cell 2 rfl, (uh Q).cell 3 rfl, (uh Q).cell 4 rfl, (uh Q).cell 5 rfl, (uh Q).cell 6 rfl⟩) (fun hHeld2 => ?_)
    clear hK K hHeld; have hHeld := hHeld2; clear hHeld2
    try simp only [Act.put, p1, p2, p3]
    have n3 : IntKind.i64.wrap (1 + (h : Int)) = 1 + (h : Int) := by rw [IntKind.wrap_i64]; omega
    refine lat2Take 5 (some 55) ?_ rfl (by kernel_rfl) (by kernel_rfl) (by kernel_rfl) (by kernel_rfl) rfl (fun _ _ _ h => h) (by rfl) (by assumption) ?_ ?_; rotate_left; (intro w hSw; (try dsimp only at hSw); go_simp <;> with_reducible rfl); simp only [Act.put, p1, p2, p3]
    refine lat2Step 7 (by kernel_rfl) rfl (by rfl) (fun K hK => ?_)
    go_simp
    refine (uh LIT _ 32 32 rfl (uh CU) (by decide) (by decide)).mono ?_
    rintro e wy35 ⟨f, hf, rfl, hc, hg⟩
    replace R := hide ((uh R).kept hg (fun e => by have q1_ := Option.some.inj e; omega))
    replace Q := hide ((uh Q).kept hg (fun e => by have q1_ := Option.some.inj e; omega))
    replace OB : Hid (OwnBx w.heap.size wy35 (.slice am b.mails.length cm) (.slice at1 b.tombs.length ct1) b) := ⟨g_aside (uh OB).1 hg (fun z hz hz2 => by have q1_ := Option.some.inj hz; have q2_ := (World.ownsRow.lt (uh OB).1 z hz2).1; have q3_ := uh LBOB; omega), g_aside (uh OB).2 hg (fun z hz hz2 => by have q1_ := Option.some.inj hz; have q2_ := (World.ownsRow.lt (uh OB).2 z hz2).1; have q3_ := uh LBOB; omega)⟩
    replace RS : Hid (OwnR wy2.drew.heap.size wy35 (.slice (some ⟨gS, 0, none⟩) sS.length cpS) (sS)) := g_aside (uh RS) hg (fun z hz hz2 => by have q1_ := Option.some.inj hz; have q2_ := (World.ownsRow.lt (uh RS) z hz2).1; have q3_ := uh LBRS; omega)
    have sz106 := hide (hg.size); replace BB := hide (g_join (uh BB) hg); clear CU; have CU := hide hc; clear hg hc; go_wp2_with fail
    refine hK.out _ _ (⟨(uh Q).cell 0 rfl, (uh Q).cell 1 rfl, (uh Q).cell 2 rfl, (uh Q).cell 3 rfl, (uh Q).cell 4 rfl, (uh Q).cell 5 rfl, (uh Q).cell 6 rfl⟩) (fun hHeld2 => ?_)
    clear hK K hHeld; have hHeld := hHeld2; clear hHeld2
    try simp only [Act.put, p1, p2, p3]
    refine lat2Step 8 (by kernel_rfl) rfl (by rfl) (fun K hK => ?_)
    go_simp
    refine (spec_SetFlags_any b _ _ _ sS _ (1 + (h : Int)) (f : Int) (-1) _ (uh FIT) (by omega) (OwnR.read (uh RS)) (uh OB)).mono ?_
    rintro e wy36 ⟨m5, t5, vd5, vl5, rfl, o5, od5, ol5, hb⟩
    obtain ⟨bn, hbn⟩ : ∃ x, x = (flagsV b sS (1 + (h : Int)) (f : Int) (-1)).1 := ⟨_, rfl⟩
    have OKN : Hid (boxOk bn = true) := by show _ = _; rw [hbn]; exact flags_keeps (uh OK)
    have MDN : Hid (bn.mod ≤ b.mod + 1) := by show _ ≤ _; rw [hbn]; exact flags_mod _ _ _ _ _
    rw [← hbn] at o5 ⊢
    clear hbn
    obtain ⟨an, cn, rfl⟩ := g_shape o5.1
    obtain ⟨an2, cn2, rfl⟩ := g_shape o5.2
    have LBON : Hid (w.heap.size ≤ wy35.heap.size) := (uh BB).size
    have ON := hide o5; clear o5 OB
    replace CU := hide ((uh CU).kept (below_g0 hb) (fun k hk => by cases hk))
    replace R := hide ((uh R).ups hb); replace Q := hide ((uh Q).ups hb); have sz107 := hide (hb.size); replace BB := hide (g_then (uh BB) hb); clear hb; go_wp2_with fail
    refine hK.out _ _ (⟨(uh Q).cell 0 rfl, (uh Q).cell 1 rfl, (uh Q).cell 2 rfl, (uh Q).cell 3 rfl, (uh Q).cell 4 rfl, (uh Q).cell 5 rfl, (uh Q).cell 6 rfl⟩) (fun hHeld2 => ?_)
    clear hK K hHeld; have hHeld := hHeld2; clear hHeld2
    try simp only [Act.put, p1, p2, p3]
    refine lat2Take 9 (some 49) ?_ rfl (by kernel_rfl) (by kernel_rfl) (by kernel_rfl) (by kernel_rfl) rfl (fun _ _ _ h => h) (by rfl) (by assumption) ?_ ?_; rotate_left; (intro w hSw; (try dsimp only at hSw); go_simp <;> with_reducible rfl); simp only [Act.put, p1, p2, p3]
    refine lat2Pure 11 (some 60) ?_ rfl (by kernel_rfl) (by kernel_rfl) (by kernel_rfl) rfl (fun _ _ _ h => h) (by rfl) ?_ ?_; rotate_left; (intro w hSw; (try dsimp only at hSw); go_simp <;> with_reducible rfl); simp only [Act.put, p1, p2, p3]
    refine lat2Pure 12 (some 61) ?_ rfl (by kernel_rfl) (by kernel_rfl) (by kernel_rfl) rfl (fun _ _ _ h => h) (by rfl) ?_ ?_; rotate_left; (intro w hSw; (try dsimp only at hSw); go_simp <;> with_reducible rfl); simp only [Act.put, p1, p2, p3]
    refine lat2Take 10 (some 59) ?_ rfl (by kernel_rfl) (by kernel_rfl) (by kernel_rfl) (by kernel_rfl) rfl (fun _ _ _ h => h) (by rfl) (by assumption) ?_ ?_; rotate_left; (intro w hSw; (try dsimp only at hSw); go_simp <;> with_reducible rfl); simp only [Act.put, p1, p2, p3]
    have Qf0 := (uh Q).frozen 0; have Qf1 := (uh Q).frozen 1; have Qf2 := (uh Q).frozen 2; have Qf3 := (uh Q).frozen 3; have Qf4 := (uh Q).frozen 4; have Qf5 := (uh Q).frozen 5; have Qf6 := (uh Q).frozen 6; have Qe0 := (uh Q).cell 0 rfl; have Qe1 := (uh Q).cell 1 rfl; have Qe2 := (uh Q).cell 2 rfl; have Qe3 := (uh Q).cell 3 rfl; have Qe4 := (uh Q).cell 4 rfl; have Qe5 := (uh Q).cell 5 rfl; have Qe6 := (uh Q).cell 6 rfl; have F_ := hide (fill7 (uh Q) (.string bn.name) (.int .i64 bn.valid) (.int .i64 bn.next) (.int .i64 bn.mod) (.slice an bn.mails.length cn) (.slice an2 bn.tombs.length cn2) (.int .i64 bn.hor))
    refine lat2Last 13 (by decide) (by kernel_rfl) rfl (by rfl) (fun K hK => ?_)
    go_simp
    refine hK.out _ _ ?_
    clear hK K hHeld
    try simp only [Act.put, p1, p2, p3]
    obtain ⟨wy37, hU⟩ : ∃ U, U = (((((((wy36.setCell ⟨w4.heap.size, 0, none⟩ (.string bn.name)).setCell ⟨w4.heap.size, 1, none⟩ (.int .i64 bn.valid)).setCell ⟨w4.heap.size, 2, none⟩ (.int .i64 bn.next)).setCell ⟨w4.heap.size, 3, none⟩ (.int .i64 bn.mod)).setCell ⟨w4.heap.size, 4, none⟩ (.slice an bn.mails.length cn)).setCell ⟨w4.heap.size, 5, none⟩ (.slice an2 bn.tombs.length cn2)).setCell ⟨w4.heap.size, 6, none⟩ (.int .i64 bn.hor)) := ⟨_, rfl⟩
    have GU : wy36.grownBy wy37 (some (w4.heap.size)) := by rw [hU]; exact g_store (g_store (g_store (g_store (g_store (g_store (g_store (g_self _ _) _) _) _) _) _) _) _
    have F := uh F_
    rw [← hU] at F ⊢
    clear hU F_; clear Qf0 Qf1 Qf2 Qf3 Qf4 Qf5 Qf6 Qe0 Qe1 Qe2 Qe3 Qe4 Qe5 Qe6
    have CU_ := hide ((uh CU).kept GU (fun k hk => by have q1_ := Option.some.inj hk; omega))
    have R_ := hide (F.other neRQ (uh R)); have Q_ := hide (F.obj)
    have ON_ : Hid (OwnBx wy35.heap.size wy37 (.slice an bn.mails.length cn) (.slice an2 bn.tombs.length cn2) bn) := ⟨F.row (by decide) (uh ON).1, F.row (by decide) (uh ON).2⟩
    have BB_ : Hid (w.grownBy wy37 (some c)) := g_new (uh BB) GU (fun k hk => by have q1_ := Option.some.inj hk; omega)
    replace R := R_; clear R_; replace Q := Q_; clear Q_; replace ON := ON_; clear ON_; replace BB := BB_; clear BB_; replace CU := CU_; clear CU_; clear F GU
    refine lat2Done (by kernel_rfl) ?_ _
    go_wp2
    go_roundw
    case rel => rw [uh HREL]; exact ⟨k + 1, bn, _, _, by omega, by go_num, ⟨uh OKN, by have h9 := uh MDN; go_num⟩, uh Q, uh R, ⟨g_based (uh ON).1 (uh LBON), g_based (uh ON).2 (uh LBON)⟩, uh CU, uh BB⟩
    case measure => simp [intOf]; omega
   ·simp only [show ((4 : Nat) : Int) = 4 from rfl]
    have Qc0_1 := (uh Q).cell 0 rfl; have Qc1_1 := (uh Q).cell 1 rfl; have Qc2_1 := (uh Q).cell 2 rfl; have Qc3_1 := (uh Q).cell 3 rfl; have Qc4_1 := (uh Q).cell 4 rfl; have Qc5_1 := (uh Q).cell 5 rfl; have Qc6_1 := (uh Q).cell 6 rfl
    go_wp2
    refine lat2Begin (S := fun w' => w'.cell? ⟨w4.heap.size, 0, none⟩ = some (.string b.name) ∧ w'.cell? ⟨w4.heap.size, 1, none⟩ = some (.int .i64 b.valid) ∧ w'.cell? ⟨w4.heap.size, 2, none⟩ = some (.int .i64 b.next) ∧ w'.cell? ⟨w4.heap.size, 3, none⟩ = some (.int .i64 b.mod) ∧ w'.cell? ⟨w4.heap.size, 4, none⟩ = some (.slice am b.mails.length cm) ∧ w'.cell? ⟨w4.heap.size, 5, none⟩ = some (.slice at1 b.tombs.length ct1) ∧ w'.cell? ⟨w4.heap.size, 6, none⟩ = some (.int .i64 b.hor)) 7 (by kernel_rfl) (⟨(uh Q).cell 0 rfl, (uh Q).cell 1 rfl, (uh Q).cell 2 rfl, (uh Q).cell 3 rfl, (uh Q).cell 4 rfl, (uh Q).cell 5 rfl, (uh Q).cell 6 rfl⟩) (fun hHeld => ?_)
    clear Qc0_1 Qc1_1 Qc2_1 Qc3_1 Qc4_1 Qc5_1 Qc6_1
    replace CU : Hid (Cur B wy2.drew c) := (uh CU).kept (g_drew (g_self _ none)) (fun k hk => by cases hk)
    replace R := hide ((uh R).drew); replace Q := hide ((uh Q).drew); replace OB := hide ((uh OB).drew); replace BB := hide (g_drew (uh BB))
    have sz103 : Hid (wy2.heap.size ≤ wy2.drew.heap.size) := Nat.le_refl _
    refine lat2Take 0 (some 65) ?_ rfl (by kernel_rfl) (by kernel_rfl) (by kernel_rfl) (by kernel_rfl) rfl (fun _ _ _ h => h) (by rfl) (by assumption) ?_ ?_; rotate_left; (intro w hSw; (try dsimp only at hSw); go_simp <;> with_reducible rfl); simp only [Act.put, p1, p2, p3]
    refine lat2Take 1 (some 66) ?_ rfl (by kernel_rfl) (by kernel_rfl) (by kernel_rfl) (by kernel_rfl) rfl (fun _ _ _ h => h) (by rfl) (by assumption) ?_ ?_; rotate_left; (intro w hSw; (try dsimp only at hSw); go_simp <;> with_reducible rfl); simp only [Act.put, p1, p2, p3]
    refine lat2Step 2 (by kernel_rfl) rfl (by rfl) (fun K hK => ?_)
    go_simp
    refine (l05Draw_any B c _ (uh CU)).mono ?_
    rintro e wy43 ⟨vS, sS, rfl, hokS, hlS, hSS, gS, cpS, rfl⟩
    have oS := hide hSS.own; have hc := hSS.cur; have hg := hSS.grown
    have LBRS : Hid (w.heap.size ≤ wy2.drew.heap.size) := (uh BB).size
    have hokS := hide hokS; clear hSS
    replace R := hide ((uh R).kept hg (fun e => by have q1_ := Option.some.inj e; omega))
    replace Q := hide ((uh Q).kept hg (fun e => by have q1_ := Option.some.inj e; omega))
    replace OB : Hid (OwnBx w.heap.size wy43 (.slice am b.mails.length cm) (.slice at1 b.tombs.length ct1) b) := ⟨g_aside (uh OB).1 hg (fun z hz hz2 => by have q1_ := Option.some.inj hz; have q2_ := (World.ownsRow.lt (uh OB).1 z hz2).1; have q3_ := uh LBOB; omega), g_aside (uh OB).2 hg (fun z hz hz2 => by have q1_ := Option.some.inj hz; have q2_ := (World.ownsRow.lt (uh OB).2 z hz2).1; have q3_ := uh LBOB; omega)⟩
    have sz104 := hide (hg.size); replace BB := hide (g_join (uh BB) hg); clear CU; have CU := hide hc; clear hg hc; have RS := oS; clear oS; go_wp2_with fail
    refine hK.out _ _ (⟨(uh Q).cell 0 rfl, (uh Q).cell 1 rfl, (uh Q).cell 2 rfl, (uh Q).cell 3 rfl, (uh Q).cell 4 rfl, (uh Q).cell 5 rfl, (uh Q).cell 6 rfl⟩) (fun hHeld2 => ?_)
    clear hK K hHeld; have hHeld := hHeld2; clear hHeld2
    try simp only [Act.put, p1, p2, p3]
    refine lat2Step 3 (by kernel_rfl) rfl (by rfl) (fun K hK => ?_)
    go_simp
    refine (spec_Expunge_any b _ _ _ sS _ _ (uh FIT) (by omega) (OwnR.read (uh RS)) (uh OB)).mono ?_
    rintro e wy44 ⟨m5, t5, vd5, rfl, o5, od5, hb⟩
    obtain ⟨bn, hbn⟩ : ∃ x, x = (expV b sS).1 := ⟨_, rfl⟩
    have OKN : Hid (boxOk bn = true) := by show _ = _; rw [hbn]; exact exp_keeps (uh OK)
    have MDN : Hid (bn.mod ≤ b.mod + 1) := by show _ ≤ _; rw [hbn]; exact exp_mod _ _
    rw [← hbn] at o5 ⊢
    clear hbn
    obtain ⟨an, cn, rfl⟩ := g_shape o5.1
    obtain ⟨an2, cn2, rfl⟩ := g_shape o5.2
    have LBON : Hid (w.heap.size ≤ wy43.heap.size) := (uh BB).size
    have ON := hide o5; clear o5 OB
    replace CU := hide ((uh CU).kept (below_g0 hb) (fun k hk => by cases hk))
    replace R := hide ((uh R).ups hb); replace Q := hide ((uh Q).ups hb); have sz105 := hide (hb.size); replace BB := hide (g_then (uh BB) hb); clear hb; go_wp2_with fail
    refine hK.out _ _ (⟨(uh Q).cell 0 rfl, (uh Q).cell 1 rfl, (uh Q).cell 2 rfl, (uh Q).cell 3 rfl, (uh Q).cell 4 rfl, (uh Q).cell 5 rfl, (uh Q).cell 6 rfl⟩) (fun hHeld2 => ?_)
    clear hK K hHeld; have hHeld := hHeld2; clear hHeld2
    try simp only [Act.put, p1, p2, p3]
    refine lat2Take 4 (some 64) ?_ rfl (by kernel_rfl) (by kernel_rfl) (by kernel_rfl) (by kernel_rfl) rfl (fun _ _ _ h => h) (by rfl) (by assumption) ?_ ?_; rotate_left; (intro w hSw; (try dsimp only at hSw); go_simp <;> with_reducible rfl); simp only [Act.put, p1, p2, p3]
    refine lat2Pure 6 (some 70) ?_ rfl (by kernel_rfl) (by kernel_rfl) (by kernel_rfl) rfl (fun _ _ _ h => h) (by rfl) ?_ ?_; rotate_left; (intro w hSw; (try dsimp only at hSw); go_simp <;> with_reducible rfl); simp only [Act.put, p1, p2, p3]
    refine lat2Take 5 (some 69) ?_ rfl (by kernel_rfl) (by kernel_rfl) (by kernel_rfl) (by kernel_rfl) rfl (fun _ _ _ h => h) (by rfl) (by assumption) ?_ ?_; rotate_left; (intro w hSw; (try dsimp only at hSw); go_simp <;> with_reducible rfl); simp only [Act.put, p1, p2, p3]
    have Qf0 := (uh Q).frozen 0; have Qf1 := (uh Q).frozen 1; have Qf2 := (uh Q).frozen 2; have Qf3 := (uh Q).frozen 3; have Qf4 := (uh Q).frozen 4; have Qf5 := (uh Q).frozen 5; have Qf6 := (uh Q).frozen 6; have Qe0 := (uh Q).cell 0 rfl; have Qe1 := (uh Q).cell 1 rfl; have Qe2 := (uh Q).cell 2 rfl; have Qe3 := (uh Q).cell 3 rfl; have Qe4 := (uh Q).cell 4 rfl; have Qe5 := (uh Q).cell 5 rfl; have Qe6 := (uh Q).cell 6 rfl; have F_ := hide (fill7 (uh Q) (.string bn.name) (.int .i64 bn.valid) (.int .i64 bn.next) (.int .i64 bn.mod) (.slice an bn.mails.length cn) (.slice an2 bn.tombs.length cn2) (.int .i64 bn.hor))
    refine lat2Last 7 (by decide) (by kernel_rfl) rfl (by rfl) (fun K hK => ?_)
    go_simp
    refine hK.out _ _ ?_
    clear hK K hHeld
    try simp only [Act.put, p1, p2, p3]
    obtain ⟨wy45, hU⟩ : ∃ U, U = (((((((wy44.setCell ⟨w4.heap.size, 0, none⟩ (.string bn.name)).setCell ⟨w4.heap.size, 1, none⟩ (.int .i64 bn.valid)).setCell ⟨w4.heap.size, 2, none⟩ (.int .i64 bn.next)).setCell ⟨w4.heap.size, 3, none⟩ (.int .i64 bn.mod)).setCell ⟨w4.heap.size, 4, none⟩ (.slice an bn.mails.length cn)).setCell ⟨w4.heap.size, 5, none⟩ (.slice an2 bn.tombs.length cn2)).setCell ⟨w4.heap.size, 6, none⟩ (.int .i64 bn.hor)) := ⟨_, rfl⟩
    have GU : wy44.grownBy wy45 (some (w4.heap.size)) := by rw [hU]; exact g_store (g_store (g_store (g_store (g_store (g_store (g_store (g_self _ _) _) _) _) _) _) _) _
    have F := uh F_
    rw [← hU] at F ⊢
    clear hU F_; clear Qf0 Qf1 Qf2 Qf3 Qf4 Qf5 Qf6 Qe0 Qe1 Qe2 Qe3 Qe4 Qe5 Qe6
    have CU_ := hide ((uh CU).kept GU (fun k hk => by have q1_ := Option.some.inj hk; omega))
    have R_ := hide (F.other neRQ (uh R)); have Q_ := hide (F.obj)
    have ON_ : Hid (OwnBx wy43.heap.size wy45 (.slice an bn.mails.length cn) (.slice an2 bn.tombs.length cn2) bn) := ⟨F.row (by decide) (uh ON).1, F.row (by decide) (uh ON).2⟩
    have BB_ : Hid (w.grownBy wy45 (some c)) := g_new (uh BB) GU (fun k hk => by have q1_ := Option.some.inj hk; omega)
    replace R := R_; clear R_; replace Q := Q_; clear Q_; replace ON := ON_; clear ON_; replace BB := BB_; clear BB_; replace CU := CU_; clear CU_; clear F GU
    refine lat2Done (by kernel_rfl) ?_ _
    go_wp2
    go_roundw
    case rel => rw [uh HREL]; exact ⟨k + 1, bn, _, _, by omega, by go_num, ⟨uh OKN, by have h9 := uh MDN; go_num⟩, uh Q, uh R, ⟨g_based (uh ON).1 (uh LBON), g_based (uh ON).2 (uh LBON)⟩, uh CU, uh BB⟩
    case measure => simp [intOf]; omega
   ·simp only [show ((5 : Nat) : Int) = 5 from rfl]
    have Qc0_1 := (uh Q).cell 0 rfl; have Qc1_1 := (uh Q).cell 1 rfl; have Qc2_1 := (uh Q).cell 2 rfl; have Qc3_1 := (uh Q).cell 3 rfl; have Qc4_1 := (uh Q).cell 4 rfl; have Qc5_1 := (uh Q).cell 5 rfl; have Qc6_1 := (uh Q).cell 6 rfl; go_wp2_with fail; clear Qc0_1 Qc1_1 Qc2_1 Qc3_1 Qc4_1 Qc5_1 Qc6_1
    refine (l01Once_any B c 3 _ (uh CU) (by decide) (by decide)).mono ?_
    rintro e wy53 ⟨on, rfl, hc, hg⟩
    replace R := hide ((uh R).kept hg (fun e => by have q1_ := Option.some.inj e; omega))
    replace Q := hide ((uh Q).kept hg (fun e => by have q1_ := Option.some.inj e; omega))
    replace OB : Hid (OwnBx w.heap.size wy53 (.slice am b.mails.length cm) (.slice at1 b.tombs.length ct1) b) := ⟨g_aside (uh OB).1 hg (fun z hz hz2 => by have q1_ := Option.some.inj hz; have q2_ := (World.ownsRow.lt (uh OB).1 z hz2).1; have q3_ := uh LBOB; omega), g_aside (uh OB).2 hg (fun z hz hz2 => by have q1_ := Option.some.inj hz; have q2_ := (World.ownsRow.lt (uh OB).2 z hz2).1; have q3_ := uh LBOB; omega)⟩
    have sz103 := hide (hg.size); replace BB := hide (g_join (uh BB) hg); clear CU; have CU := hide hc; clear hg hc
    cases on with
    | false =>
     go_wp2
     go_roundw
     case rel => rw [uh HREL]; exact ⟨k + 1, b, _, _, by omega, by go_num, ⟨uh OK, by go_num⟩, uh Q, uh R, uh OB, uh CU, uh BB⟩
     case measure => simp [intOf]; omega
    | true =>
     have Qc0_2 := (uh Q).cell 0 rfl; have Qc1_2 := (uh Q).cell 1 rfl; have Qc2_2 := (uh Q).cell 2 rfl; have Qc3_2 := (uh Q).cell 3 rfl; have Qc4_2 := (uh Q).cell 4 rfl; have Qc5_2 := (uh Q).cell 5 rfl; have Qc6_2 := (uh Q).cell 6 rfl
     go_wp2
     refine lat2Begin (S := fun w' => w'.cell? ⟨w4.heap.size, 0, none⟩ = some (.string b.name) ∧ w'.cell? ⟨w4.heap.size, 1, none⟩ = some (.int .i64 b.valid) ∧ w'.cell? ⟨w4.heap.size, 2, none⟩ = some (.int .i64 b.next) ∧ w'.cell? ⟨w4.heap.size, 3, none⟩ = some (.int .i64 b.mod) ∧ w'.cell? ⟨w4.heap.size, 4, none⟩ = some (.slice am b.mails.length cm) ∧ w'.cell? ⟨w4.heap.size, 5, none⟩ = some (.slice at1 b.tombs.length ct1) ∧ w'.cell? ⟨w4.heap.size, 6, none⟩ = some (.int .i64 b.hor)) 7 (by kernel_rfl) (⟨(uh Q).cell 0 rfl, (uh Q).cell 1 rfl, (uh Q).cell 2 rfl, (uh Q).cell 3 rfl, (uh Q).cell 4 rfl, (uh Q).cell 5 rfl, (uh Q).cell 6 rfl⟩) (fun hHeld => ?_)
     clear Qc0_2 Qc1_2 Qc2_2 Qc3_2 Qc4_2 Qc5_2 Qc6_2
     replace CU : Hid (Cur B wy53.drew c) := (uh CU).kept (g_drew (g_self _ none)) (fun k hk => by cases hk)
     replace R := hide ((uh R).drew); replace Q := hide ((uh Q).drew); replace OB := hide ((uh OB).drew); replace BB := hide (g_drew (uh BB))
     have sz104 : Hid (wy53.heap.size ≤ wy53.drew.heap.size) := Nat.le_refl _
     refine lat2Take 0 (some 27) ?_ rfl (by kernel_rfl) (by kernel_rfl) (by kernel_rfl) (by kernel_rfl) rfl (fun _ _ _ h => h) (by rfl) (by assumption) ?_ ?_; rotate_left; (intro w hSw; (try dsimp only at hSw); go_simp <;> with_reducible rfl); simp only [Act.put, p1, p2, p3]
     refine lat2Take 1 (some 28) ?_ rfl (by kernel_rfl) (by kernel_rfl) (by kernel_rfl) (by kernel_rfl) rfl (fun _ _ _ h => h) (by rfl) (by assumption) ?_ ?_; rotate_left; (intro w hSw; (try dsimp only at hSw); go_simp <;> with_reducible rfl); simp only [Act.put, p1, p2, p3]
     refine lat2Take 2 (some 29) ?_ rfl (by kernel_rfl) (by kernel_rfl) (by kernel_rfl) (by kernel_rfl) rfl (fun _ _ _ h => h) (by rfl) (by assumption) ?_ ?_; rotate_left; (intro w hSw; (try dsimp only at hSw); go_simp <;> with_reducible rfl); simp only [Act.put, p1, p2, p3]
     refine lat2Take 3 (some 30) ?_ rfl (by kernel_rfl) (by kernel_rfl) (by kernel_rfl) (by kernel_rfl) rfl (fun _ _ _ h => h) (by rfl) (by assumption) ?_ ?_; rotate_left; (intro w hSw; (try dsimp only at hSw); go_simp <;> with_reducible rfl); simp only [Act.put, p1, p2, p3]
     refine lat2Take 4 (some 31) ?_ rfl (by kernel_rfl) (by kernel_rfl) (by kernel_rfl) (by kernel_rfl) rfl (fun _ _ _ h => h) (by rfl) (by assumption) ?_ ?_; rotate_left; (intro w hSw; (try dsimp only at hSw); go_simp <;> with_reducible rfl); simp only [Act.put, p1, p2, p3]
     refine lat2Step 5 (by kernel_rfl) rfl (by rfl) (fun K hK => ?_)
     go_simp
     refine (uh LIT _ (b.mod + 1).toNat (b.mod + 1) (by omega) (uh CU) (by omega) (by omega)).mono ?_
     rintro e wy64 ⟨f, hf, rfl, hc, hg⟩
     replace R := hide ((uh R).kept hg (fun e => by have q1_ := Option.some.inj e; omega))
     replace Q := hide ((uh Q).kept hg (fun e => by have q1_ := Option.some.inj e; omega))
     replace OB : Hid (OwnBx w.heap.size wy64 (.slice am b.mails.length cm) (.slice at1 b.tombs.length ct1) b) := ⟨g_aside (uh OB).1 hg (fun z hz hz2 => by have q1_ := Option.some.inj hz; have q2_ := (World.ownsRow.lt (uh OB).1 z hz2).1; have q3_ := uh LBOB; omega), g_aside (uh OB).2 hg (fun z hz hz2 => by have q1_ := Option.some.inj hz; have q2_ := (World.ownsRow.lt (uh OB).2 z hz2).1; have q3_ := uh LBOB; omega)⟩
     have sz105 := hide (hg.size); replace BB := hide (g_join (uh BB) hg); clear CU; have CU := hide hc; clear hg hc; go_wp2_with fail
     refine hK.out _ _ (⟨(uh Q).cell 0 rfl, (uh Q).cell 1 rfl, (uh Q).cell 2 rfl, (uh Q).cell 3 rfl, (uh Q).cell 4 rfl, (uh Q).cell 5 rfl, (uh Q).cell 6 rfl⟩) (fun hHeld2 => ?_)
     clear hK K hHeld; have hHeld := hHeld2; clear hHeld2
     try simp only [Act.put, p1, p2, p3]
     refine lat2Step 6 (by kernel_rfl) rfl (by rfl) (fun K hK => ?_)
     go_simp
     refine (spec_ForgetTombs_any b _ _ _ (f : Int) _ (uh FIT) (uh OB)).mono ?_
     rintro e wy65 ⟨m5, t5, rfl, o5, hb⟩
     obtain ⟨bn, hbn⟩ : ∃ x, x = (forgetV b (f : Int)) := ⟨_, rfl⟩
     have OKN : Hid (boxOk bn = true) := by show _ = _; rw [hbn]; exact forget_keeps (uh OK)
     have MDN : Hid (bn.mod ≤ b.mod + 1) := by show _ ≤ _; rw [hbn]; exact forget_mod _ _
     rw [← hbn] at o5 ⊢
     clear hbn
     obtain ⟨an, cn, rfl⟩ := g_shape o5.1
     obtain ⟨an2, cn2, rfl⟩ := g_shape o5.2
     have LBON : Hid (w.heap.size ≤ wy64.heap.size) := (uh BB).size
     have ON := hide o5; clear o5 OB
     replace CU := hide ((uh CU).kept (below_g0 hb) (fun k hk => by cases hk))
     replace R := hide ((uh R).ups hb); replace Q := hide ((uh Q).ups hb); have sz106 := hide (hb.size); replace BB := hide (g_then (uh BB) hb); clear hb; go_wp2_with fail
     refine hK.out _ _ (⟨(uh Q).cell 0 rfl, (uh Q).cell 1 rfl, (uh Q).cell 2 rfl, (uh Q).cell 3 rfl, (uh Q).cell 4 rfl, (uh Q).cell 5 rfl, (uh Q).cell 6 rfl⟩) (fun hHeld2 => ?_)
     clear hK K hHeld; have hHeld := hHeld2; clear hHeld2
     try simp only [Act.put, p1, p2, p3]
     have Qf0 := (uh Q).frozen 0; have Qf1 := (uh Q).frozen 1; have Qf2 := (uh Q).frozen 2; have Qf3 := (uh Q).frozen 3; have Qf4 := (uh Q).frozen 4; have Qf5 := (uh Q).frozen 5; have Qf6 := (uh Q).frozen 6; have Qe0 := (uh Q).cell 0 rfl; have Qe1 := (uh Q).cell 1 rfl; have Qe2 := (uh Q).cell 2 rfl; have Qe3 := (uh Q).cell 3 rfl; have Qe4 := (uh Q).cell 4 rfl; have Qe5 := (uh Q).cell 5 rfl; have Qe6 := (uh Q).cell 6 rfl; have F_ := hide (fill7 (uh Q) (.string bn.name) (.int .i64 bn.valid) (.int .i64 bn.next) (.int .i64 bn.mod) (.slice an bn.mails.length cn) (.slice an2 bn.tombs.length cn2) (.int .i64 bn.hor))
     refine lat2Last 7 (by decide) (by kernel_rfl) rfl (by rfl) (fun K hK => ?_)
     go_simp
     refine hK.out _ _ ?_
     clear hK K hHeld
     try simp only [Act.put, p1, p2, p3]
     obtain ⟨wy66, hU⟩ : ∃ U, U = (((((((wy65.setCell ⟨w4.heap.size, 0, none⟩ (.string bn.name)).setCell ⟨w4.heap.size, 1, none⟩ (.int .i64 bn.valid)).setCell ⟨w4.heap.size, 2, none⟩ (.int .i64 bn.next)).setCell ⟨w4.heap.size, 3, none⟩ (.int .i64 bn.mod)).setCell ⟨w4.heap.size, 4, none⟩ (.slice an bn.mails.length cn)).setCell ⟨w4.heap.size, 5, none⟩ (.slice an2 bn.tombs.length cn2)).setCell ⟨w4.heap.size, 6, none⟩ (.int .i64 bn.hor)) := ⟨_, rfl⟩
     have GU : wy65.grownBy wy66 (some (w4.heap.size)) := by rw [hU]; exact g_store (g_store (g_store (g_store (g_store (g_store (g_store (g_self _ _) _) _) _) _) _) _) _
     have F := uh F_
     rw [← hU] at F ⊢
     clear hU F_; clear Qf0 Qf1 Qf2 Qf3 Qf4 Qf5 Qf6 Qe0 Qe1 Qe2 Qe3 Qe4 Qe5 Qe6
     have CU_ := hide ((uh CU).kept GU (fun k hk => by have q1_ := Option.some.inj hk; omega))
     have R_ := hide (F.other neRQ (uh R)); have Q_ := hide (F.obj)
     have ON_ : Hid (OwnBx wy64.heap.size wy66 (.slice an bn.mails.length cn) (.slice an2 bn.tombs.length cn2) bn) := ⟨F.row (by decide) (uh ON).1, F.row (by decide) (uh ON).2⟩
     have BB_ : Hid (w.grownBy wy66 (some c)) := g_new (uh BB) GU (fun k hk => by have q1_ := Option.some.inj hk; omega)
     replace R := R_; clear R_; replace Q := Q_; clear Q_; replace ON := ON_; clear ON_; replace BB := BB_; clear BB_; replace CU := CU_; clear CU_; clear F GU
     refine lat2Done (by kernel_rfl) ?_ _
     go_wp2
     go_roundw
     case rel => rw [uh HREL]; exact ⟨k + 1, bn, _, _, by omega, by go_num, ⟨uh OKN, by have h9 := uh MDN; go_num⟩, uh Q, uh R, ⟨g_based (uh ON).1 (uh LBON), g_based (uh ON).2 (uh LBON)⟩, uh CU, uh BB⟩
     case measure => simp [intOf]; omega
  ·have dl : decide ((k : Int) < 2 + (x1 : Int)) = false := decide_eq_false hlt
   have Qc0_1 := (uh Q).cell 0 rfl; have Qc1_1 := (uh Q).cell 1 rfl; have Qc2_1 := (uh Q).cell 2 rfl; have Qc3_1 := (uh Q).cell 3 rfl; have Qc4_1 := (uh Q).cell 4 rfl; have Qc5_1 := (uh Q).cell 5 rfl; have Qc6_1 := (uh Q).cell 6 rfl; have Rf0 := (uh R).frozen 0; have Rf1 := (uh R).frozen 1; have Rf2 := (uh R).frozen 2; have Rf3 := (uh R).frozen 3; have Rf4 := (uh R).frozen 4; have Rf5 := (uh R).frozen 5; have Rf6 := (uh R).frozen 6; have Re0 := (uh R).cell 0 rfl; have Re1 := (uh R).cell 1 rfl; have Re2 := (uh R).cell 2 rfl; have Re3 := (uh R).cell 3 rfl; have Re4 := (uh R).cell 4 rfl; have Re5 := (uh R).cell 5 rfl; have Re6 := (uh R).cell 6 rfl; have F := hide (fill7 (uh R) (.string b.name) (.int .i64 b.valid) (.int .i64 b.next) (.int .i64 b.mod) (.slice am b.mails.length cm) (.slice at1 b.tombs.length ct1) (.int .i64 b.hor))
   obtain ⟨U, hU⟩ : ∃ U, U = (((((((wr1.setCell ⟨w.heap.size, 0, none⟩ (.string b.name)).setCell ⟨w.heap.size, 1, none⟩ (.int .i64 b.valid)).setCell ⟨w.heap.size, 2, none⟩ (.int .i64 b.next)).setCell ⟨w.heap.size, 3, none⟩ (.int .i64 b.mod)).setCell ⟨w.heap.size, 4, none⟩ (.slice am b.mails.length cm)).setCell ⟨w.heap.size, 5, none⟩ (.slice at1 b.tombs.length ct1)).setCell ⟨w.heap.size, 6, none⟩ (.int .i64 b.hor)) := ⟨_, rfl⟩
   have F9 := uh F
   rw [← hU] at F9
   have GU : wr1.grownBy U (some (w.heap.size)) := by rw [hU]; exact g_store (g_store (g_store (g_store (g_store (g_store (g_store (g_self _ _) _) _) _) _) _) _) _
   have GU := hide GU; have EU := hU.symm; clear F hU; have v0 := F9.obj.cell 0 rfl; have v1 := F9.obj.cell 1 rfl; have v2 := F9.obj.cell 2 rfl; have v3 := F9.obj.cell 3 rfl; have v4 := F9.obj.cell 4 rfl; have v5 := F9.obj.cell 5 rfl; have v6 := F9.obj.cell 6 rfl; have F := hide F9; clear F9
   go_wp2_with (refine bodyPost_ret (by simp [results, Tryz.results125, go_sem, v0, v1, v2, v3, v4, v5, v6]; try rfl) rfl ?_)
   clear EU; have F := uh F
   exact ⟨b, _, _, rfl, ⟨uh OK, by omega⟩, ⟨F.row (by decide) (uh OB).1, F.row (by decide) (uh OB).2⟩, (uh CU).kept (uh GU) (fun k hk => by have q1_ := Option.some.inj hk; omega), g_new (uh BB) (uh GU) (fun k hk => by have q1_ := Option.some.inj hk; omega)⟩
end Go.Proofs.YtlngjflhbkannaaGreat
