/- The specification's BoxOk. Made by gen_boxok.py. -/
import Derived.Test.YtlngjflhbkannaaGreatTv
import Derived.Test.YtlngjflhbkannaaGreatBoxOkHeadS
namespace Go.Proofs.YtlngjflhbkannaaGreat
open Go.RowKit
open Plain
set_option linter.unusedVariables false

namespace Plain
theorem head_parts {b : Bx} (h : headOk b = true) : nameOkL b.name.data.toList = true ∧ inI b.valid 1 9999 = true ∧ inI b.next 1 9999 = true ∧ inI b.mod 1 100000 = true ∧ b.mails.length ≤ 30 ∧ b.tombs.length ≤ 40 ∧ inI b.hor 0 b.mod = true := by
 unfold headOk at h
 simpa [Bool.and_eq_true, and_assoc] using h
theorem tombLess_is (p t : Tb) : tombLess p t = (!decide (t.mod < p.mod) && !((p.mod == t.mod) && decide (t.uid ≤ p.uid))) := by
 unfold tombLess
 by_cases h1 : p.mod < t.mod
 ·have h2 : (p.mod == t.mod) = false := by simp; omega
  rw [decide_eq_true h1, decide_eq_false (show ¬ t.mod < p.mod by omega), h2]
  rfl
 ·by_cases h3 : p.mod = t.mod
  ·have h2 : (p.mod == t.mod) = true := by simpa using h3
   rw [decide_eq_false h1, decide_eq_true h3, decide_eq_false (show ¬ t.mod < p.mod by omega), h2]
   by_cases h4 : t.uid ≤ p.uid
   ·rw [decide_eq_true h4, decide_eq_false (show ¬ p.uid < t.uid by omega)]; rfl
   ·rw [decide_eq_false h4, decide_eq_true (show p.uid < t.uid by omega)]; rfl
  ·have h2 : (p.mod == t.mod) = false := by simpa using h3
   rw [decide_eq_false h1, decide_eq_false h3, decide_eq_true (show t.mod < p.mod by omega), h2]
   rfl
theorem lt_not_le (x y : Int) : decide (x < y) = !decide (y ≤ x) := by
 by_cases h : y ≤ x
 ·rw [decide_eq_true h, decide_eq_false (by omega)]; rfl
 ·rw [decide_eq_false h, decide_eq_true (by omega)]; rfl
end Plain

set_option maxHeartbeats 16000000 in
set_option maxRecDepth 100000 in
theorem spec_BoxOk_in (b : Bx) (m t : Value) (B : Nat) (w : World) (hf : FitBx b) (h : OwnBx B w m t b) (hh : headOk b = true) :
  Calls Tryz.prog 35 #[boxV b m t] w fun e w' => e = .returned (.bool (boxOk b)) ∧ Below w.heap.size w w' := by
 obtain ⟨g0, g1, g2, g3, g4, g5, g6⟩ := head_parts hh
 have hl1 := hf.mails; have hl2 := hf.tombs
 obtain ⟨am, cm, rfl⟩ := g_shape h.1
 obtain ⟨at1, ct1, rfl⟩ := g_shape h.2
 obtain ⟨X, hX⟩ : ∃ X, X = w.alloc (.cells (boxL b (.slice am b.mails.length cm) (.slice at1 b.tombs.length ct1)).toArray 50) := ⟨_, rfl⟩
 have x0 : HasObj X w.heap.size 50 (boxL b (.slice am b.mails.length cm) (.slice at1 b.tombs.length ct1)) := by rw [hX]; exact HasObj.new _ _ _
 have hbX : Below w.heap.size w X := by rw [hX]; exact (Below.refl _ _).alloc (Nat.le_refl _) _
 have k0 := x0.cell 0 rfl; have k1 := x0.cell 1 rfl; have k2 := x0.cell 2 rfl; have k3 := x0.cell 3 rfl; have k4 := x0.cell 4 rfl; have k5 := x0.cell 5 rfl; have k6 := x0.cell 6 rfl; have BX := hide hbX; have QN := spec_BoxName_any b.name X hf.name; have QV := in_any b.valid 1 9999 X; have QX := in_any b.next 1 9999 X; have QM := in_any b.mod 1 100000 X; have QH := in_any b.hor 0 b.mod X; have HX := hX.symm; have N := inI_iff.1 g2
 rw [g0] at QN
 rw [g1] at QV
 rw [g2] at QX
 rw [g3] at QM
 rw [g6] at QH
 have QN := hide QN; have QV := hide QV; have QX := hide QX; have QM := hide QM; have QH := hide QH
 have d1 : decide ((30 : Int) < (b.mails.length : Int)) = false := by rw [decide_eq_false_iff_not]; omega
 have d2 : decide ((40 : Int) < (b.tombs.length : Int)) = false := by rw [decide_eq_false_iff_not]; omega
 have n1 : IntKind.i64.wrap (b.next - 1) = b.next - 1 := by rw [IntKind.wrap_i64]; omega
 have HM := hide (fun (W : World) hb k f hx => ml_read (W := W) h.1 hb (k := k) (f := f) hx)
 have HG := hide (fun (W : World) hb k f hx => tb_read (W := W) h.2 hb (k := k) (f := f) hx)
 have HH := hide hh; have HFit := hide hf; have HO := hide h; have X0 := hide x0; clear hX x0 hbX h g0 g1 g2 g3 g6 N hh hf
 go_enter Tryz.func35, Tryz.ntmps35
 go_wp2_with fail
 refine (uh QN).mono ?_
 rintro e w1 ⟨rfl, hw⟩
 subst w1
 go_wp2_with fail
 refine (uh QV).mono ?_
 rintro e w1 ⟨rfl, hw⟩
 subst w1
 go_wp2_with fail
 refine (uh QX).mono ?_
 rintro e w1 ⟨rfl, hw⟩
 subst w1
 go_wp2_with fail
 refine (uh QM).mono ?_
 rintro e w1 ⟨rfl, hw⟩
 subst w1
 go_wp2_with fail
 refine (uh QH).mono ?_
 rintro e w1 ⟨rfl, hw⟩
 subst w1
 go_wp2
 clear d1 d2 HX QN QV QX QM QH k0 k1 k2 k3 k4 k5 k6
 go_loopw [3] (fun i wr => ∃ k : Nat, k ≤ b.mails.length ∧ i = .int .i64 k ∧ (∀ j, j < k → mailAt b j = true) ∧ Below w.heap.size w wr ∧ HasObj wr w.heap.size 50 (boxL b (.slice am b.mails.length cm) (.slice at1 b.tombs.length ct1))) (fun i _ => b.mails.length - (intOf i).toNat)
 case atStart => exact ⟨0, Nat.zero_le _, rfl, fun j hj => by omega, uh BX, uh X0⟩
 case round =>
  obtain ⟨k, hk, rfl, hall, hbel, hob⟩ := hrel
  have k4 := hob.cell 4 rfl; have HC := hide hall; have BR := hide hbel; have OB := hide hob; clear hall hbel hob
  by_cases hlt : k < b.mails.length
  ·have hgk : b.mails[k]? = some b.mails[k] := List.getElem?_eq_getElem hlt
   obtain ⟨g, c, e, hg, c0, c1, c2, c3⟩ := uh HM wr (uh BR) k _ hgk
   cases e
   have MA := hide (mailAt_is hgk)
   have NO := hide (fun h => boxOk_mail hlt h)
   have ON : Hid (mailAt b k = true → ∀ j, j < k + 1 → mailAt b j = true) := fun h j hj => by
    by_cases e : j = k
    ·subst e; exact h
    ·exact uh HC j (by omega)
   have tl := (uh HFit).texts _ (List.mem_of_getElem? hgk)
   have HI1 := hide (fun wx => in_any b.mails[k].uid 1 (b.next - 1) wx)
   have HFl := hide (fun wx => spec_FlagsOk_any b.mails[k].flags wx)
   have HI2 := hide (fun wx => in_any b.mails[k].mod 1 b.mod wx)
   have HT := hide (fun wx => spec_MailOk_any b.mails[k].text wx tl)
   have hgr : g < wr.heap.size := Nat.lt_of_lt_of_le hg (uh BR).size
   unfold mailRight at MA
   generalize b.mails[k] = f at *
   clear hgk tl HC
   have i1 : (0 : Int) ≤ (k : Int) := by omega
   have i2 : (k : Int) < (b.mails.length : Int) := by omega
   generalize inI f.uid 1 (b.next - 1) = q1 at *
   generalize flOk f.flags = q3 at *
   generalize inI f.mod 1 b.mod = q4 at *
   generalize mailOkL f.text.data.toList = q5 at *
   cases k with
   | zero =>
    simp only [before] at MA
    go_wp2
    obtain ⟨W1, hW1⟩ : ∃ W1, W1 = wr.alloc (.cells ([.int .i64 f.uid, .int .i64 f.flags, .int .i64 f.mod, .string f.text] : List Value).toArray 100) := ⟨_, rfl⟩
    have o1 : HasObj W1 wr.heap.size 100 [.int .i64 f.uid, .int .i64 f.flags, .int .i64 f.mod, .string f.text] := by rw [hW1]; exact HasObj.new _ _ _
    have o2 : HasObj W1 w.heap.size 50 (boxL b (.slice (some ⟨g, 0, none⟩) b.mails.length cm) (.slice at1 b.tombs.length ct1)) := by rw [hW1]; exact (uh OB).alloc _
    have b1 : Below wr.heap.size wr W1 := by rw [hW1]; exact (Below.refl _ _).alloc (Nat.le_refl _) _
    have s0 := o1.cell 0 rfl; have s1 := o1.cell 1 rfl; have s2 := o1.cell 2 rfl; have s3 := o1.cell 3 rfl; have s4 := o2.cell 2 rfl; have s5 := o2.cell 3 rfl
    rw [← hW1]
    have O2 := hide o2; have BW := hide ((uh BR).trans (b1.mono (uh BR).size)); clear hW1 b1 o1 o2
    refine wp_region_held_drew (S := fun w' => w'.cell? ⟨wr.heap.size, 0, none⟩ = some (.int .i64 f.uid) ∧ w'.cell? ⟨wr.heap.size, 1, none⟩ = some (.int .i64 f.flags) ∧ w'.cell? ⟨wr.heap.size, 2, none⟩ = some (.int .i64 f.mod) ∧ w'.cell? ⟨wr.heap.size, 3, none⟩ = some (.string f.text) ∧ w'.cell? ⟨w.heap.size, 2, none⟩ = some (.int .i64 b.next) ∧ w'.cell? ⟨w.heap.size, 3, none⟩ = some (.int .i64 b.mod)) (by kernel_rfl) (⟨s0, s1, s2, s3, s4, s5⟩) (fun hHeld => ?_)
    refine tv 0 62 ?_; refine tv 1 63 ?_; refine tv 2 64 ?_; refine tv 3 65 ?_; refine tv 4 66 ?_
    refine wpAnyH_ready (rs := [5]) (by kernel_rfl) (by simp) ?_
    refine AllReadyH.cons rfl (fun K hK => ?_) AllReadyH.nil
    go_simp
    refine (uh HI1 _).mono ?_
    rintro e w1 ⟨rfl, rfl⟩
    go_wp2_with fail
    refine hK.out _ _ (hHeld) (fun hHeld2 => ?_)
    clear hK K hHeld; have hHeld := hHeld2; clear hHeld2
    try simp only [Act.put, p1, p2, p3]
    cases q1 with
    | false =>
     refine tv 6 68 ?_; refine tv 7 69 ?_; refine tk 8 70 ?_; refine tk 9 71 ?_; refine tk 10 72 ?_; refine tk 11 73 ?_; refine tk 12 74 ?_; refine tk 13 75 ?_; refine tk 14 76 ?_; refine tk 15 77 ?_; refine tk 16 78 ?_; refine tk 17 79 ?_; refine tk 18 80 ?_; refine tk 19 81 ?_; refine tk 20 82 ?_; refine tk 21 83 ?_; refine tv 22 84 ?_; refine tv 23 85 ?_; refine tk 24 86 ?_; refine tk 25 87 ?_; refine tk 26 88 ?_; refine tk 27 89 ?_; refine tv 28 90 ?_; refine tv 29 91 ?_; refine tk 30 92 ?_; refine tk 31 93 ?_; refine tk 32 94 ?_; refine tk 33 95 ?_; refine tk 34 96 ?_; refine tk 35 97 ?_; refine tv 36 98 ?_; refine tv 37 99 ?_; refine tk 38 100 ?_; refine tk 39 101 ?_; refine tk 40 102 ?_; refine tk 41 103 ?_; refine tv 42 104 ?_
     refine wpAnyH_done (by kernel_rfl) ?_ _
     have HR := hide (uh NO (by rw [uh MA]; rfl))
     clear s0 s1 s2 s3 s4 s5
     go_wp2
     go_ret
     exact ⟨by rw [uh HR]; rfl, (uh BW).drew⟩
    | true =>
     refine tv 6 68 ?_; refine tv 7 69 ?_; refine tv 8 70 ?_; refine tv 9 71 ?_; refine tv 10 72 ?_; refine tk 11 73 ?_; refine tk 12 74 ?_; refine tk 13 75 ?_; refine tk 14 76 ?_; refine tk 15 77 ?_; refine tk 16 78 ?_; refine tk 17 79 ?_; refine tk 18 80 ?_; refine tk 19 81 ?_; refine tk 20 82 ?_; refine tv 21 83 ?_; refine tv 22 84 ?_; refine tv 23 85 ?_; refine tv 24 86 ?_; refine tv 25 87 ?_
     refine wpAnyH_ready (rs := [26]) (by kernel_rfl) (by simp) ?_
     refine AllReadyH.cons rfl (fun K hK => ?_) AllReadyH.nil
     go_simp
     refine (uh HFl _).mono ?_
     rintro e w1 ⟨rfl, rfl⟩
     go_wp2_with fail
     refine hK.out _ _ (hHeld) (fun hHeld2 => ?_)
     clear hK K hHeld; have hHeld := hHeld2; clear hHeld2
     try simp only [Act.put, p1, p2, p3]
     cases q3 with
     | false =>
      refine tv 27 89 ?_; refine tv 28 90 ?_; refine tv 29 91 ?_; refine tk 30 92 ?_; refine tk 31 93 ?_; refine tk 32 94 ?_; refine tk 33 95 ?_; refine tk 34 96 ?_; refine tk 35 97 ?_; refine tv 36 98 ?_; refine tv 37 99 ?_; refine tk 38 100 ?_; refine tk 39 101 ?_; refine tk 40 102 ?_; refine tk 41 103 ?_; refine tv 42 104 ?_
      refine wpAnyH_done (by kernel_rfl) ?_ _
      have HR := hide (uh NO (by rw [uh MA]; rfl))
      clear s0 s1 s2 s3 s4 s5
      go_wp2
      go_ret
      exact ⟨by rw [uh HR]; rfl, (uh BW).drew⟩
     | true =>
      refine tv 27 89 ?_; refine tv 28 90 ?_; refine tv 29 91 ?_; refine tv 30 92 ?_; refine tv 31 93 ?_; refine tv 32 94 ?_; refine tv 33 95 ?_
      refine wpAnyH_ready (rs := [34]) (by kernel_rfl) (by simp) ?_
      refine AllReadyH.cons rfl (fun K hK => ?_) AllReadyH.nil
      go_simp
      refine (uh HI2 _).mono ?_
      rintro e w1 ⟨rfl, rfl⟩
      go_wp2_with fail
      refine hK.out _ _ (hHeld) (fun hHeld2 => ?_)
      clear hK K hHeld; have hHeld := hHeld2; clear hHeld2
      try simp only [Act.put, p1, p2, p3]
      cases q4 with
      | false =>
       refine tv 35 97 ?_; refine tv 36 98 ?_; refine tv 37 99 ?_; refine tk 38 100 ?_; refine tk 39 101 ?_; refine tk 40 102 ?_; refine tk 41 103 ?_; refine tv 42 104 ?_
       refine wpAnyH_done (by kernel_rfl) ?_ _
       have HR := hide (uh NO (by rw [uh MA]; rfl))
       clear s0 s1 s2 s3 s4 s5
       go_wp2
       go_ret
       exact ⟨by rw [uh HR]; rfl, (uh BW).drew⟩
      | true =>
       refine tv 35 97 ?_; refine tv 36 98 ?_; refine tv 37 99 ?_; refine tv 38 100 ?_; refine tv 39 101 ?_
       refine wpAnyH_ready (rs := [40]) (by kernel_rfl) (by simp) ?_
       refine AllReadyH.cons rfl (fun K hK => ?_) AllReadyH.nil
       go_simp
       refine (uh HT _).mono ?_
       rintro e w1 ⟨rfl, rfl⟩
       go_wp2_with fail
       refine hK.out _ _ (hHeld) (fun hHeld2 => ?_)
       clear hK K hHeld; have hHeld := hHeld2; clear hHeld2
       try simp only [Act.put, p1, p2, p3]
       cases q5 with
       | false =>
        refine tv 41 103 ?_; refine tv 42 104 ?_
        refine wpAnyH_done (by kernel_rfl) ?_ _
        have HR := hide (uh NO (by rw [uh MA]; rfl))
        clear s0 s1 s2 s3 s4 s5
        go_wp2
        go_ret
        exact ⟨by rw [uh HR]; rfl, (uh BW).drew⟩
       | true =>
        refine tv 41 103 ?_; refine tv 42 104 ?_
        refine wpAnyH_done (by kernel_rfl) ?_ _
        have HK := hide (uh ON (by rw [uh MA]; rfl))
        have BV := hide (uh BW).drew; clear s0 s1 s2 s3 s4 s5
        go_wp2
        go_roundw
        case rel => exact ⟨0 + 1, by omega, by go_num, uh HK, uh BV, uh O2⟩
        case measure => simp [intOf]; omega
   | succ j =>
    have hgp : b.mails[j]? = some b.mails[j] := List.getElem?_eq_getElem (by omega)
    obtain ⟨g', c', e', _, d0, _⟩ := uh HM wr (uh BR) j _ hgp
    cases e'
    simp only [before, hgp, lt_not_le] at MA
    generalize b.mails[j] = p at *
    obtain ⟨r2, hr2⟩ : ∃ r, decide (f.uid ≤ p.uid) = r := ⟨_, rfl⟩
    rw [hr2] at MA
    have b0 : (0 : Int) < (j : Int) + 1 := by omega
    have b2 : IntKind.i64.wrap (j : Int) = (j : Int) := by rw [IntKind.wrap_i64]; omega
    have b3 : (0 : Int) ≤ (j : Int) := by omega
    have b4 : (j : Int) < (b.mails.length : Int) := by omega
    clear hgp
    go_wp2
    obtain ⟨W1, hW1⟩ : ∃ W1, W1 = wr.alloc (.cells ([.int .i64 f.uid, .int .i64 f.flags, .int .i64 f.mod, .string f.text] : List Value).toArray 100) := ⟨_, rfl⟩
    have o1 : HasObj W1 wr.heap.size 100 [.int .i64 f.uid, .int .i64 f.flags, .int .i64 f.mod, .string f.text] := by rw [hW1]; exact HasObj.new _ _ _
    have o2 : HasObj W1 w.heap.size 50 (boxL b (.slice (some ⟨g, 0, none⟩) b.mails.length cm) (.slice at1 b.tombs.length ct1)) := by rw [hW1]; exact (uh OB).alloc _
    have b1 : Below wr.heap.size wr W1 := by rw [hW1]; exact (Below.refl _ _).alloc (Nat.le_refl _) _
    have s0 := o1.cell 0 rfl; have s1 := o1.cell 1 rfl; have s2 := o1.cell 2 rfl; have s3 := o1.cell 3 rfl; have s4 := o2.cell 2 rfl; have s5 := o2.cell 3 rfl; have s6 := o2.cell 4 rfl
    have s7 : W1.cell? ⟨g, j * 4, none⟩ = some (.int .i64 p.uid) := g_cell b1 d0
    rw [← hW1]
    have O2 := hide o2; have BW := hide ((uh BR).trans (b1.mono (uh BR).size)); clear hW1 b1 o1 o2
    refine wp_region_held_drew (S := fun w' => w'.cell? ⟨wr.heap.size, 0, none⟩ = some (.int .i64 f.uid) ∧ w'.cell? ⟨wr.heap.size, 1, none⟩ = some (.int .i64 f.flags) ∧ w'.cell? ⟨wr.heap.size, 2, none⟩ = some (.int .i64 f.mod) ∧ w'.cell? ⟨wr.heap.size, 3, none⟩ = some (.string f.text) ∧ w'.cell? ⟨w.heap.size, 2, none⟩ = some (.int .i64 b.next) ∧ w'.cell? ⟨w.heap.size, 3, none⟩ = some (.int .i64 b.mod) ∧ w'.cell? ⟨w.heap.size, 4, none⟩ = some (.slice (some ⟨g, 0, none⟩) b.mails.length cm) ∧ w'.cell? ⟨g, j * 4, none⟩ = some (.int .i64 p.uid)) (by kernel_rfl) (⟨s0, s1, s2, s3, s4, s5, s6, s7⟩) (fun hHeld => ?_)
    refine tv 0 62 ?_; refine tv 1 63 ?_; refine tv 2 64 ?_; refine tv 3 65 ?_; refine tv 4 66 ?_
    refine wpAnyH_ready (rs := [5]) (by kernel_rfl) (by simp) ?_
    refine AllReadyH.cons rfl (fun K hK => ?_) AllReadyH.nil
    go_simp
    refine (uh HI1 _).mono ?_
    rintro e w1 ⟨rfl, rfl⟩
    go_wp2_with fail
    refine hK.out _ _ (hHeld) (fun hHeld2 => ?_)
    clear hK K hHeld; have hHeld := hHeld2; clear hHeld2
    try simp only [Act.put, p1, p2, p3]
    cases q1 with
    | false =>
     refine tv 6 68 ?_; refine tv 7 69 ?_; refine tk 8 70 ?_; refine tk 9 71 ?_; refine tk 10 72 ?_; refine tk 11 73 ?_; refine tk 12 74 ?_; refine tk 13 75 ?_; refine tk 14 76 ?_; refine tk 15 77 ?_; refine tk 16 78 ?_; refine tk 17 79 ?_; refine tk 18 80 ?_; refine tk 19 81 ?_; refine tk 20 82 ?_; refine tk 21 83 ?_; refine tv 22 84 ?_; refine tv 23 85 ?_; refine tk 24 86 ?_; refine tk 25 87 ?_; refine tk 26 88 ?_; refine tk 27 89 ?_; refine tv 28 90 ?_; refine tv 29 91 ?_; refine tk 30 92 ?_; refine tk 31 93 ?_; refine tk 32 94 ?_; refine tk 33 95 ?_; refine tk 34 96 ?_; refine tk 35 97 ?_; refine tv 36 98 ?_; refine tv 37 99 ?_; refine tk 38 100 ?_; refine tk 39 101 ?_; refine tk 40 102 ?_; refine tk 41 103 ?_; refine tv 42 104 ?_
     refine wpAnyH_done (by kernel_rfl) ?_ _
     have HR := hide (uh NO (by rw [uh MA]; rfl))
     clear s0 s1 s2 s3 s4 s5 s6 s7
     go_wp2
     go_ret
     exact ⟨by rw [uh HR]; rfl, (uh BW).drew⟩
    | true =>
     refine tv 6 68 ?_; refine tv 7 69 ?_; refine tv 8 70 ?_; refine tv 9 71 ?_; refine tv 10 72 ?_; refine tv 11 73 ?_; refine tv 12 74 ?_; refine tv 13 75 ?_; refine tv 14 76 ?_; refine tv 15 77 ?_; refine tv 16 78 ?_; refine tv 17 79 ?_; refine tv 18 80 ?_; refine tv 19 81 ?_; refine tv 20 82 ?_
     cases r2 with
     | false =>
      refine tv 21 83 ?_; refine tv 22 84 ?_; refine tv 23 85 ?_; refine tv 24 86 ?_; refine tv 25 87 ?_
      refine wpAnyH_ready (rs := [26]) (by kernel_rfl) (by simp) ?_
      refine AllReadyH.cons rfl (fun K hK => ?_) AllReadyH.nil
      go_simp
      refine (uh HFl _).mono ?_
      rintro e w1 ⟨rfl, rfl⟩
      go_wp2_with fail
      refine hK.out _ _ (hHeld) (fun hHeld2 => ?_)
      clear hK K hHeld; have hHeld := hHeld2; clear hHeld2
      try simp only [Act.put, p1, p2, p3]
      cases q3 with
      | false =>
       refine tv 27 89 ?_; refine tv 28 90 ?_; refine tv 29 91 ?_; refine tk 30 92 ?_; refine tk 31 93 ?_; refine tk 32 94 ?_; refine tk 33 95 ?_; refine tk 34 96 ?_; refine tk 35 97 ?_; refine tv 36 98 ?_; refine tv 37 99 ?_; refine tk 38 100 ?_; refine tk 39 101 ?_; refine tk 40 102 ?_; refine tk 41 103 ?_; refine tv 42 104 ?_
       refine wpAnyH_done (by kernel_rfl) ?_ _
       have HR := hide (uh NO (by rw [uh MA]; rfl))
       clear s0 s1 s2 s3 s4 s5 s6 s7
       go_wp2
       go_ret
       exact ⟨by rw [uh HR]; rfl, (uh BW).drew⟩
      | true =>
       refine tv 27 89 ?_; refine tv 28 90 ?_; refine tv 29 91 ?_; refine tv 30 92 ?_; refine tv 31 93 ?_; refine tv 32 94 ?_; refine tv 33 95 ?_
       refine wpAnyH_ready (rs := [34]) (by kernel_rfl) (by simp) ?_
       refine AllReadyH.cons rfl (fun K hK => ?_) AllReadyH.nil
       go_simp
       refine (uh HI2 _).mono ?_
       rintro e w1 ⟨rfl, rfl⟩
       go_wp2_with fail
       refine hK.out _ _ (hHeld) (fun hHeld2 => ?_)
       clear hK K hHeld; have hHeld := hHeld2; clear hHeld2
       try simp only [Act.put, p1, p2, p3]
       cases q4 with
       | false =>
        refine tv 35 97 ?_; refine tv 36 98 ?_; refine tv 37 99 ?_; refine tk 38 100 ?_; refine tk 39 101 ?_; refine tk 40 102 ?_; refine tk 41 103 ?_; refine tv 42 104 ?_
        refine wpAnyH_done (by kernel_rfl) ?_ _
        have HR := hide (uh NO (by rw [uh MA]; rfl))
        clear s0 s1 s2 s3 s4 s5 s6 s7
        go_wp2
        go_ret
        exact ⟨by rw [uh HR]; rfl, (uh BW).drew⟩
       | true =>
        refine tv 35 97 ?_; refine tv 36 98 ?_; refine tv 37 99 ?_; refine tv 38 100 ?_; refine tv 39 101 ?_
        refine wpAnyH_ready (rs := [40]) (by kernel_rfl) (by simp) ?_
        refine AllReadyH.cons rfl (fun K hK => ?_) AllReadyH.nil
        go_simp
        refine (uh HT _).mono ?_
        rintro e w1 ⟨rfl, rfl⟩
        go_wp2_with fail
        refine hK.out _ _ (hHeld) (fun hHeld2 => ?_)
        clear hK K hHeld; have hHeld := hHeld2; clear hHeld2
        try simp only [Act.put, p1, p2, p3]
        cases q5 with
        | false =>
         refine tv 41 103 ?_; refine tv 42 104 ?_
         refine wpAnyH_done (by kernel_rfl) ?_ _
         have HR := hide (uh NO (by rw [uh MA]; rfl))
         clear s0 s1 s2 s3 s4 s5 s6 s7
         go_wp2
         go_ret
         exact ⟨by rw [uh HR]; rfl, (uh BW).drew⟩
        | true =>
         refine tv 41 103 ?_; refine tv 42 104 ?_
         refine wpAnyH_done (by kernel_rfl) ?_ _
         have HK := hide (uh ON (by rw [uh MA]; rfl))
         have BV := hide (uh BW).drew; clear s0 s1 s2 s3 s4 s5 s6 s7
         go_wp2
         go_roundw
         case rel => exact ⟨j + 1 + 1, by omega, by go_num, uh HK, uh BV, uh O2⟩
         case measure => simp [intOf]; omega
     | true =>
      refine tv 21 83 ?_; refine tv 22 84 ?_; refine tv 23 85 ?_; refine tk 24 86 ?_; refine tk 25 87 ?_; refine tk 26 88 ?_; refine tk 27 89 ?_; refine tv 28 90 ?_; refine tv 29 91 ?_; refine tk 30 92 ?_; refine tk 31 93 ?_; refine tk 32 94 ?_; refine tk 33 95 ?_; refine tk 34 96 ?_; refine tk 35 97 ?_; refine tv 36 98 ?_; refine tv 37 99 ?_; refine tk 38 100 ?_; refine tk 39 101 ?_; refine tk 40 102 ?_; refine tk 41 103 ?_; refine tv 42 104 ?_
      refine wpAnyH_done (by kernel_rfl) ?_ _
      have HR := hide (uh NO (by rw [uh MA]; rfl))
      clear s0 s1 s2 s3 s4 s5 s6 s7
      go_wp2
      go_ret
      exact ⟨by rw [uh HR]; rfl, (uh BW).drew⟩
  ·have e : k = b.mails.length := by omega
   have AM : Hid (∀ i, i < b.mails.length → mailAt b i = true) := fun i hi => uh HC i (by omega)
   clear HC
   subst e
   go_wp2
   go_loopw [5] (fun i wr => ∃ k : Nat, k ≤ b.tombs.length ∧ i = .int .i64 k ∧ (∀ j, j < k → tombAt b j = true) ∧ Below w.heap.size w wr ∧ HasObj wr w.heap.size 50 (boxL b (.slice am b.mails.length cm) (.slice at1 b.tombs.length ct1))) (fun i _ => b.tombs.length - (intOf i).toNat)
   case atStart => exact ⟨0, Nat.zero_le _, rfl, fun j hj => by omega, uh BR, uh OB⟩
   clear BR OB k4
   case round =>
    obtain ⟨k, hk, rfl, hall, hbel, hob⟩ := hrel
    obtain ⟨wo, hwo⟩ : ∃ wo, wo = wr := ⟨_, rfl⟩
    subst hwo
    have k5 := hob.cell 5 rfl; have HC := hide hall; have BR := hide hbel; have OB := hide hob; clear hall hbel hob
    by_cases hlt : k < b.tombs.length
    ·have hgk : b.tombs[k]? = some b.tombs[k] := List.getElem?_eq_getElem hlt
     obtain ⟨g, c, e, hg, c0, c1⟩ := uh HG wo (uh BR) k _ hgk
     cases e
     have MA := hide (tombAt_is hgk)
     have NO := hide (fun h => boxOk_tomb hlt h)
     have ON : Hid (tombAt b k = true → ∀ j, j < k + 1 → tombAt b j = true) := fun h j hj => by
      by_cases e : j = k
      ·subst e; exact h
      ·exact uh HC j (by omega)
     unfold tombRight at MA
     generalize hfk : b.tombs[k] = f at *
     have UQ : Hid (∀ (x : Nat) (q : Tb), x < k → b.tombs[x]? = some q → (q.uid == f.uid) = true → boxOk b = false) := fun x q hx hq he => uh NO (by
      rw [uh MA, List.all_eq_false.2 ⟨q, List.mem_of_getElem? (show (b.tombs.take k)[x]? = some q by rw [List.getElem?_take, if_pos hx]; exact hq), by rw [he]; decide⟩]
      simp)
     have PAll : Hid ((∀ y (q : Tb), y < k → b.tombs[y]? = some q → (q.uid == f.uid) = false) → (b.tombs.take k).all (fun q => !(q.uid == f.uid)) = true) := fun h => by
      rw [List.all_eq_true]
      intro q hq
      obtain ⟨y, hy, hq2⟩ := List.getElem_of_mem hq
      have hy2 : y < k := by simp at hy; omega
      have := List.getElem?_eq_getElem hy
      rw [hq2, List.getElem?_take, if_pos hy2] at this
      rw [h y q hy2 this]
      rfl
     obtain ⟨W1, hW1⟩ : ∃ W1, W1 = wo.alloc (.cells ([.int .i64 f.uid, .int .i64 f.mod] : List Value).toArray 117) := ⟨_, rfl⟩
     have o1 : HasObj W1 wo.heap.size 117 [.int .i64 f.uid, .int .i64 f.mod] := by rw [hW1]; exact HasObj.new _ _ _
     have o2 : HasObj W1 w.heap.size 50 (boxL b (.slice am b.mails.length cm) (.slice (some ⟨g, 0, none⟩) b.tombs.length ct1)) := by rw [hW1]; exact (uh OB).alloc _
     have b1 : Below wo.heap.size wo W1 := by rw [hW1]; exact (Below.refl _ _).alloc (Nat.le_refl _) _
     have bW : Below w.heap.size w W1 := (uh BR).trans (b1.mono (uh BR).size)
     have HI1 := hide (fun wx => in_any f.uid 1 (b.next - 1) wx)
     have HQ := hide (hasMail_any b _ _ B f.uid W1 (by omega) ((uh HO).up bW))
     have t0 := o1.cell 0 rfl; have t1 := o1.cell 1 rfl; have t2 := o1.frozen 0; have t3 := o1.frozen 1; have p0 := o2.cell 0 rfl; have p1 := o2.cell 1 rfl; have p2 := o2.cell 2 rfl; have p3 := o2.cell 3 rfl; have p4 := o2.cell 4 rfl; have p5 := o2.cell 5 rfl; have p6 := o2.cell 6 rfl; have HW := hW1.symm; have O1 := hide o1; have O2 := hide o2; have BW := hide bW
     simp only [lt_not_le b.hor f.mod, show decide (f.mod ≤ b.mod) = !decide (b.mod < f.mod) by rw [lt_not_le]; simp] at MA
     obtain ⟨a2, ha2⟩ : ∃ r, decide (f.mod ≤ b.hor) = r := ⟨_, rfl⟩
     obtain ⟨a3, ha3⟩ : ∃ r, decide (b.mod < f.mod) = r := ⟨_, rfl⟩
     rw [ha2, ha3] at MA
     generalize inI f.uid 1 (b.next - 1) = q1 at *
     generalize hasUid b.mails f.uid = q4 at *
     have i1 : (0 : Int) ≤ (k : Int) := by omega
     have i2 : (k : Int) < (b.tombs.length : Int) := by omega
     clear hgk HC hW1 o1 o2 b1 bW OB BR hfk
     cases k with
     | zero =>
      simp only [before] at MA
      go_wp2_with fail
      refine (uh HI1 _).mono ?_
      rintro e w1 ⟨rfl, hw⟩
      subst w1
      cases q1 with
      | false =>
       have HR := hide (uh NO (by rw [uh MA]; rfl))
       go_wp2
       go_ret
       exact ⟨by rw [uh HR]; rfl, uh BW⟩
      | true =>
       cases a2 with
       | true =>
        have HR := hide (uh NO (by rw [uh MA]; rfl))
        go_wp2
        go_ret
        exact ⟨by rw [uh HR]; rfl, uh BW⟩
       | false =>
        cases a3 with
        | true =>
         have HR := hide (uh NO (by rw [uh MA]; rfl))
         go_wp2
         go_ret
         exact ⟨by rw [uh HR]; rfl, uh BW⟩
        | false =>
         go_wp2_with fail
         refine (uh HQ).mono ?_
         rintro e w5 ⟨rfl, hb5⟩
         have u0 := (uh O1).ups hb5; have u2 := (uh O2).ups hb5; have BU := hide ((uh BW).trans (hb5.mono (uh BW).size)); clear hb5 HW t0 t1 t2 t3 p0 p1 p2 p3 p4 p5 p6
         cases q4 with
         | true =>
          have HR := hide (uh NO (by rw [uh MA]; rfl))
          go_wp2
          go_ret
          exact ⟨by rw [uh HR]; rfl, uh BU⟩
         | false =>
          have U0 := hide u0; have U2 := hide u2; clear u0 u2
          go_wp2
          go_loopw [7] (fun i wv => ∃ x : Nat, x ≤ 0 ∧ i = .int .i64 x ∧ (∀ y (q : Tb), y < x → b.tombs[y]? = some q → (q.uid == f.uid) = false) ∧ Below w.heap.size w wv ∧ HasObj wv w.heap.size 50 (boxL b (.slice am b.mails.length cm) (.slice (some ⟨g, 0, none⟩) b.tombs.length ct1)) ∧ HasObj wv wo.heap.size 117 [.int .i64 f.uid, .int .i64 f.mod]) (fun i _ => 0 - (intOf i).toNat)
          case atStart => exact ⟨0, Nat.zero_le _, rfl, fun y q hy => by omega, uh BU, uh U2, uh U0⟩
          case round =>
           obtain ⟨x, hx, rfl, hno, hbv, hov, htv⟩ := hrel
           have v0 := htv.cell 0 rfl; have v1 := htv.cell 1 rfl; have v5 := hov.cell 5 rfl; have BV := hide hbv; have OV := hide hov; have TV := hide htv; have HE := hide hno; clear hbv hov htv hno
           by_cases hxk : x < 0
           ·have hgx : b.tombs[x]? = some b.tombs[x] := List.getElem?_eq_getElem (by omega)
            obtain ⟨g9, c9, e9, _, e0, _⟩ := uh HG wr (uh BV) x _ hgx
            cases e9
            have NE := hide (fun (h : (b.tombs[x].uid == f.uid) = true) => uh UQ x _ hxk hgx h)
            have ONE : Hid ((b.tombs[x].uid == f.uid) = false → ∀ y (q : Tb), y < x + 1 → b.tombs[y]? = some q → (q.uid == f.uid) = false) := fun h y q hy hq => by
             by_cases e : y = x
             ·subst e
              rw [hgx] at hq
              cases hq
              exact h
             ·exact uh HE y q (by omega) hq
            have j1 : (0 : Int) ≤ (x : Int) := by omega
            have j2 : (x : Int) < (b.tombs.length : Int) := by omega
            have j3 : decide ((x : Int) < 0) = true := by rw [decide_eq_true_eq]; omega
            clear hgx HE
            generalize b.tombs[x].uid = z at *
            obtain ⟨r, hr⟩ : ∃ r, (z == f.uid) = r := ⟨_, rfl⟩
            rw [hr] at NE ONE
            go_wp2
            refine wp_region_held_drew (S := fun w' => w'.cell? ⟨wo.heap.size, 0, none⟩ = some (.int .i64 f.uid) ∧ w'.cell? ⟨w.heap.size, 5, none⟩ = some (.slice (some ⟨g, 0, none⟩) b.tombs.length ct1) ∧ w'.cell? ⟨g, x * 2, none⟩ = some (.int .i64 z)) (by kernel_rfl) (⟨v0, v5, e0⟩) (fun hHeld => ?_)
            refine tv 0 149 ?_; refine tv 1 150 ?_; refine tv 2 151 ?_; refine tv 3 152 ?_; refine tv 4 153 ?_; refine tv 5 154 ?_; refine tv 6 155 ?_; refine tv 7 156 ?_; refine tv 8 157 ?_
            refine wpAnyH_done (by kernel_rfl) ?_ _
            cases r with
            | true =>
             have HR := hide (uh NE rfl); clear v0 v1 v5 e0
             go_wp2
             go_ret
             exact ⟨by rw [uh HR]; rfl, (uh BV).drew⟩
            | false =>
             have HK := hide (uh ONE rfl); have BV2 := hide (uh BV).drew; clear v0 v1 v5 e0
             go_wp2
             go_roundw
             case rel => exact ⟨x + 1, by omega, by go_num, uh HK, uh BV2, uh OV, uh TV⟩
             case measure => simp [intOf]; omega
           ·have ex : x = 0 := by omega
            have PA := hide (uh PAll (by rw [← ex]; exact uh HE))
            have j3 : decide ((x : Int) < 0) = false := by rw [decide_eq_false_iff_not]; omega
            rw [uh PA] at MA
            clear HE PA
            go_wp2
            refine wp_region_held_drew (S := fun w' => w'.cell? ⟨wo.heap.size, 0, none⟩ = some (.int .i64 f.uid) ∧ w'.cell? ⟨wo.heap.size, 1, none⟩ = some (.int .i64 f.mod)) (by kernel_rfl) (⟨v0, v1⟩) (fun hHeld => ?_)
            refine tv 0 158 ?_; refine tv 1 159 ?_; refine tv 2 160 ?_; refine tk 3 161 ?_; refine tk 4 162 ?_; refine tk 5 163 ?_; refine tk 6 164 ?_; refine tk 7 165 ?_; refine tk 8 166 ?_; refine tk 9 167 ?_; refine tk 10 168 ?_; refine tk 11 169 ?_; refine tk 12 170 ?_; refine tk 13 171 ?_; refine tk 14 172 ?_; refine tk 15 173 ?_; refine tk 16 174 ?_; refine tk 17 175 ?_; refine tk 18 176 ?_; refine tk 19 177 ?_; refine tk 20 178 ?_; refine tk 21 179 ?_; refine tk 22 180 ?_; refine tk 23 181 ?_; refine tk 24 182 ?_; refine tk 25 183 ?_; refine tk 26 184 ?_; refine tk 27 185 ?_; refine tk 28 186 ?_; refine tk 29 187 ?_; refine tk 30 188 ?_; refine tk 31 189 ?_; refine tk 32 190 ?_; refine tk 33 191 ?_; refine tk 34 192 ?_; refine tk 35 193 ?_; refine tk 36 194 ?_; refine tv 37 195 ?_
            refine wpAnyH_done (by kernel_rfl) ?_ _
            have HK := hide (uh ON (by rw [uh MA]; rfl))
            have BV2 := hide (uh BV).drew; clear v0 v1
            go_wp2
            go_roundw
            case rel => exact ⟨0 + 1, by omega, by go_num, uh HK, uh BV2, uh OV⟩
            case measure => simp [intOf]; omega
     | succ j =>
      have hgp : b.tombs[j]? = some b.tombs[j] := List.getElem?_eq_getElem (by omega)
      simp only [before, hgp] at MA
      generalize b.tombs[j] = p at *
      obtain ⟨r1, hr1⟩ : ∃ r, decide (f.mod < p.mod) = r := ⟨_, rfl⟩
      obtain ⟨r2, hr2⟩ : ∃ r, (p.mod == f.mod) = r := ⟨_, rfl⟩
      obtain ⟨r3, hr3⟩ : ∃ r, decide (f.uid ≤ p.uid) = r := ⟨_, rfl⟩
      rw [tombLess_is, hr1, hr2, hr3] at MA
      have b0 : (0 : Int) < (j : Int) + 1 := by omega
      have b2 : IntKind.i64.wrap (j : Int) = (j : Int) := by rw [IntKind.wrap_i64]; omega
      have b3 : (0 : Int) ≤ (j : Int) := by omega
      have b4 : (j : Int) < (b.tombs.length : Int) := by omega
      go_wp2_with fail
      refine (uh HI1 _).mono ?_
      rintro e w1 ⟨rfl, hw⟩
      subst w1
      cases q1 with
      | false =>
       have HR := hide (uh NO (by rw [uh MA]; rfl))
       go_wp2
       go_ret
       exact ⟨by rw [uh HR]; rfl, uh BW⟩
      | true =>
       cases a2 with
       | true =>
        have HR := hide (uh NO (by rw [uh MA]; rfl))
        go_wp2
        go_ret
        exact ⟨by rw [uh HR]; rfl, uh BW⟩
       | false =>
        cases a3 with
        | true =>
         have HR := hide (uh NO (by rw [uh MA]; rfl))
         go_wp2
         go_ret
         exact ⟨by rw [uh HR]; rfl, uh BW⟩
        | false =>
         go_wp2_with fail
         refine (uh HQ).mono ?_
         rintro e w5 ⟨rfl, hb5⟩
         have u0 := (uh O1).ups hb5; have u2 := (uh O2).ups hb5; have BU := hide ((uh BW).trans (hb5.mono (uh BW).size)); clear hb5 HW t0 t1 t2 t3 p0 p1 p2 p3 p4 p5 p6
         cases q4 with
         | true =>
          have HR := hide (uh NO (by rw [uh MA]; rfl))
          go_wp2
          go_ret
          exact ⟨by rw [uh HR]; rfl, uh BU⟩
         | false =>
          have U0 := hide u0; have U2 := hide u2; clear u0 u2
          go_wp2
          go_loopw [7] (fun i wv => ∃ x : Nat, x ≤ (j + 1) ∧ i = .int .i64 x ∧ (∀ y (q : Tb), y < x → b.tombs[y]? = some q → (q.uid == f.uid) = false) ∧ Below w.heap.size w wv ∧ HasObj wv w.heap.size 50 (boxL b (.slice am b.mails.length cm) (.slice (some ⟨g, 0, none⟩) b.tombs.length ct1)) ∧ HasObj wv wo.heap.size 117 [.int .i64 f.uid, .int .i64 f.mod]) (fun i _ => (j + 1) - (intOf i).toNat)
          case atStart => exact ⟨0, Nat.zero_le _, rfl, fun y q hy => by omega, uh BU, uh U2, uh U0⟩
          case round =>
           obtain ⟨x, hx, rfl, hno, hbv, hov, htv⟩ := hrel
           have v0 := htv.cell 0 rfl; have v1 := htv.cell 1 rfl; have v5 := hov.cell 5 rfl; have BV := hide hbv; have OV := hide hov; have TV := hide htv; have HE := hide hno; clear hbv hov htv hno
           by_cases hxk : x < (j + 1)
           ·have hgx : b.tombs[x]? = some b.tombs[x] := List.getElem?_eq_getElem (by omega)
            obtain ⟨g9, c9, e9, _, e0, _⟩ := uh HG wr (uh BV) x _ hgx
            cases e9
            have NE := hide (fun (h : (b.tombs[x].uid == f.uid) = true) => uh UQ x _ hxk hgx h)
            have ONE : Hid ((b.tombs[x].uid == f.uid) = false → ∀ y (q : Tb), y < x + 1 → b.tombs[y]? = some q → (q.uid == f.uid) = false) := fun h y q hy hq => by
             by_cases e : y = x
             ·subst e
              rw [hgx] at hq
              cases hq
              exact h
             ·exact uh HE y q (by omega) hq
            have j1 : (0 : Int) ≤ (x : Int) := by omega
            have j2 : (x : Int) < (b.tombs.length : Int) := by omega
            have j3 : decide ((x : Int) < ((j : Int) + 1)) = true := by rw [decide_eq_true_eq]; omega
            clear hgx HE
            generalize b.tombs[x].uid = z at *
            obtain ⟨r, hr⟩ : ∃ r, (z == f.uid) = r := ⟨_, rfl⟩
            rw [hr] at NE ONE
            go_wp2
            refine wp_region_held_drew (S := fun w' => w'.cell? ⟨wo.heap.size, 0, none⟩ = some (.int .i64 f.uid) ∧ w'.cell? ⟨w.heap.size, 5, none⟩ = some (.slice (some ⟨g, 0, none⟩) b.tombs.length ct1) ∧ w'.cell? ⟨g, x * 2, none⟩ = some (.int .i64 z)) (by kernel_rfl) (⟨v0, v5, e0⟩) (fun hHeld => ?_)
            refine tv 0 149 ?_; refine tv 1 150 ?_; refine tv 2 151 ?_; refine tv 3 152 ?_; refine tv 4 153 ?_; refine tv 5 154 ?_; refine tv 6 155 ?_; refine tv 7 156 ?_; refine tv 8 157 ?_
            refine wpAnyH_done (by kernel_rfl) ?_ _
            cases r with
            | true =>
             have HR := hide (uh NE rfl); clear v0 v1 v5 e0
             go_wp2
             go_ret
             exact ⟨by rw [uh HR]; rfl, (uh BV).drew⟩
            | false =>
             have HK := hide (uh ONE rfl); have BV2 := hide (uh BV).drew; clear v0 v1 v5 e0
             go_wp2
             go_roundw
             case rel => exact ⟨x + 1, by omega, by go_num, uh HK, uh BV2, uh OV, uh TV⟩
             case measure => simp [intOf]; omega
           ·have ex : x = (j + 1) := by omega
            have PA := hide (uh PAll (by rw [← ex]; exact uh HE))
            have j3 : decide ((x : Int) < ((j : Int) + 1)) = false := by rw [decide_eq_false_iff_not]; omega
            rw [uh PA] at MA
            clear HE PA
            obtain ⟨g8, c8, e8, _, e0, e1⟩ := uh HG wr (uh BV) j _ hgp
            cases e8
            go_wp2
            refine wp_region_held_drew (S := fun w' => w'.cell? ⟨wo.heap.size, 0, none⟩ = some (.int .i64 f.uid) ∧ w'.cell? ⟨wo.heap.size, 1, none⟩ = some (.int .i64 f.mod) ∧ w'.cell? ⟨w.heap.size, 5, none⟩ = some (.slice (some ⟨g, 0, none⟩) b.tombs.length ct1) ∧ w'.cell? ⟨g, j * 2, none⟩ = some (.int .i64 p.uid) ∧ w'.cell? ⟨g, j * 2 + 1, none⟩ = some (.int .i64 p.mod)) (by kernel_rfl) (⟨v0, v1, v5, e0, e1⟩) (fun hHeld => ?_)
            refine tv 0 158 ?_; refine tv 1 159 ?_; refine tv 2 160 ?_; refine tv 3 161 ?_; refine tv 4 162 ?_; refine tv 5 163 ?_; refine tv 6 164 ?_; refine tv 7 165 ?_; refine tv 8 166 ?_; refine tv 9 167 ?_; refine tv 10 168 ?_; refine tv 11 169 ?_; refine tv 12 170 ?_
            cases r1 with
            | false =>
             refine tv 13 171 ?_; refine tv 14 172 ?_; refine tv 15 173 ?_; refine tv 16 174 ?_; refine tv 17 175 ?_; refine tv 18 176 ?_; refine tv 19 177 ?_; refine tv 20 178 ?_; refine tv 21 179 ?_; refine tv 22 180 ?_; refine tv 23 181 ?_
             cases r2 with
             | false =>
              refine tv 24 182 ?_; refine tk 25 183 ?_; refine tk 26 184 ?_; refine tk 27 185 ?_; refine tk 28 186 ?_; refine tk 29 187 ?_; refine tk 30 188 ?_; refine tk 31 189 ?_; refine tk 32 190 ?_; refine tk 33 191 ?_; refine tk 34 192 ?_; refine tv 35 193 ?_; refine tv 36 194 ?_; refine tv 37 195 ?_
              refine wpAnyH_done (by kernel_rfl) ?_ _
              have HK := hide (uh ON (by rw [uh MA]; rfl))
              have BV2 := hide (uh BV).drew; clear v0 v1 v5 e0 e1
              go_wp2
              go_roundw
              case rel => exact ⟨j + 1 + 1, by omega, by go_num, uh HK, uh BV2, uh OV⟩
              case measure => simp [intOf]; omega
             | true =>
              refine tv 24 182 ?_; refine tv 25 183 ?_; refine tv 26 184 ?_; refine tv 27 185 ?_; refine tv 28 186 ?_; refine tv 29 187 ?_; refine tv 30 188 ?_; refine tv 31 189 ?_; refine tv 32 190 ?_; refine tv 33 191 ?_; refine tv 34 192 ?_
              cases r3 with
              | false =>
               refine tv 35 193 ?_; refine tv 36 194 ?_; refine tv 37 195 ?_
               refine wpAnyH_done (by kernel_rfl) ?_ _
               have HK := hide (uh ON (by rw [uh MA]; rfl))
               have BV2 := hide (uh BV).drew; clear v0 v1 v5 e0 e1
               go_wp2
               go_roundw
               case rel => exact ⟨j + 1 + 1, by omega, by go_num, uh HK, uh BV2, uh OV⟩
               case measure => simp [intOf]; omega
              | true =>
               refine tv 35 193 ?_; refine tv 36 194 ?_; refine tv 37 195 ?_
               refine wpAnyH_done (by kernel_rfl) ?_ _
               have HR := hide (uh NO (by rw [uh MA]; rfl))
               clear v0 v1 v5 e0 e1
               go_wp2
               go_ret
               exact ⟨by rw [uh HR]; rfl, (uh BV).drew⟩
            | true =>
             refine tv 13 171 ?_; refine tk 14 172 ?_; refine tk 15 173 ?_; refine tk 16 174 ?_; refine tk 17 175 ?_; refine tk 18 176 ?_; refine tk 19 177 ?_; refine tk 20 178 ?_; refine tk 21 179 ?_; refine tk 22 180 ?_; refine tk 23 181 ?_; refine tk 24 182 ?_; refine tk 25 183 ?_; refine tk 26 184 ?_; refine tk 27 185 ?_; refine tk 28 186 ?_; refine tk 29 187 ?_; refine tk 30 188 ?_; refine tk 31 189 ?_; refine tk 32 190 ?_; refine tk 33 191 ?_; refine tk 34 192 ?_; refine tk 35 193 ?_; refine tv 36 194 ?_; refine tv 37 195 ?_
             refine wpAnyH_done (by kernel_rfl) ?_ _
             have HR := hide (uh NO (by rw [uh MA]; rfl))
             clear v0 v1 v5 e0 e1
             go_wp2
             go_ret
             exact ⟨by rw [uh HR]; rfl, (uh BV).drew⟩
    ·have e : k = b.tombs.length := by omega
     have HR := hide (boxOk_all (uh HH) (uh AM) (fun i hi => uh HC i (by omega)))
     clear HC OB
     subst e
     go_wp2
     go_ret
     exact ⟨by rw [uh HR]; rfl, uh BR⟩
theorem spec_BoxOk_any (b : Bx) (m t : Value) (B : Nat) (w : World) (hf : FitBx b) (h : OwnBx B w m t b) :
  Calls Tryz.prog 35 #[boxV b m t] w fun e w' => e = .returned (.bool (boxOk b)) ∧ Below w.heap.size w w' := by
 cases hh : headOk b with
 | false => exact spec_BoxOk_head b m t B w hf h hh
 | true => exact spec_BoxOk_in b m t B w hf h hh
end Go.Proofs.YtlngjflhbkannaaGreat
