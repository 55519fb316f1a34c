/- Boxes: the program's mailsOk and tombsOk. Made by gen_boxi.py. -/
import Derived.Test.YtihdgfihdecalaaGreatDoorBoxNameI
import Derived.Test.YtihdgfihdecalaaGreatDoorBoxA
import Derived.Test.YtihdgfihdecalaaGreatDoorImplFlag
import Derived.Test.YtihdgfihdecalaaGreatDoorRegA
import Derived.BigQuiet
namespace Go.Proofs.YtihdgfihdecalaaGreatDoor
open Go.RowKit
open Plain
set_option linter.unusedVariables false
set_option linter.unusedSimpArgs false

namespace Plain
theorem mailsOk_no {b : Bx} {i : Nat} (hi : i < b.mails.length) (h : mailAt b i = false) : mailsOk b = false := by
  unfold mailsOk
  rw [List.all_eq_false]
  exact ⟨i, by simpa using hi, by rw [h]; decide⟩
theorem mailsOk_yes {b : Bx} (h : ∀ i, i < b.mails.length → mailAt b i = true) : mailsOk b = true := by
  unfold mailsOk
  rw [List.all_eq_true]
  exact fun i hi => h i (by simpa using hi)
def mailsB (b : Bx) : Bool := decide (b.mails.length ≤ 30) && mailsOk b
/-- Tombs, one by one, as the program looks at them. -/
def tombIn (b : Bx) (i : Nat) : Bool := match b.tombs[i]? with | none => true | some t => inI t.uid 1 (b.next - 1) && (inI t.mod (b.hor + 1) b.mod && (match before b.tombs i with | none => true | some q => tombLess q t))
theorem tombIn_is {b : Bx} {i : Nat} {t : Tb} (h : b.tombs[i]? = some t) : tombIn b i = (inI t.uid 1 (b.next - 1) && (inI t.mod (b.hor + 1) b.mod && (match before b.tombs i with | none => true | some q => tombLess q t))) := by unfold tombIn; rw [h]
def tombsIn (b : Bx) : Bool := (List.range b.tombs.length).all (tombIn b)
theorem tombsIn_no {b : Bx} {i : Nat} (hi : i < b.tombs.length) (h : tombIn b i = false) : tombsIn b = false := by
  unfold tombsIn
  rw [List.all_eq_false]
  exact ⟨i, by simpa using hi, by rw [h]; decide⟩
theorem tombsIn_yes {b : Bx} (h : ∀ i, i < b.tombs.length → tombIn b i = true) : tombsIn b = true := by
  unfold tombsIn
  rw [List.all_eq_true]
  exact fun i hi => h i (by simpa using hi)
def tombsB (b : Bx) : Bool := decide (b.tombs.length ≤ 40) && tombsIn b
end Plain
theorem below_dn {B : Nat} {w W : World} (h : Below B w W) (n : Nat) : Below B w (W.drewN n) := ⟨h.os, h.tape, h.output, h.size, h.block⟩

set_option maxHeartbeats 8000000 in
set_option maxRecDepth 100000 in
theorem impl_mailsOk_any (b : Bx) (m t : Value) (B : Nat) (w : World) (hf : FitBx b) (hn : 1 ≤ b.next) (hn9 : b.next ≤ 9999) (h : OwnBx B w m t b) :
    Calls Tryz.prog 67 #[boxV b m t] w fun e w' => e = .returned (.bool (mailsB b)) ∧ Below w.heap.size w w' := by
  have hl1 := hf.mails
  have TX := hide hf.texts
  obtain ⟨am, cm, rfl⟩ := g_shape h.1
  obtain ⟨at1, ct1, rfl⟩ := g_shape h.2
  obtain ⟨X, hX⟩ : ∃ X, X = w.alloc (.cells (boxL b (.slice am b.mails.length cm) (.slice at1 b.tombs.length ct1)).toArray 34) := ⟨_, rfl⟩
  have x0 : HasObj X w.heap.size 34 (boxL b (.slice am b.mails.length cm) (.slice at1 b.tombs.length ct1)) := by rw [hX]; exact HasObj.new _ _ _
  have hbX : Below w.heap.size w X := by rw [hX]; exact (Below.refl _ _).alloc (Nat.le_refl _) _
  have k4 := x0.cell 4 rfl
  have X0 := hide x0
  have BX := hide hbX
  have HX := hX.symm
  have HM := hide (fun (W : World) hb k f hx => ml_read (W := W) h.1 hb (k := k) (f := f) hx)
  have n1 : IntKind.i64.wrap (b.next - 1) = b.next - 1 := by rw [IntKind.wrap_i64]; omega
  clear hX x0 hbX h hf
  by_cases h30 : b.mails.length ≤ 30
  · have V0 : Hid (mailsB b = mailsOk b) := by show mailsB b = _; unfold mailsB; rw [decide_eq_true h30]; rfl
    have d1 : decide ((30 : Int) < (b.mails.length : Int)) = false := by rw [decide_eq_false_iff_not]; omega
    go_enter Tryz.func67, Tryz.ntmps67
    go_wp2
    clear HX d1 k4
    go_loopw [12] (fun i wr => ∃ k : Nat, k ≤ b.mails.length ∧ i = .int .i64 k ∧ HasObj wr w.heap.size 34 (boxL b (.slice am b.mails.length cm) (.slice at1 b.tombs.length ct1)) ∧ (∀ j, j < k → mailAt b j = true) ∧ Below w.heap.size w wr) (fun i _ => b.mails.length - (intOf i).toNat)
    case atStart => exact ⟨0, Nat.zero_le _, rfl, unhide X0, fun j hj => by omega, unhide BX⟩
    case round =>
      obtain ⟨k, hk, rfl, hp, hall, hbel⟩ := hrel
      clear X0 BX
      by_cases hlt : k < b.mails.length
      · have hgk : b.mails[k]? = some b.mails[k] := List.getElem?_eq_getElem hlt
        obtain ⟨g, c, e, hg, c0, c1, c2, c3⟩ := unhide HM wr hbel k _ hgk
        cases e
        have ON : Hid (mailAt b k = true → ∀ j, j < k + 1 → mailAt b j = true) := fun h j hj => by
          by_cases e : j = k
          · rw [e]; exact h
          · exact hall j (by omega)
        have NO := hide (fun h => mailsOk_no (b := b) hlt h)
        have htx := unhide TX _ (List.getElem_mem hlt)
        have MA := hide (mailAt_is hgk)
        have PR : Hid (∀ j, k = j + 1 → ∃ p : Ml, b.mails[j]? = some p ∧ wr.cell? ⟨g, j * 4, none⟩ = some (.int .i64 p.uid)) := fun j e => by
          have hgp : b.mails[j]? = some b.mails[j] := List.getElem?_eq_getElem (by omega)
          obtain ⟨g', c', e', _, d0, _⟩ := unhide HM wr hbel j _ hgp
          cases e'
          exact ⟨_, hgp, d0⟩
        generalize b.mails[k] = f at *
        obtain ⟨Y, hY⟩ : ∃ Y, Y = wr.alloc (.cells ([.int .i64 f.uid, .int .i64 f.flags, .int .i64 f.mod, .string f.text] : List Value).toArray 55) := ⟨_, rfl⟩
        have y0 : HasObj Y wr.heap.size 55 [.int .i64 f.uid, .int .i64 f.flags, .int .i64 f.mod, .string f.text] := by rw [hY]; exact HasObj.new _ _ _
        have hbY : Below wr.heap.size wr Y := by rw [hY]; exact (Below.refl _ _).alloc (Nat.le_refl _) _
        have HY := hY.symm
        have i1 : (0 : Int) ≤ (k : Int) := by omega
        have i2 : (k : Int) < (b.mails.length : Int) := by omega
        have q0 := hp.ups hbY
        have P0 := hide q0
        have Y0 := hide y0
        have BY := hide hbY
        have BR := hide hbel
        have p2 := q0.cell 2 rfl
        have p3 := q0.cell 3 rfl
        have z0 := y0.cell 0 rfl
        have z1 := y0.cell 1 rfl
        have z2 := y0.cell 2 rfl
        have z3 := y0.cell 3 rfl
        have Q1 := impl_within_any f.uid 1 (b.next - 1) Y
        have Q2 := impl_FlagsOk_any f.flags Y
        have Q3 := impl_within_any f.mod 1 b.mod Y
        have Q4 := impl_MailOk_any f.text Y htx
        clear hall hgk hp hbel hbY hY y0 q0 htx
        unfold mailRight at MA
        obtain ⟨r1, hr1⟩ : ∃ r, inI f.uid 1 (b.next - 1) = r := ⟨_, rfl⟩
        obtain ⟨r2, hr2⟩ : ∃ r, flOk f.flags = r := ⟨_, rfl⟩
        obtain ⟨r3, hr3⟩ : ∃ r, inI f.mod 1 b.mod = r := ⟨_, rfl⟩
        obtain ⟨r4, hr4⟩ : ∃ r, mailOkL f.text.data.toList = r := ⟨_, rfl⟩
        rw [hr1] at Q1 MA
        rw [hr2] at Q2 MA
        rw [hr3] at Q3 MA
        rw [hr4] at Q4 MA
        have Q1 := hide Q1
        have Q2 := hide Q2
        have Q3 := hide Q3
        have Q4 := hide Q4
        clear hr1 hr2 hr3 hr4
        cases r1 with
        | false =>
          have V := hide (unhide NO (by rw [unhide MA]; rfl))
          go_wp2_with fail
          refine (unhide Q1).mono ?_
          rintro e w1 ⟨rfl, hw1⟩
          subst w1
          go_wp2
          go_ret
          exact ⟨by rw [unhide V0, unhide V]; rfl, below_y (unhide BR) (unhide BY)⟩
        | true =>
        cases r2 with
        | false =>
          have V := hide (unhide NO (by rw [unhide MA]; simp))
          go_wp2_with fail
          refine (unhide Q1).mono ?_
          rintro e w1 ⟨rfl, hw1⟩
          subst w1
          go_wp2_with fail
          refine (unhide Q2).mono ?_
          rintro e w1 ⟨rfl, hw1⟩
          subst w1
          go_wp2
          go_ret
          exact ⟨by rw [unhide V0, unhide V]; rfl, below_y (unhide BR) (unhide BY)⟩
        | true =>
        cases r3 with
        | false =>
          have V := hide (unhide NO (by rw [unhide MA]; simp))
          go_wp2_with fail
          refine (unhide Q1).mono ?_
          rintro e w1 ⟨rfl, hw1⟩
          subst w1
          go_wp2_with fail
          refine (unhide Q2).mono ?_
          rintro e w1 ⟨rfl, hw1⟩
          subst w1
          go_wp2_with fail
          refine (unhide Q3).mono ?_
          rintro e w1 ⟨rfl, hw1⟩
          subst w1
          go_wp2
          go_ret
          exact ⟨by rw [unhide V0, unhide V]; rfl, below_y (unhide BR) (unhide BY)⟩
        | true =>
        go_wp2_with fail
        refine (unhide Q1).mono ?_
        rintro e w1 ⟨rfl, hw1⟩
        subst w1
        go_wp2_with fail
        refine (unhide Q2).mono ?_
        rintro e w1 ⟨rfl, hw1⟩
        subst w1
        go_wp2_with fail
        refine (unhide Q3).mono ?_
        rintro e w1 ⟨rfl, hw1⟩
        subst w1
        go_wp2_with fail
        refine (unhide Q4).mono ?_
        rintro e w2 ⟨rfl, hb2⟩
        have B2 := hide (below_y (below_y (unhide BR) (unhide BY)) hb2)
        have hp2 := (unhide P0).ups hb2
        have hy2 := (unhide Y0).ups hb2
        have P2 := hide hp2
        clear Q1 Q2 Q3 Q4 HY p2 p3 z0 z1 z2 z3 c0 c1 c2 c3
        cases r4 with
        | false =>
          have V := hide (unhide NO (by rw [unhide MA]; simp))
          clear hb2 hp2 hy2
          go_wp2
          go_ret
          exact ⟨by rw [unhide V0, unhide V]; rfl, unhide B2⟩
        | true =>
        have z0 := hy2.cell 0 rfl
        have p4 := hp2.cell 4 rfl
        have BK := hide (below_y (unhide BY |>.mono (Nat.le_refl _)) hb2)
        clear hb2 hp2 hy2
        cases k with
        | zero =>
          simp only [before] at MA
          have HK := hide (unhide ON (by rw [unhide MA]; rfl))
          have b0 : decide ((0 : Int) < 0) = false := by decide
          go_wp2
          go_quiet (fail)
          go_wp2
          go_roundw
          case rel => exact ⟨0 + 1, by omega, by go_num, unhide P2, unhide HK, below_dn (unhide B2) _⟩
          case measure => simp [intOf]; omega
        | succ j =>
          obtain ⟨p, hgp, d0⟩ := unhide PR j rfl
          have d0 := g_cell (unhide BK) d0
          simp only [before, hgp] at MA
          have b0 : (0 : Int) < (j : Int) + 1 := by omega
          have b2 : IntKind.i64.wrap (j : Int) = (j : Int) := by rw [IntKind.wrap_i64]; omega
          have b3 : (0 : Int) ≤ (j : Int) := by omega
          have b4 : (j : Int) < (b.mails.length : Int) := by omega
          clear hgp PR
          by_cases hle : f.uid ≤ p.uid
          · have dl : decide (f.uid ≤ p.uid) = true := decide_eq_true hle
            have V := hide (unhide NO (by rw [unhide MA, decide_eq_false (by omega)]; rfl))
            clear hle
            go_wp2
            go_quiet (fail)
            go_wp2
            go_ret
            exact ⟨by rw [unhide V0, unhide V]; rfl, below_dn (unhide B2) _⟩
          · have dl : decide (f.uid ≤ p.uid) = false := decide_eq_false hle
            have HK := hide (unhide ON (by rw [unhide MA, decide_eq_true (by omega)]; rfl))
            clear hle
            go_wp2
            go_quiet (fail)
            go_wp2
            go_roundw
            case rel => exact ⟨j + 1 + 1, by omega, by go_num, unhide P2, unhide HK, below_dn (unhide B2) _⟩
            case measure => simp [intOf]; omega
      · have V := hide (mailsOk_yes (b := b) (fun i hi => hall i (by omega)))
        obtain rfl : k = b.mails.length := by omega
        have BR := hide hbel
        clear hall hbel hp
        go_wp2
        go_ret
        exact ⟨by rw [unhide V0, unhide V]; rfl, unhide BR⟩
  · have V0 : Hid (mailsB b = false) := by show mailsB b = _; unfold mailsB; rw [decide_eq_false h30]; rfl
    have d1 : decide ((30 : Int) < (b.mails.length : Int)) = true := by rw [decide_eq_true_eq]; omega
    go_enter Tryz.func67, Tryz.ntmps67
    go_wp2
    go_ret
    exact ⟨by rw [unhide V0]; rfl, unhide BX⟩

theorem buriedAhead_any (p t : Tb) (w : World) :
    Calls Tryz.prog 87 #[.agg #[.int .i64 p.uid, .int .i64 p.mod], .agg #[.int .i64 t.uid, .int .i64 t.mod]] w fun e w' => e = .returned (.bool (tombLess p t)) ∧ Below w.heap.size w w' := by
  have BW : Hid (∀ o1 o2, Below w.heap.size w ((w.alloc o1).alloc o2)) := fun o1 o2 => ((Below.refl _ w).alloc (Nat.le_refl _) _).alloc (by simp) _
  obtain ⟨pu, pm⟩ := p
  obtain ⟨tu, tm⟩ := t
  unfold tombLess
  by_cases h1 : pm < tm
  · have d1 : decide (pm < tm) = true := decide_eq_true h1
    rw [d1]
    go_enter Tryz.func87, Tryz.ntmps87
    go_wp2
    go_ret
    exact ⟨rfl, unhide BW _ _⟩
  · have d1 : decide (pm < tm) = false := decide_eq_false h1
    by_cases h2 : pm = tm
    · subst h2
      by_cases h3 : pu < tu
      · have d3 : decide (pu < tu) = true := decide_eq_true h3
        rw [d1, d3]
        go_enter Tryz.func87, Tryz.ntmps87
        go_wp2
        go_ret
        exact ⟨by simp, unhide BW _ _⟩
      · have d3 : decide (pu < tu) = false := decide_eq_false h3
        rw [d1, d3]
        go_enter Tryz.func87, Tryz.ntmps87
        go_wp2
        go_ret
        exact ⟨by simp, unhide BW _ _⟩
    · have d2 : (pm == tm) = false := beq_eq_false_iff_ne.2 h2
      rw [d1, decide_eq_false h2]
      clear h2
      go_enter Tryz.func87, Tryz.ntmps87
      go_wp2
      go_ret
      exact ⟨by simp, unhide BW _ _⟩

set_option maxHeartbeats 8000000 in
set_option maxRecDepth 100000 in
theorem impl_tombsOk_any (b : Bx) (m t : Value) (B : Nat) (w : World) (hf : FitBx b) (hn : 1 ≤ b.next) (hn9 : b.next ≤ 9999) (hh0 : 0 ≤ b.hor) (hh1 : b.hor ≤ 100000) (h : OwnBx B w m t b) :
    Calls Tryz.prog 68 #[boxV b m t] w fun e w' => e = .returned (.bool (tombsB b)) ∧ Below w.heap.size w w' := by
  have hl2 := hf.tombs
  obtain ⟨am, cm, rfl⟩ := g_shape h.1
  obtain ⟨at1, ct1, rfl⟩ := g_shape h.2
  obtain ⟨X, hX⟩ : ∃ X, X = w.alloc (.cells (boxL b (.slice am b.mails.length cm) (.slice at1 b.tombs.length ct1)).toArray 34) := ⟨_, rfl⟩
  have x0 : HasObj X w.heap.size 34 (boxL b (.slice am b.mails.length cm) (.slice at1 b.tombs.length ct1)) := by rw [hX]; exact HasObj.new _ _ _
  have hbX : Below w.heap.size w X := by rw [hX]; exact (Below.refl _ _).alloc (Nat.le_refl _) _
  have k5 := x0.cell 5 rfl
  have X0 := hide x0
  have BX := hide hbX
  have HX := hX.symm
  have HM := hide (fun (W : World) hb k f hx => tb_read (W := W) h.2 hb (k := k) (f := f) hx)
  have n1 : IntKind.i64.wrap (b.next - 1) = b.next - 1 := by rw [IntKind.wrap_i64]; omega
  have n2 : IntKind.i64.wrap (b.hor + 1) = b.hor + 1 := by rw [IntKind.wrap_i64]; omega
  clear hX x0 hbX h hf
  by_cases h40 : b.tombs.length ≤ 40
  · have V0 : Hid (tombsB b = tombsIn b) := by show tombsB b = _; unfold tombsB; rw [decide_eq_true h40]; rfl
    have d1 : decide ((40 : Int) < (b.tombs.length : Int)) = false := by rw [decide_eq_false_iff_not]; omega
    go_enter Tryz.func68, Tryz.ntmps68
    go_wp2
    clear HX d1 k5
    go_loopw [12] (fun i wr => ∃ k : Nat, k ≤ b.tombs.length ∧ i = .int .i64 k ∧ HasObj wr w.heap.size 34 (boxL b (.slice am b.mails.length cm) (.slice at1 b.tombs.length ct1)) ∧ (∀ j, j < k → tombIn b j = true) ∧ Below w.heap.size w wr) (fun i _ => b.tombs.length - (intOf i).toNat)
    case atStart => exact ⟨0, Nat.zero_le _, rfl, unhide X0, fun j hj => by omega, unhide BX⟩
    case round =>
      obtain ⟨k, hk, rfl, hp, hall, hbel⟩ := hrel
      obtain ⟨wo, hwo⟩ : ∃ wo, wo = wr := ⟨_, rfl⟩
      subst hwo
      clear X0 BX
      by_cases hlt : k < b.tombs.length
      · have hgk : b.tombs[k]? = some b.tombs[k] := List.getElem?_eq_getElem hlt
        obtain ⟨g, c, e, hg, c0, c1⟩ := unhide HM wo hbel k _ hgk
        cases e
        have ON : Hid (tombIn b k = true → ∀ j, j < k + 1 → tombIn b j = true) := fun h j hj => by
          by_cases e : j = k
          · rw [e]; exact h
          · exact hall j (by omega)
        have NO := hide (fun h => tombsIn_no (b := b) hlt h)
        have MA := hide (tombIn_is hgk)
        have PR : Hid (∀ j, k = j + 1 → ∃ p : Tb, b.tombs[j]? = some p ∧ wo.cell? ⟨g, j * 2, none⟩ = some (.int .i64 p.uid) ∧ wo.cell? ⟨g, j * 2 + 1, none⟩ = some (.int .i64 p.mod)) := fun j e => by
          have hgp : b.tombs[j]? = some b.tombs[j] := List.getElem?_eq_getElem (by omega)
          obtain ⟨g', c', e', _, d0, d1⟩ := unhide HM wo hbel j _ hgp
          cases e'
          exact ⟨_, hgp, d0, d1⟩
        generalize b.tombs[k] = f at *
        obtain ⟨Y, hY⟩ : ∃ Y, Y = wo.alloc (.cells ([.int .i64 f.uid, .int .i64 f.mod] : List Value).toArray 81) := ⟨_, rfl⟩
        have y0 : HasObj Y wo.heap.size 81 [.int .i64 f.uid, .int .i64 f.mod] := by rw [hY]; exact HasObj.new _ _ _
        have hbY : Below wo.heap.size wo Y := by rw [hY]; exact (Below.refl _ _).alloc (Nat.le_refl _) _
        have HY := hY.symm
        have i1 : (0 : Int) ≤ (k : Int) := by omega
        have i2 : (k : Int) < (b.tombs.length : Int) := by omega
        have q0 := hp.ups hbY
        have P0 := hide q0
        have Y0 := hide y0
        have BY := hide hbY
        have BR := hide (below_y hbel hbY)
        have p2 := q0.cell 2 rfl
        have p3 := q0.cell 3 rfl
        have p6 := q0.cell 6 rfl
        have z0 := y0.cell 0 rfl
        have z1 := y0.cell 1 rfl
        have Q1 := impl_within_any f.uid 1 (b.next - 1) Y
        have Q2 := impl_within_any f.mod (b.hor + 1) b.mod Y
        clear hall hgk hp hbel hbY hY y0 q0
        obtain ⟨r1, hr1⟩ : ∃ r, inI f.uid 1 (b.next - 1) = r := ⟨_, rfl⟩
        obtain ⟨r2, hr2⟩ : ∃ r, inI f.mod (b.hor + 1) b.mod = r := ⟨_, rfl⟩
        rw [hr1] at Q1 MA
        rw [hr2] at Q2 MA
        have Q1 := hide Q1
        have Q2 := hide Q2
        clear hr1 hr2
        cases r1 with
        | false =>
          have V := hide (unhide NO (by rw [unhide MA]; rfl))
          go_wp2_with fail
          refine (unhide Q1).mono ?_
          rintro e w1 ⟨rfl, hw1⟩
          subst w1
          go_wp2
          go_ret
          exact ⟨by rw [unhide V0, unhide V]; rfl, unhide BR⟩
        | true =>
        cases r2 with
        | false =>
          have V := hide (unhide NO (by rw [unhide MA]; rfl))
          go_wp2_with fail
          refine (unhide Q1).mono ?_
          rintro e w1 ⟨rfl, hw1⟩
          subst w1
          go_wp2_with fail
          refine (unhide Q2).mono ?_
          rintro e w1 ⟨rfl, hw1⟩
          subst w1
          go_wp2
          go_ret
          exact ⟨by rw [unhide V0, unhide V]; rfl, unhide BR⟩
        | true =>
        go_wp2_with fail
        refine (unhide Q1).mono ?_
        rintro e w1 ⟨rfl, hw1⟩
        subst w1
        go_wp2_with fail
        refine (unhide Q2).mono ?_
        rintro e w1 ⟨rfl, hw1⟩
        subst w1
        clear Q1 Q2 HY p2 p3 p6 c0 c1
        cases k with
        | zero =>
          simp only [before] at MA
          have HK := hide (unhide ON (by rw [unhide MA]; rfl))
          have b0 : decide ((0 : Int) < 0) = false := by decide
          go_wp2
          refine wp_region_held_drew (S := fun _ => True) (by kernel_rfl) (trivial) (fun hHeld => ?_)
          refine takeVal 0 (some 35) ?_ rfl (by kernel_rfl) (by kernel_rfl) (by kernel_rfl) rfl (fun _ _ _ h => h) (by rfl) (by assumption) ?_ ?_
          rotate_left
          · (intro w hSw; (try dsimp only at hSw); go_simp <;> with_reducible rfl)
          simp only [Act.put, List.setIfInBounds_toArray, List.set_cons_zero, List.set_cons_succ]
          refine takeVal 1 (some 36) ?_ rfl (by kernel_rfl) (by kernel_rfl) (by kernel_rfl) rfl (fun _ _ _ h => h) (by rfl) (by assumption) ?_ ?_
          rotate_left
          · (intro w hSw; (try dsimp only at hSw); go_simp <;> with_reducible rfl)
          simp only [Act.put, List.setIfInBounds_toArray, List.set_cons_zero, List.set_cons_succ]
          refine takeVal 2 (some 37) ?_ rfl (by kernel_rfl) (by kernel_rfl) (by kernel_rfl) rfl (fun _ _ _ h => h) (by rfl) (by assumption) ?_ ?_
          rotate_left
          · (intro w hSw; (try dsimp only at hSw); go_simp <;> with_reducible rfl)
          simp only [Act.put, List.setIfInBounds_toArray, List.set_cons_zero, List.set_cons_succ]
          refine takeSkip 3 (some 38) rfl (by kernel_rfl) (by kernel_rfl) (by kernel_rfl) rfl (fun _ _ _ h => h) (by rfl) (by assumption) ?_
          simp only [Act.put, List.setIfInBounds_toArray, List.set_cons_zero, List.set_cons_succ]
          refine takeSkip 4 (some 39) rfl (by kernel_rfl) (by kernel_rfl) (by kernel_rfl) rfl (fun _ _ _ h => h) (by rfl) (by assumption) ?_
          simp only [Act.put, List.setIfInBounds_toArray, List.set_cons_zero, List.set_cons_succ]
          refine takeSkip 5 (some 40) rfl (by kernel_rfl) (by kernel_rfl) (by kernel_rfl) rfl (fun _ _ _ h => h) (by rfl) (by assumption) ?_
          simp only [Act.put, List.setIfInBounds_toArray, List.set_cons_zero, List.set_cons_succ]
          refine takeSkip 6 (some 41) rfl (by kernel_rfl) (by kernel_rfl) (by kernel_rfl) rfl (fun _ _ _ h => h) (by rfl) (by assumption) ?_
          simp only [Act.put, List.setIfInBounds_toArray, List.set_cons_zero, List.set_cons_succ]
          refine takeSkip 7 (some 42) rfl (by kernel_rfl) (by kernel_rfl) (by kernel_rfl) rfl (fun _ _ _ h => h) (by rfl) (by assumption) ?_
          simp only [Act.put, List.setIfInBounds_toArray, List.set_cons_zero, List.set_cons_succ]
          refine takeSkip 8 (some 43) rfl (by kernel_rfl) (by kernel_rfl) (by kernel_rfl) rfl (fun _ _ _ h => h) (by rfl) (by assumption) ?_
          simp only [Act.put, List.setIfInBounds_toArray, List.set_cons_zero, List.set_cons_succ]
          refine takeSkip 9 (some 44) rfl (by kernel_rfl) (by kernel_rfl) (by kernel_rfl) rfl (fun _ _ _ h => h) (by rfl) (by assumption) ?_
          simp only [Act.put, List.setIfInBounds_toArray, List.set_cons_zero, List.set_cons_succ]
          refine takeSkip 10 (some 45) rfl (by kernel_rfl) (by kernel_rfl) (by kernel_rfl) rfl (fun _ _ _ h => h) (by rfl) (by assumption) ?_
          simp only [Act.put, List.setIfInBounds_toArray, List.set_cons_zero, List.set_cons_succ]
          refine takeSkip 11 (some 46) rfl (by kernel_rfl) (by kernel_rfl) (by kernel_rfl) rfl (fun _ _ _ h => h) (by rfl) (by assumption) ?_
          simp only [Act.put, List.setIfInBounds_toArray, List.set_cons_zero, List.set_cons_succ]
          refine takeVal 12 (some 47) ?_ rfl (by kernel_rfl) (by kernel_rfl) (by kernel_rfl) rfl (fun _ _ _ h => h) (by rfl) (by assumption) ?_ ?_
          rotate_left
          · (intro w hSw; (try dsimp only at hSw); go_simp <;> with_reducible rfl)
          simp only [Act.put, List.setIfInBounds_toArray, List.set_cons_zero, List.set_cons_succ]
          refine wpAnyH_done (by kernel_rfl) ?_ _
          go_wp2
          go_roundw
          case rel => exact ⟨0 + 1, by omega, by go_num, (unhide P0).drew, unhide HK, (unhide BR).drew⟩
          case measure => simp [intOf]; omega
        | succ j =>
          obtain ⟨p, hgp, d0, d1⟩ := unhide PR j rfl
          have d0 := g_cell (unhide BY) d0
          have d1 := g_cell (unhide BY) d1
          have p5 := (unhide P0).cell 5 rfl
          simp only [before, hgp] at MA
          have b0 : (0 : Int) < (j : Int) + 1 := by omega
          have b2 : IntKind.i64.wrap (j : Int) = (j : Int) := by rw [IntKind.wrap_i64]; omega
          have b3 : (0 : Int) ≤ (j : Int) := by omega
          have b4 : (j : Int) < (b.tombs.length : Int) := by omega
          clear hgp PR
          obtain ⟨r3, hr3⟩ : ∃ r, tombLess p f = r := ⟨_, rfl⟩
          have Q3 := hide (fun W => buriedAhead_any p f W)
          rw [hr3] at MA Q3
          clear hr3
          go_wp2
          refine wp_region_held_drew (S := fun w' => w'.cell? ⟨w.heap.size, 5, none⟩ = some (.slice (some ⟨g, 0, none⟩) b.tombs.length ct1) ∧ w'.cell? ⟨g, j * 2, none⟩ = some (.int .i64 p.uid) ∧ w'.cell? ⟨g, j * 2 + 1, none⟩ = some (.int .i64 p.mod) ∧ w'.cell? ⟨wo.heap.size, 0, none⟩ = some (.int .i64 f.uid) ∧ w'.cell? ⟨wo.heap.size, 1, none⟩ = some (.int .i64 f.mod)) (by kernel_rfl) (⟨p5, d0, d1, z0, z1⟩) (fun hHeld => ?_)
          refine takeVal 0 (some 35) ?_ rfl (by kernel_rfl) (by kernel_rfl) (by kernel_rfl) rfl (fun _ _ _ h => h) (by rfl) (by assumption) ?_ ?_
          rotate_left
          · (intro w hSw; (try dsimp only at hSw); go_simp <;> with_reducible rfl)
          simp only [Act.put, List.setIfInBounds_toArray, List.set_cons_zero, List.set_cons_succ]
          refine takeVal 1 (some 36) ?_ rfl (by kernel_rfl) (by kernel_rfl) (by kernel_rfl) rfl (fun _ _ _ h => h) (by rfl) (by assumption) ?_ ?_
          rotate_left
          · (intro w hSw; (try dsimp only at hSw); go_simp <;> with_reducible rfl)
          simp only [Act.put, List.setIfInBounds_toArray, List.set_cons_zero, List.set_cons_succ]
          refine takeVal 2 (some 37) ?_ rfl (by kernel_rfl) (by kernel_rfl) (by kernel_rfl) rfl (fun _ _ _ h => h) (by rfl) (by assumption) ?_ ?_
          rotate_left
          · (intro w hSw; (try dsimp only at hSw); go_simp <;> with_reducible rfl)
          simp only [Act.put, List.setIfInBounds_toArray, List.set_cons_zero, List.set_cons_succ]
          refine takeVal 3 (some 38) ?_ rfl (by kernel_rfl) (by kernel_rfl) (by kernel_rfl) rfl (fun _ _ _ h => h) (by rfl) (by assumption) ?_ ?_
          rotate_left
          · (intro w hSw; (try dsimp only at hSw); go_simp <;> with_reducible rfl)
          simp only [Act.put, List.setIfInBounds_toArray, List.set_cons_zero, List.set_cons_succ]
          refine takeVal 4 (some 39) ?_ rfl (by kernel_rfl) (by kernel_rfl) (by kernel_rfl) rfl (fun _ _ _ h => h) (by rfl) (by assumption) ?_ ?_
          rotate_left
          · (intro w hSw; (try dsimp only at hSw); go_simp <;> with_reducible rfl)
          simp only [Act.put, List.setIfInBounds_toArray, List.set_cons_zero, List.set_cons_succ]
          refine takeVal 5 (some 40) ?_ rfl (by kernel_rfl) (by kernel_rfl) (by kernel_rfl) rfl (fun _ _ _ h => h) (by rfl) (by assumption) ?_ ?_
          rotate_left
          · (intro w hSw; (try dsimp only at hSw); go_simp <;> with_reducible rfl)
          simp only [Act.put, List.setIfInBounds_toArray, List.set_cons_zero, List.set_cons_succ]
          refine takeVal 6 (some 41) ?_ rfl (by kernel_rfl) (by kernel_rfl) (by kernel_rfl) rfl (fun _ _ _ h => h) (by rfl) (by assumption) ?_ ?_
          rotate_left
          · (intro w hSw; (try dsimp only at hSw); go_simp <;> with_reducible rfl)
          simp only [Act.put, List.setIfInBounds_toArray, List.set_cons_zero, List.set_cons_succ]
          refine takeVal 7 (some 42) ?_ rfl (by kernel_rfl) (by kernel_rfl) (by kernel_rfl) rfl (fun _ _ _ h => h) (by rfl) (by assumption) ?_ ?_
          rotate_left
          · (intro w hSw; (try dsimp only at hSw); go_simp <;> with_reducible rfl)
          simp only [Act.put, List.setIfInBounds_toArray, List.set_cons_zero, List.set_cons_succ]
          refine takeVal 8 (some 43) ?_ rfl (by kernel_rfl) (by kernel_rfl) (by kernel_rfl) rfl (fun _ _ _ h => h) (by rfl) (by assumption) ?_ ?_
          rotate_left
          · (intro w hSw; (try dsimp only at hSw); go_simp <;> with_reducible rfl)
          simp only [Act.put, List.setIfInBounds_toArray, List.set_cons_zero, List.set_cons_succ]
          refine takeVal 9 (some 44) ?_ rfl (by kernel_rfl) (by kernel_rfl) (by kernel_rfl) rfl (fun _ _ _ h => h) (by rfl) (by assumption) ?_ ?_
          rotate_left
          · (intro w hSw; (try dsimp only at hSw); go_simp <;> with_reducible rfl)
          simp only [Act.put, List.setIfInBounds_toArray, List.set_cons_zero, List.set_cons_succ]
          refine wpAnyH_ready (rs := [10]) (by kernel_rfl) (by simp) ?_
          refine AllReadyH.cons rfl (fun K hK => ?_) AllReadyH.nil
          go_simp
          refine (unhide Q3 _).mono ?_
          rintro e w5 ⟨rfl, hb5⟩
          go_wp2_with fail
          refine hK.out _ _ (⟨g_cell hb5 hHeld.1, g_cell hb5 hHeld.2.1, g_cell hb5 hHeld.2.2.1, g_cell hb5 hHeld.2.2.2.1, g_cell hb5 hHeld.2.2.2.2⟩) (fun hHeld2 => ?_)
          clear hK K hHeld
          have hHeld := hHeld2; clear hHeld2
          try simp only [Act.put, List.setIfInBounds_toArray, List.set_cons_zero, List.set_cons_succ]
          refine takeVal 11 (some 46) ?_ rfl (by kernel_rfl) (by kernel_rfl) (by kernel_rfl) rfl (fun _ _ _ h => h) (by rfl) (by assumption) ?_ ?_
          rotate_left
          · (intro w hSw; (try dsimp only at hSw); go_simp <;> with_reducible rfl)
          simp only [Act.put, List.setIfInBounds_toArray, List.set_cons_zero, List.set_cons_succ]
          refine takeVal 12 (some 47) ?_ rfl (by kernel_rfl) (by kernel_rfl) (by kernel_rfl) rfl (fun _ _ _ h => h) (by rfl) (by assumption) ?_ ?_
          rotate_left
          · (intro w hSw; (try dsimp only at hSw); go_simp <;> with_reducible rfl)
          simp only [Act.put, List.setIfInBounds_toArray, List.set_cons_zero, List.set_cons_succ]
          refine wpAnyH_done (by kernel_rfl) ?_ _
          have P5 := hide ((unhide P0).drew.ups hb5)
          have B5 := hide (below_y (unhide BR).drew hb5)
          clear hb5 d0 d1 p5 z0 z1
          cases r3 with
          | false =>
            have V := hide (unhide NO (by rw [unhide MA]; rfl))
            go_wp2
            go_ret
            exact ⟨by rw [unhide V0, unhide V]; rfl, unhide B5⟩
          | true =>
            have HK := hide (unhide ON (by rw [unhide MA]; rfl))
            go_wp2
            go_roundw
            case rel => exact ⟨j + 1 + 1, by omega, by go_num, unhide P5, unhide HK, unhide B5⟩
            case measure => simp [intOf]; omega
      · have V := hide (tombsIn_yes (b := b) (fun i hi => hall i (by omega)))
        obtain rfl : k = b.tombs.length := by omega
        have BR := hide hbel
        clear hall hbel hp
        go_wp2
        go_ret
        exact ⟨by rw [unhide V0, unhide V]; rfl, unhide BR⟩
  · have V0 : Hid (tombsB b = false) := by show tombsB b = _; unfold tombsB; rw [decide_eq_false h40]; rfl
    have d1 : decide ((40 : Int) < (b.tombs.length : Int)) = true := by rw [decide_eq_true_eq]; omega
    go_enter Tryz.func68, Tryz.ntmps68
    go_wp2
    go_ret
    exact ⟨by rw [unhide V0]; rfl, unhide BX⟩
end Go.Proofs.YtihdgfihdecalaaGreatDoor
