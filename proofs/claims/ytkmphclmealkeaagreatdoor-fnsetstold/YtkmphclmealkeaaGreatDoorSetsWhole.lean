/- The program's sets: how many, what is in one, cut, moved, added, dropped: several texts in one. -/
import Derived.Test.YtkmphclmealkeaaGreatDoorImplOk
import Derived.Test.YtkmphclmealkeaaGreatDoorProg
import Derived.Test.YtkmphclmealkeaaGreatDoorOwn
import Derived.Laws.CopyOwn
import Derived.Test.YtkmphclmealkeaaGreatDoorImplSet
import Derived.Test.YtkmphclmealkeaaGreatDoorOrNothing
import Derived.Test.YtkmphclmealkeaaGreatDoorSetRuns
/- The program's sets: what is in one, how many it has. -/
namespace Go.Proofs.YtkmphclmealkeaaGreatDoor
open Go.RowKit
open Plain
set_option linter.unusedVariables false
set_option maxHeartbeats 4000000 in
set_option maxRecDepth 100000 in
theorem impl_SetSize_any (s : List Rg) (v : Value) (w : World) (hs : s.length ≤ 1048576) (h : ReadO w v s) :
    Calls Tryz.prog 23 #[v] w fun e w' => e = .returned (.int .i64 (sizeL s)) ∧ Below w.heap.size w w' := by
  have OK := hide (impl_SetOk_any s v w hs h)
  obtain ⟨a, c, rfl, hcap, hc⟩ := h
  have C := hide hc
  clear hc
  cases ho : okS s with
  | false =>
    have HR := hide (sizeL_no ho)
    rw [ho] at OK
    go_enter Tryz.func23, Tryz.ntmps23
    go_wp2_with fail
    refine (unhide OK).mono ?_
    rintro e w1 ⟨rfl, hb1⟩
    go_wp2
    go_ret
    exact ⟨by rw [unhide HR]; rfl, hb1⟩
  | true =>
    have HR := hide (sizeTo_all ho)
    have hoF := (okS_parts ho).1
    have hl40 := (okS_parts ho).2
    rw [ho] at OK
    go_enter Tryz.func23, Tryz.ntmps23
    go_wp2_with fail
    refine (unhide OK).mono ?_
    rintro e w1 ⟨rfl, hb1⟩
    go_wp2
    go_loopw [3, 11] (fun z i wr => ∃ k : Nat, k ≤ s.length ∧ i = .int .i64 k ∧ z = .int .i64 (sizeTo s k) ∧ Below w.heap.size w wr) (fun _ i _ => s.length - (intOf i).toNat)
    case atStart => exact ⟨0, Nat.zero_le _, rfl, by simp [sizeTo], hb1⟩
    case round =>
      obtain ⟨k, hk, rfl, rfl, hbel⟩ := hrel
      by_cases hlt : k < s.length
      · have hgk : s[k]? = some s[k] := List.getElem?_eq_getElem hlt
        obtain ⟨g, o, hga, hgl, c0, c1⟩ := unhide C k s[k] hgk
        subst hga
        have T := hide (sizeTo_succ hgk)
        have hbd := sizeTo_bound hoF k hk
        have hat := ok_at hoF hgk
        rw [← hbel.cell (p := ⟨g, _, none⟩) hgl] at c0 c1
        have hwr : w.heap.size ≤ wr.heap.size := hbel.size
        have hik : (0 : Int) ≤ (k : Int) := by omega
        have hil : (k : Int) < (s.length : Int) := by omega
        generalize s[k] = r at *
        obtain ⟨rl, rh⟩ := r
        simp only at c0 c1 T hat
        have HB : Hid (∀ O, Below w.heap.size w (wr.alloc O)) := fun O => hbel.alloc hwr O
        have HZ : Hid (∀ x, sizeTo s k + (rh - rl + 1) = x → sizeTo s (k + 1) = x) := fun x hx => by rw [← hx, unhide T]; omega
        generalize sizeTo s k = z at *
        have b1 : IntKind.i64.wrap (rh - rl) = rh - rl := by rw [IntKind.wrap_i64]; omega
        have b2 : IntKind.i64.wrap (rh - rl + 1) = rh - rl + 1 := by rw [IntKind.wrap_i64]; omega
        have b3 : IntKind.i64.wrap (z + (rh - rl + 1)) = z + (rh - rl + 1) := by rw [IntKind.wrap_i64]; omega
        clear hgk hoF
        go_wp2
        go_roundw
        case rel => exact ⟨k + 1, by omega, by go_num, by rw [unhide HZ _ rfl], unhide HB _⟩
        case measure => simp [intOf]; omega
      · obtain rfl : k = s.length := by omega
        go_wp2
        go_ret
        exact ⟨by rw [unhide HR]; rfl, hbel⟩
end Go.Proofs.YtkmphclmealkeaaGreatDoor

/- The program's sets: cut at two places. -/
namespace Go.Proofs.YtkmphclmealkeaaGreatDoor
open Go.RowKit
open Plain
set_option linter.unusedVariables false
set_option maxHeartbeats 4000000 in
set_option maxRecDepth 100000 in
theorem impl_cut_any (s : List Rg) (v : Value) (f t : Nat) (w0 w : World) (hs : s.length ≤ 1048576) (h : ReadO w0 v s) (hf : f ≤ t) (ht : t ≤ s.length) :
    Calls Tryz.prog 60 #[v, .int .i64 f, .int .i64 t] w fun e w' => (∃ v1 v2 v3, e = .returned (.tuple #[v1, v2, v3]) ∧ ReadO w0 v1 (s.take f) ∧ ReadO w0 v2 ((s.drop f).take (t - f)) ∧ ReadO w0 v3 (s.drop t)) ∧ ∃ q, w' = w.drewN q := by
  have H := hide h
  obtain ⟨a, c, rfl, hcap, hc⟩ := h
  cases a with
  | none =>
    have h0 : s = [] := by
      cases s with
      | nil => rfl
      | cons x y => obtain ⟨g, o, hg, _⟩ := hc 0 x rfl; cases hg
    subst h0
    obtain rfl : t = 0 := by simpa using ht
    obtain rfl : f = 0 := by omega
    clear hc
    go_enter Tryz.func60, Tryz.ntmps60
    go_wp2
    go_quiet (fail)
    go_wp2
    go_returns
    exact ⟨⟨_, _, _, rfl, ReadO.nil _ _ _, ReadO.nil _ _ _, ReadO.nil _ _ _⟩, _, rfl⟩
  | some ad =>
    by_cases h0 : s = []
    · subst h0
      obtain rfl : t = 0 := by simpa using ht
      obtain rfl : f = 0 := by omega
      clear hc
      go_enter Tryz.func60, Tryz.ntmps60
      go_wp2
      go_quiet (fail)
      go_wp2
      go_returns
      exact ⟨⟨_, _, _, rfl, ReadO.nil _ _ _, ReadO.nil _ _ _, ReadO.nil _ _ _⟩, _, rfl⟩
    · obtain ⟨g, o, hg, _⟩ := hc 0 (s[0]'(List.length_pos_iff.2 h0)) (List.getElem?_eq_getElem _)
      cases hg
      have hpos := List.length_pos_iff.2 h0
      rename_i rr
      clear hc rr h0
      have P1 : Hid (ReadO w0 (.slice (some ⟨g, o, none⟩) f f) (s.take f)) := by have := (unhide H).piece 0 f f (by omega) (Nat.le_refl _) o (fun _ => by omega); show ReadO _ _ _; simpa using this
      have P2 : Hid (ReadO w0 (.slice (some ⟨g, o + f * 2, none⟩) (t - f) (t - f)) ((s.drop f).take (t - f))) := (unhide H).piece f (t - f) (t - f) (by omega) (Nat.le_refl _) (o + f * 2) (fun _ => rfl)
      have P3 : Hid (ReadO w0 (.slice (some ⟨g, o + t * 2, none⟩) (s.length - t) (s.length - t)) (s.drop t)) := by
        have := (unhide H).piece t (s.length - t) (s.length - t) (by omega) (Nat.le_refl _) (o + t * 2) (fun _ => rfl)
        rw [List.take_of_length_le (by simp)] at this
        exact this
      have P4 : Hid (s.length = t → ReadO w0 (.slice (some ⟨g, o, none⟩) 0 0) (s.drop t)) := fun h => by rw [List.drop_of_length_le (by omega)]; exact ReadO.nil _ _ _
      have i1 : (0 : Int) ≤ (f : Int) := by omega
      have i2 : (f : Int) ≤ (t : Int) := by omega
      have i3 : (t : Int) ≤ (s.length : Int) := by omega
      have i4 : (s.length : Int) ≤ (c : Int) := by omega
      have i5 : (f : Int) ≤ (c : Int) := by omega
      have i6 : (t : Int) ≤ (c : Int) := by omega
      go_enter Tryz.func60, Tryz.ntmps60
      go_wp2
      go_quiet (fail)
      go_wp2
      all_goals go_returns
      all_goals refine ⟨⟨_, _, _, rfl, unhide P1, ?_, ?_⟩, _, rfl⟩
      · exact ReadO.nil _ _ _
      · have e : t = f := by assumption
        subst e
        exact unhide P4 (by assumption)
      · exact ReadO.nil _ _ _
      · have e : t = f := by assumption
        subst e
        exact unhide P3
      · exact unhide P2
      · exact unhide P4 (by assumption)
      · exact unhide P2
      · exact unhide P3

namespace Plain
theorem ahead_take {s : List Rg} {x : Int} {k : Nat} {r : Rg} (hr : s[k]? = some r) (h : aheadL (s.take k) x = s.take k) (hx : r.hi < x) : aheadL (s.take (k + 1)) x = s.take (k + 1) := by
  rw [ok_snoc hr]
  unfold aheadL at h ⊢
  rw [List.takeWhile_append, h]
  simp [hx]
/-- As far as the first one that is not ahead. -/
theorem ahead_at {s : List Rg} {x : Int} {k : Nat} (h : aheadL (s.take k) x = s.take k) (hk : ∀ r, s[k]? = some r → ¬ r.hi < x) : aheadL s x = s.take k ∧ restL s x = s.drop k := by
  have e : aheadL s x = s.take k := by
    have hd : aheadL s x = aheadL (s.take k ++ s.drop k) x := by rw [List.take_append_drop]
    rw [hd]
    unfold aheadL at h ⊢
    rw [List.takeWhile_append, h, if_pos rfl]
    cases hs : s.drop k with
    | nil => simp
    | cons r t =>
      have hr : s[k]? = some r := by
        have := congrArg (fun l => l[0]?) hs
        simpa using this
      rw [List.takeWhile_cons_of_neg (by simpa using hk r hr)]
      simp
  refine ⟨e, ?_⟩
  have h2 : aheadL s x ++ restL s x = s.take k ++ s.drop k := by rw [List.take_append_drop]; exact List.takeWhile_append_dropWhile
  rw [e] at h2
  exact List.append_cancel_left h2
def lows (s : List Rg) (y : Int) : List Rg := s.takeWhile fun r => decide (r.lo ≤ y)
theorem lows_take {s : List Rg} {y : Int} {k : Nat} {r : Rg} (hr : s[k]? = some r) (h : lows (s.take k) y = s.take k) (hx : r.lo ≤ y) : lows (s.take (k + 1)) y = s.take (k + 1) := by
  rw [ok_snoc hr]
  unfold lows at h ⊢
  rw [List.takeWhile_append, h]
  simp [hx]
theorem lows_at {s : List Rg} {y : Int} {k : Nat} (h : lows (s.take k) y = s.take k) (hk : ∀ r, s[k]? = some r → ¬ r.lo ≤ y) : lows s y = s.take k ∧ s.dropWhile (fun r => decide (r.lo ≤ y)) = s.drop k := by
  have e : lows s y = s.take k := by
    have hd : lows s y = lows (s.take k ++ s.drop k) y := by rw [List.take_append_drop]
    rw [hd]
    unfold lows at h ⊢
    rw [List.takeWhile_append, h, if_pos rfl]
    cases hs : s.drop k with
    | nil => simp
    | cons r t =>
      have hr : s[k]? = some r := by
        have := congrArg (fun l => l[0]?) hs
        simpa using this
      rw [List.takeWhile_cons_of_neg (by simpa using hk r hr)]
      simp
  refine ⟨e, ?_⟩
  have h2 : lows s y ++ s.dropWhile (fun r => decide (r.lo ≤ y)) = s.take k ++ s.drop k := by rw [List.take_append_drop]; exact List.takeWhile_append_dropWhile
  rw [e] at h2
  exact List.append_cancel_left h2
end Plain

set_option maxHeartbeats 4000000 in
set_option maxRecDepth 100000 in
theorem impl_cutSet_any (s : List Rg) (v : Value) (x y : Int) (w0 w : World) (hs : s.length ≤ 1048576) (h0 : ReadO w0 v s) (h : ReadO w v s) :
    Calls Tryz.prog 39 #[v, .agg #[.int .i64 x, .int .i64 y]] w fun e w' => ∃ v1 v2 v3, e = .returned (.tuple #[v1, v2, v3]) ∧ ReadO w0 v1 (aheadL s x) ∧ ReadO w0 v2 (metL s x y) ∧ ReadO w0 v3 (behindL s x y) ∧ Below w.heap.size w w' := by
  have H := hide h0
  clear h0
  obtain ⟨a, c, rfl, hcap, hc⟩ := h
  have C := hide hc
  clear hc
  go_enter Tryz.func39, Tryz.ntmps39
  go_wp2
  have hb0 : Below w.heap.size w (w.alloc (Obj.cells #[Value.int IntKind.i64 x, Value.int IntKind.i64 y] 32)) := (Below.refl _ _).alloc (Nat.le_refl _) _
  have e0 : (w.alloc (Obj.cells #[Value.int IntKind.i64 x, Value.int IntKind.i64 y] 32)).cell? ⟨w.heap.size, 0, none⟩ = some (.int .i64 x) := by go_simp
  have e1 : (w.alloc (Obj.cells #[Value.int IntKind.i64 x, Value.int IntKind.i64 y] 32)).cell? ⟨w.heap.size, 1, none⟩ = some (.int .i64 y) := by go_simp
  generalize w.alloc (Obj.cells #[Value.int IntKind.i64 x, Value.int IntKind.i64 y] 32) = W at *
  go_loopw [7] (fun i wr => ∃ k q : Nat, k ≤ s.length ∧ i = .int .i64 k ∧ aheadL (s.take k) x = s.take k ∧ wr = W.drewN q) (fun i _ => s.length - (intOf i).toNat)
  case atStart => exact ⟨0, 0, Nat.zero_le _, rfl, rfl, rfl⟩
  case round =>
    obtain ⟨k, q, hk, rfl, hah, rfl⟩ := hrel
    by_cases hlt : k < s.length
    · have hgk : s[k]? = some s[k] := List.getElem?_eq_getElem hlt
      obtain ⟨g, o, hga, hgl, c0, c1⟩ := unhide C k s[k] hgk
      subst hga
      have T := hide (fun h => ahead_take hgk hah h)
      have D := hide (fun h => ahead_at hah (x := x) h)
      rw [← hb0.cell (p := ⟨g, _, none⟩) hgl] at c0 c1
      have hik : (0 : Int) ≤ (k : Int) := by omega
      have hil : (k : Int) < (s.length : Int) := by omega
      have HG := hide hgk
      generalize s[k] = r at *
      obtain ⟨rl, rh⟩ := r
      simp only at c0 c1 T
      clear hah hgk
      by_cases hx : rh < x
      · have d1 : decide (rh < x) = true := by simpa using hx
        have N := hide (unhide T hx)
        go_wp2
        go_quiet (fail)
        go_wp2
        go_roundw
        case rel => exact ⟨k + 1, _, by omega, by go_num, unhide N, rfl⟩
        case measure => simp [intOf]; omega
      · have d1 : decide (rh < x) = false := by simpa using hx
        have N := hide (unhide D (fun r hr => by rw [unhide HG] at hr; cases hr; exact hx))
        clear D T HG
        go_wp2
        go_quiet (fail)
        go_wp2
        go_loopw [8] (fun i wr => ∃ m q : Nat, m ≤ (s.drop k).length ∧ i = .int .i64 ((k + m : Nat) : Int) ∧ lows ((s.drop k).take m) y = (s.drop k).take m ∧ wr = W.drewN q) (fun i _ => s.length - (intOf i).toNat)
        case atStart => exact ⟨0, _, Nat.zero_le _, by go_num, rfl, by first | exact drewN2 _ _ _ | rfl⟩
        case round =>
          obtain ⟨m, q2, hm, rfl, hlo, rfl⟩ := hrel
          have hdl : (s.drop k).length = s.length - k := by simp
          by_cases hlt2 : k + m < s.length
          · have hgk2 : s[k + m]? = some s[k + m] := List.getElem?_eq_getElem hlt2
            have hgd : (s.drop k)[m]? = some s[k + m] := by rw [List.getElem?_drop]; exact hgk2
            obtain ⟨g2, o2, hga2, hgl2, c2, c3⟩ := unhide C (k + m) s[k + m] hgk2
            have T2 := hide (fun h => lows_take hgd hlo h)
            have D2 := hide (fun h => lows_at hlo (y := y) h)
            rw [← hb0.cell (p := ⟨g2, _, none⟩) hgl2] at c2 c3
            have hik2 : (0 : Int) ≤ ((k + m : Nat) : Int) := by omega
            have hil2 : ((k + m : Nat) : Int) < (s.length : Int) := by omega
            have HG2 := hide hgd
            generalize s[k + m] = r2 at *
            obtain ⟨rl2, rh2⟩ := r2
            simp only at c2 c3 T2
            clear hlo hgk2 hgd
            cases hga2
            by_cases hx2 : rl2 ≤ y
            · have d2 : decide (rl2 ≤ y) = true := by simpa using hx2
              have N2 := hide (unhide T2 hx2)
              clear D2 HG2 T2
              obtain ⟨j, hj⟩ : ∃ j, j = k + m := ⟨_, rfl⟩
              have HJ := hide hj
              rw [← hj] at c2 c3 hik2 hil2 hlt2 ⊢
              clear hj
              go_wp2
              go_quiet (fail)
              go_wp2
              go_roundw
              case rel => exact ⟨m + 1, _, by rw [hdl]; have := unhide HJ; omega, by have := unhide HJ; go_num, unhide N2, rfl⟩
              case measure => simp [intOf]; omega
            · have d2 : decide (rl2 ≤ y) = false := by simpa using hx2
              have N2 := hide (unhide D2 (fun r hr => by rw [unhide HG2] at hr; cases hr; exact hx2))
              clear D2 T2 HG2
              obtain ⟨j, hj⟩ : ∃ j, j = k + m := ⟨_, rfl⟩
              have HJ := hide hj
              rw [← hj] at c2 c3 hik2 hil2 hlt2 ⊢
              clear hj
              have FIN := hide (fun W' => impl_cut_any s _ k j w0 W' hs (unhide H) (by have := unhide HJ; omega) (by omega))
              go_wp2
              go_quiet (fail)
              go_wp2_with fail
              refine (unhide FIN _).mono ?_
              rintro e w1 ⟨⟨v1, v2, v3, rfl, r1, r2, r3⟩, q3, rfl⟩
              have R1 : Hid (ReadO w0 v1 (aheadL s x)) := by show ReadO _ _ _; rw [(unhide N).1]; exact r1
              have R2 : Hid (ReadO w0 v2 (metL s x y)) := by
                show ReadO _ _ (lows (restL s x) y)
                rw [(unhide N).2, (unhide N2).1]
                have e : j - k = m := by have := unhide HJ; omega
                rw [e] at r2
                exact r2
              have R3 : Hid (ReadO w0 v3 (behindL s x y)) := by
                show ReadO _ _ ((restL s x).dropWhile fun r => decide (r.lo ≤ y))
                rw [(unhide N).2, (unhide N2).2, List.drop_drop]
                have e : k + m = j := by have := unhide HJ; omega
                rw [e]
                exact r3
              clear r1 r2 r3 N N2 HJ
              go_wp2
              go_returns
              exact ⟨_, _, _, rfl, unhide R1, unhide R2, unhide R3, b_drewN hb0 _⟩
          · have em : m = (s.drop k).length := by omega
            have N2 := hide (lows_at hlo (y := y) (fun r hr => by rw [List.getElem?_eq_none (by omega)] at hr; cases hr))
            clear hlo
            obtain ⟨j, hj⟩ : ∃ j, j = k + m := ⟨_, rfl⟩
            have HJ := hide hj
            rw [← hj] at hlt2 ⊢
            have hjl : j = s.length := by omega
            clear hj
            have FIN := hide (fun W' => impl_cut_any s _ k j w0 W' hs (unhide H) (by have := unhide HJ; omega) (by omega))
            have HM := hide em
            clear em
            subst hjl
            go_wp2
            go_quiet (fail)
            go_wp2_with fail
            refine (unhide FIN _).mono ?_
            rintro e w1 ⟨⟨v1, v2, v3, rfl, r1, r2, r3⟩, q3, rfl⟩
            have R1 : Hid (ReadO w0 v1 (aheadL s x)) := by show ReadO _ _ _; rw [(unhide N).1]; exact r1
            have R2 : Hid (ReadO w0 v2 (metL s x y)) := by
              show ReadO _ _ (lows (restL s x) y)
              rw [(unhide N).2, (unhide N2).1]
              have e : s.length - k = m := by have := unhide HJ; omega
              rw [e] at r2
              exact r2
            have R3 : Hid (ReadO w0 v3 (behindL s x y)) := by
              show ReadO _ _ ((restL s x).dropWhile fun r => decide (r.lo ≤ y))
              rw [(unhide N).2, (unhide N2).2, List.drop_drop]
              have e : k + m = s.length := by have := unhide HJ; omega
              rw [e]
              exact r3
            clear r1 r2 r3 N N2 HJ
            go_wp2
            go_returns
            exact ⟨_, _, _, rfl, unhide R1, unhide R2, unhide R3, b_drewN hb0 _⟩
    · obtain rfl : k = s.length := by omega
      have N := hide (ahead_at hah (x := x) (fun r hr => by simp at hr))
      clear hah
      go_wp2
      go_quiet (fail)
      go_wp2
      go_loopw [8] (fun i wr => ∃ m q : Nat, m ≤ (s.drop s.length).length ∧ i = .int .i64 ((s.length + m : Nat) : Int) ∧ lows ((s.drop s.length).take m) y = (s.drop s.length).take m ∧ wr = W.drewN q) (fun i _ => s.length - (intOf i).toNat)
      case atStart => exact ⟨0, _, Nat.zero_le _, by go_num, rfl, by first | exact drewN2 _ _ _ | rfl⟩
      case round =>
        obtain ⟨m, q2, hm, rfl, hlo, rfl⟩ := hrel
        have hdl : (s.drop s.length).length = s.length - s.length := by simp
        by_cases hlt2 : s.length + m < s.length
        · have hgk2 : s[s.length + m]? = some s[s.length + m] := List.getElem?_eq_getElem hlt2
          have hgd : (s.drop s.length)[m]? = some s[s.length + m] := by rw [List.getElem?_drop]; exact hgk2
          obtain ⟨g2, o2, hga2, hgl2, c2, c3⟩ := unhide C (s.length + m) s[s.length + m] hgk2
          have T2 := hide (fun h => lows_take hgd hlo h)
          have D2 := hide (fun h => lows_at hlo (y := y) h)
          rw [← hb0.cell (p := ⟨g2, _, none⟩) hgl2] at c2 c3
          have hik2 : (0 : Int) ≤ ((s.length + m : Nat) : Int) := by omega
          have hil2 : ((s.length + m : Nat) : Int) < (s.length : Int) := by omega
          have HG2 := hide hgd
          generalize s[s.length + m] = r2 at *
          obtain ⟨rl2, rh2⟩ := r2
          simp only at c2 c3 T2
          clear hlo hgk2 hgd
          subst hga2
          by_cases hx2 : rl2 ≤ y
          · have d2 : decide (rl2 ≤ y) = true := by simpa using hx2
            have N2 := hide (unhide T2 hx2)
            clear D2 HG2 T2
            obtain ⟨j, hj⟩ : ∃ j, j = s.length + m := ⟨_, rfl⟩
            have HJ := hide hj
            rw [← hj] at c2 c3 hik2 hil2 hlt2 ⊢
            clear hj
            go_wp2
            go_quiet (fail)
            go_wp2
            go_roundw
            case rel => exact ⟨m + 1, _, by rw [hdl]; have := unhide HJ; omega, by have := unhide HJ; go_num, unhide N2, rfl⟩
            case measure => simp [intOf]; omega
          · have d2 : decide (rl2 ≤ y) = false := by simpa using hx2
            have N2 := hide (unhide D2 (fun r hr => by rw [unhide HG2] at hr; cases hr; exact hx2))
            clear D2 T2 HG2
            obtain ⟨j, hj⟩ : ∃ j, j = s.length + m := ⟨_, rfl⟩
            have HJ := hide hj
            rw [← hj] at c2 c3 hik2 hil2 hlt2 ⊢
            clear hj
            have FIN := hide (fun W' => impl_cut_any s _ s.length j w0 W' hs (unhide H) (by have := unhide HJ; omega) (by omega))
            go_wp2
            go_quiet (fail)
            go_wp2_with fail
            refine (unhide FIN _).mono ?_
            rintro e w1 ⟨⟨v1, v2, v3, rfl, r1, r2, r3⟩, q3, rfl⟩
            have R1 : Hid (ReadO w0 v1 (aheadL s x)) := by show ReadO _ _ _; rw [(unhide N).1]; exact r1
            have R2 : Hid (ReadO w0 v2 (metL s x y)) := by
              show ReadO _ _ (lows (restL s x) y)
              rw [(unhide N).2, (unhide N2).1]
              have e : j - s.length = m := by have := unhide HJ; omega
              rw [e] at r2
              exact r2
            have R3 : Hid (ReadO w0 v3 (behindL s x y)) := by
              show ReadO _ _ ((restL s x).dropWhile fun r => decide (r.lo ≤ y))
              rw [(unhide N).2, (unhide N2).2, List.drop_drop]
              have e : s.length + m = j := by have := unhide HJ; omega
              rw [e]
              exact r3
            clear r1 r2 r3 N N2 HJ
            go_wp2
            go_returns
            exact ⟨_, _, _, rfl, unhide R1, unhide R2, unhide R3, b_drewN hb0 _⟩
        · have em : m = (s.drop s.length).length := by omega
          have N2 := hide (lows_at hlo (y := y) (fun r hr => by rw [List.getElem?_eq_none (by omega)] at hr; cases hr))
          clear hlo
          obtain ⟨j, hj⟩ : ∃ j, j = s.length + m := ⟨_, rfl⟩
          have HJ := hide hj
          rw [← hj] at hlt2 ⊢
          have hjl : j = s.length := by omega
          clear hj
          have FIN := hide (fun W' => impl_cut_any s _ s.length j w0 W' hs (unhide H) (by have := unhide HJ; omega) (by omega))
          have HM := hide em
          clear em
          subst hjl
          go_wp2
          go_quiet (fail)
          go_wp2_with fail
          refine (unhide FIN _).mono ?_
          rintro e w1 ⟨⟨v1, v2, v3, rfl, r1, r2, r3⟩, q3, rfl⟩
          have R1 : Hid (ReadO w0 v1 (aheadL s x)) := by show ReadO _ _ _; rw [(unhide N).1]; exact r1
          have R2 : Hid (ReadO w0 v2 (metL s x y)) := by
            show ReadO _ _ (lows (restL s x) y)
            rw [(unhide N).2, (unhide N2).1]
            have e : s.length - s.length = m := by have := unhide HJ; omega
            rw [e] at r2
            exact r2
          have R3 : Hid (ReadO w0 v3 (behindL s x y)) := by
            show ReadO _ _ ((restL s x).dropWhile fun r => decide (r.lo ≤ y))
            rw [(unhide N).2, (unhide N2).2, List.drop_drop]
            have e : s.length + m = s.length := by have := unhide HJ; omega
            rw [e]
            exact r3
          clear r1 r2 r3 N N2 HJ
          go_wp2
          go_returns
          exact ⟨_, _, _, rfl, unhide R1, unhide R2, unhide R3, b_drewN hb0 _⟩
end Go.Proofs.YtkmphclmealkeaaGreatDoor

/- copy(dst, src) of elements of several cells, dst lying in a row that is known whole. -/
namespace Go.Proofs.YtkmphclmealkeaaGreatDoor
open Go.RowKit
set_option linter.unusedVariables false

theorem run_copy_noneK {P : Program} (w : World) (dT sT ty elem : TypeId) (z : Nat) (d a : Option Addr) (dLen dCap sLen sCap : Nat) (hu : P.underlying dT = some (.slice elem)) (hs : (P.info? elem).map (·.size) = some z) (hn : Nat.min sLen dLen = 0) :
    (Builtin.copy_ #[dT, sT] ty #[.slice d dLen dCap, .slice a sLen sCap]).run P w = .ok (goInt 0) w := by
  cases hq : P.info? elem with
  | none => simp [hq] at hs
  | some i =>
    have hi : i.size = z := by simpa [hq] using hs
    have hl : ∀ (x : Addr), (loadCells x 0).run P w = .ok #[] w := fun x => by simpa using run_loadCells_list (P := P) w x [] (by simp)
    cases d <;> cases a <;> simp [Builtin.copy_, run_underlying hu, Builtin.lenOf, Builtin.firstCells, sizeOf, typeInfo, hq, hn, storeCells, hl]
theorem run_copy_rowK {P : Program} (w : World) (dT sT ty elem : TypeId) (z n : Nat) (g o dLen dCap : Nat) (a : Addr) (sLen sCap : Nat) (cur : Array Value) (t : TypeId) (cs : List Value)
    (hu : P.underlying dT = some (.slice elem)) (hs : (P.info? elem).map (·.size) = some z)
    (hg : w.heap[g]? = some (.cells cur t (0, 0))) (hm : Nat.min sLen dLen = n) (hn : cs.length = n * z)
    (hsrc : ∀ j v, cs[j]? = some v → w.cell? (a.add j) = some v) (hfit : o + cs.length ≤ cur.size) (h1 : ∀ v ∈ cs, v.oneCell' = true) :
    (Builtin.copy_ #[dT, sT] ty #[.slice (some ⟨g, o, none⟩) dLen dCap, .slice (some a) sLen sCap]).run P w =
      .ok (goInt n) (w.setRow g (cur.toList.take o ++ cs ++ cur.toList.drop (o + cs.length)).toArray) := by
  have hl := run_loadCells_list (P := P) w a cs hsrc
  have hst := run_storeCells_at P g o t cs 0 cur w hg (by simpa using hfit) h1
  cases hq : P.info? elem with
  | none => simp [hq] at hs
  | some i =>
    have hi : i.size = z := by simpa [hq] using hs
    simp [Builtin.copy_, run_underlying hu, Builtin.lenOf, Builtin.firstCells, sizeOf, typeInfo, hq, hi, hm, ← hn, hl, hst]

theorem wpList_copyK {P : Program} {w : World} {ops : Array Oper} {rest : List Oper} {o : Oper} {a : Act} {Q : Exit → Act → World → Prop} (hgd : o.guard = none) (d s : Operand) (dT sT : TypeId)
    (ho : o.op = .call { callee := .builtin .copy, args := #[d, s], argTypes := #[dT, sT] }) (elem : TypeId) (z n : Nat) (hu : P.underlying dT = some (.slice elem)) (hsz : (P.info? elem).map (·.size) = some z)
    (dp sp : Option Addr) (dLen dCap sLen sCap : Nat) (hd : a.eval d = .slice dp dLen dCap) (hs : a.eval s = .slice sp sLen sCap)
    (g off : Nat) (cur : List Value) (t : TypeId) (hg : w.heap[g]? = some (.cells cur.toArray t (0, 0))) (cs : List Value) (hm : Nat.min sLen dLen = n) (hn : cs.length = n * z)
    (hpos : 0 < n → dp = some ⟨g, off, none⟩ ∧ ∃ ad, sp = some ad ∧ ∀ j v, cs[j]? = some v → w.cell? (ad.add j) = some v)
    (hfit : off + cs.length ≤ cur.length) (h1 : ∀ v ∈ cs, v.oneCell' = true)
    (h : ∀ w', Hid (w'.heap[g]? = some (.cells (splice cur off cs).toArray t (0, 0))) → w.grownBy w' (some g) → wpList P ops Q rest (a.put o.dst (goInt n)) w') :
    wpList P ops Q (o :: rest) a w := by
  refine wpList_plain hgd fun K hK => ?_
  unfold Oper.wp
  by_cases h0 : n = 0
  · subst h0
    have hc : cs = [] := List.eq_nil_of_length_eq_zero (by omega)
    subst hc
    have hrun := run_copy_noneK (P := P) w dT sT o.type elem z dp sp dLen dCap sLen sCap hu hsz hm
    simp [execOp, ho, resolve, invoke, builtin, hd, hs, hrun, Result.andThen]
    exact hK _ _ (h w (show _ = _ by simpa [splice] using hg) (g_self w _))
  · obtain ⟨rfl, ad, rfl, hsrc⟩ := hpos (by omega)
    have hrun := run_copy_rowK (P := P) w dT sT o.type elem z n g off dLen dCap ad sLen sCap cur.toArray t cs hu hsz hg hm hn hsrc (by simpa using hfit) h1
    simp [execOp, ho, resolve, invoke, builtin, hd, hs, hrun, Result.andThen]
    have hs1 : (w.setRow g (cur.take off ++ (cs ++ cur.drop (off + cs.length))).toArray).heap[g]? = some (.cells (splice cur off cs).toArray t (0, 0)) := by
      simpa [splice] using setRow_heap w g _ (cur.take off ++ (cs ++ cur.drop (off + cs.length))).toArray t _ hg
    refine hK _ _ (h _ hs1 ⟨rfl, rfl, rfl, by simp [World.setRow], fun k hk hne => setRow_other w g k _ (fun e => hne (by rw [e]))⟩)
/-- The copy as an equation of its run, the world behind it told. -/
theorem run_copyK {P : Program} (w : World) (dT sT ty elem : TypeId) (z n : Nat) (g o dLen dCap : Nat) (a : Addr) (sLen sCap : Nat) (cur : List Value) (t : TypeId) (cs : List Value)
    (hu : P.underlying dT = some (.slice elem)) (hs : (P.info? elem).map (·.size) = some z)
    (hg : w.heap[g]? = some (.cells cur.toArray t (0, 0))) (hm : Nat.min sLen dLen = n) (hn : cs.length = n * z)
    (hsrc : ∀ j v, cs[j]? = some v → w.cell? (a.add j) = some v) (hfit : o + cs.length ≤ cur.length) (h1 : ∀ v ∈ cs, v.oneCell' = true) :
    ∃ w', (Builtin.copy_ #[dT, sT] ty #[.slice (some ⟨g, o, none⟩) dLen dCap, .slice (some a) sLen sCap]).run P w = .ok (goInt n) w' ∧
      w'.heap[g]? = some (.cells (splice cur o cs).toArray t (0, 0)) ∧ w.grownBy w' (some g) := by
  refine ⟨_, run_copy_rowK (P := P) w dT sT ty elem z n g o dLen dCap a sLen sCap cur.toArray t cs hu hs hg hm hn hsrc (by simpa using hfit) h1, ?_, ?_⟩
  · simpa [splice] using setRow_heap w g _ (cur.take o ++ (cs ++ cur.drop (o + cs.length))).toArray t _ hg
  · exact ⟨rfl, rfl, rfl, by simp [World.setRow], fun k hk hne => setRow_other w g k _ (fun e => hne (by rw [e]))⟩
theorem own_heap {w : World} {B g n z : Nat} {e : TypeId} {xs : List Value} (h : w.ownsRow B e z (.slice (some ⟨g, 0, none⟩) n n) n xs) : w.heap[g]? = some (.cells xs.toArray e (0, 0)) ∧ B ≤ g := by
  rcases h.2 with ⟨h1, _⟩ | ⟨g', cap, cur, h1, hb, hg, _, _, hc, ht⟩
  · cases h1
  · cases h1
    have : cur.toList = xs := by rw [← ht, List.take_of_length_le (by simp [hc])]
    rw [← this, hg]
    exact ⟨by simp, hb⟩
theorem heap_own {w : World} {B g n z : Nat} {e : TypeId} {xs : List Value} (h : w.heap[g]? = some (.cells xs.toArray e (0, 0))) (hb : B ≤ g) (hl : xs.length = n * z) (hm : n ≤ maxLen) : w.ownsRow B e z (.slice (some ⟨g, 0, none⟩) n n) n xs :=
  ⟨hl, .inr ⟨g, n, xs.toArray, rfl, hb, h, Nat.le_refl _, hm, by simp [hl], by simp [← hl]⟩⟩
end Go.Proofs.YtkmphclmealkeaaGreatDoor

/- The program's rows, put one behind the other in new memory. -/
namespace Go.Proofs.YtkmphclmealkeaaGreatDoor
open Go.RowKit Go.Deep
open Plain
set_option linter.unusedVariables false

def flatP (ps : List (Value × List Rg)) : List Rg := ps.flatMap (·.2)
theorem flatP_take {ps : List (Value × List Rg)} {k : Nat} {p : Value × List Rg} (h : ps[k]? = some p) : flatP (ps.take (k + 1)) = flatP (ps.take k) ++ p.2 := by
  unfold flatP
  rw [List.take_add_one, h]
  simp
theorem flatP_le (ps : List (Value × List Rg)) (k : Nat) : (flatP (ps.take k)).length ≤ (flatP ps).length := by
  have : flatP ps = flatP (ps.take k) ++ flatP (ps.drop k) := by unfold flatP; rw [← List.flatMap_append, List.take_append_drop]
  rw [this]; simp
/-- Rows in a row, each of which can be read. -/
def RowsO (w : World) (b : Nat) (ps : List (Value × List Rg)) : Prop := b < w.heap.size ∧ ∀ (i : Nat) (p : Value × List Rg), ps[i]? = some p → w.cell? ⟨b, i, none⟩ = some p.1 ∧ ReadO w p.1 p.2
theorem RowsO.up {w w' : World} {b : Nat} {ps : List (Value × List Rg)} (h : RowsO w b ps) (hb : Below w.heap.size w w') : RowsO w' b ps :=
  ⟨Nat.lt_of_lt_of_le h.1 hb.size, fun i p hp => ⟨g_cell hb (h.2 i p hp).1, (h.2 i p hp).2.up hb⟩⟩
theorem readO_cells {w : World} {g o n c : Nat} {l : List Rg} (h : ReadO w (.slice (some ⟨g, o, none⟩) n c) l) : ∀ j v, (rgs l)[j]? = some v → w.cell? ((⟨g, o, none⟩ : Addr).add j) = some v := by
  obtain ⟨a, c', hv, _, hc⟩ := h
  cases hv
  intro j v hj
  have hadd : (⟨g, o, none⟩ : Addr).add j = ⟨g, o + j, none⟩ := by unfold Addr.add; split <;> simp_all
  obtain ⟨q, r, rfl, hr⟩ : ∃ q r, j = q * 2 + r ∧ r < 2 := ⟨j / 2, j % 2, by omega, Nat.mod_lt _ (by omega)⟩
  have hq : q < l.length := by
    have := (List.getElem?_eq_some_iff.1 hj).1
    rw [rgs_length] at this
    omega
  have hx : l[q]? = some l[q] := List.getElem?_eq_getElem hq
  obtain ⟨g', o', hg, _, c0, c1⟩ := hc q _ hx
  cases hg
  rw [hadd]
  rw [rgs_get l q _ hx r hr] at hj
  match r, hr with
  | 0, _ =>
    simp [rgl] at hj
    rw [← hj]
    exact c0
  | 1, _ =>
    simp [rgl] at hj
    rw [← hj]
    exact c1
theorem rgs_one (l : List Rg) : ∀ v ∈ rgs l, v.oneCell' = true := by
  intro v hv
  unfold rgs at hv
  obtain ⟨r, _, hr⟩ := List.mem_flatMap.1 hv
  simp [rgl] at hr
  rcases hr with rfl | rfl <;> rfl
theorem splice_laid (d l : List Rg) (m : Nat) (h : l.length ≤ m) : splice (rgs (d ++ List.replicate m rg0)) (d.length * 2) (rgs l) = rgs (d ++ l ++ List.replicate (m - l.length) rg0) := by
  unfold splice
  have e : List.replicate m rg0 = List.replicate l.length rg0 ++ List.replicate (m - l.length) rg0 := by rw [List.replicate_append_replicate]; congr 1; omega
  rw [rgs_append, List.take_left' (by rw [rgs_length]), rgs_length, ← rgs_length d, ← List.drop_drop, List.drop_left, e, rgs_append, List.drop_left' (by simp [rgs_length]), List.append_assoc, rgs_append, rgs_append]

set_option maxHeartbeats 4000000 in
set_option maxRecDepth 100000 in
theorem impl_moved_full (ps : List (Value × List Rg)) (b c : Nat) (w : World) (hn : ps.length ≤ 3) (hs : (flatP ps).length ≤ 8000000) (h : RowsO w b ps) :
    Calls Tryz.prog 38 #[.slice (some ⟨b, 0, none⟩) ps.length c] w fun e w' => ∃ v, e = .returned v ∧ OwnR w.heap.size w' v (flatP ps) ∧ Below w.heap.size w w' ∧ ∃ g n c, v = .slice (some ⟨g, 0, none⟩) n c := by
  obtain ⟨i0, hi, hz0, hz1, hz2⟩ := info_parts Tryz.infoRange
  have hsz2 : (Tryz.prog.info? 32).map (·.size) = some 2 := by rw [hi]; exact congrArg some hz1
  have H := hide h
  clear h
  go_enter Tryz.func38, Tryz.ntmps38
  go_wp2
  go_loopw [3, 12] (fun z i wr => ∃ k : Nat, k ≤ ps.length ∧ i = .int .i64 k ∧ z = .int .i64 ((flatP (ps.take k)).length : Int) ∧ wr = w) (fun _ i _ => ps.length - (intOf i).toNat)
  case atStart => exact ⟨0, Nat.zero_le _, rfl, rfl, rfl⟩
  case round =>
    obtain ⟨k, hk, rfl, rfl, hw⟩ := hrel
    subst wr
    by_cases hlt : k < ps.length
    · have hgk : ps[k]? = some ps[k] := List.getElem?_eq_getElem hlt
      obtain ⟨c0, r0⟩ := (unhide H).2 k _ hgk
      have T := hide (flatP_take hgk)
      have hbk : b < w.heap.size := (unhide H).1
      have hle := flatP_le ps (k + 1)
      rw [unhide T, List.length_append] at hle
      have TL : Hid (((flatP (ps.take k)).length + ps[k].2.length : Nat) = (flatP (ps.take (k + 1))).length) := by rw [unhide T, List.length_append]; rfl
      generalize ps[k] = p at *
      obtain ⟨pv, pl⟩ := p
      obtain ⟨a, cp, hv, _, _⟩ := r0
      simp only at hv c0 hle TL T
      subst hv
      generalize (flatP (ps.take k)).length = z at *
      have hik : (0 : Int) ≤ (k : Int) := by omega
      have hil : (k : Int) < (ps.length : Int) := by omega
      have b1 : IntKind.i64.wrap ((z : Int) + (pl.length : Int)) = (z : Int) + (pl.length : Int) := by rw [IntKind.wrap_i64]; omega
      clear hgk T
      go_wp2
      go_roundw
      case rel => exact ⟨k + 1, by omega, by go_num, by rw [← unhide TL]; simp, trivial⟩
      case measure => simp [intOf]; omega
    · obtain rfl : k = ps.length := by omega
      rw [List.take_length]
      obtain ⟨F, hF⟩ : ∃ F, F = flatP ps := ⟨_, rfl⟩
      have HF := hide hF
      rw [← hF] at hs ⊢
      clear hF
      go_wp2_with (refine wpList_make_full _ rfl _ _ 47 rfl w.heap.size 32 i0 _ 2 Tryz.underlying47 hi hz0 hz1 .i64 .i64 _ _ F.length rfl rfl rfl rfl (by rw [hz2]; omega) (by unfold maxLen; omega) (Nat.le_refl _) ?_; intro wm hown hgm)
      rw [made_ranges] at hown
      have hh := (own_heap hown).1
      have hb0 := g_below hgm
      have hsz := (hown.lt _ rfl).2
      clear hown
      go_loopw [7, 25] (fun z i wr => ∃ k : Nat, k ≤ ps.length ∧ i = .int .i64 k ∧ z = .int .i64 ((flatP (ps.take k)).length : Int) ∧ wr.heap[w.heap.size]? = some (.cells (rgs (flatP (ps.take k) ++ List.replicate (F.length - (flatP (ps.take k)).length) rg0)).toArray 32 (0, 0)) ∧ Below w.heap.size w wr) (fun _ i _ => ps.length - (intOf i).toNat)
      case atStart => exact ⟨0, Nat.zero_le _, rfl, rfl, by simpa [flatP] using hh, hb0⟩
      case round =>
        obtain ⟨k, hk, rfl, rfl, hh1, hb1⟩ := hrel
        clear hh
        by_cases hlt : k < ps.length
        · have hgk : ps[k]? = some ps[k] := List.getElem?_eq_getElem hlt
          obtain ⟨c0, r0⟩ := ((unhide H).up hb1).2 k _ hgk
          have T := hide (flatP_take hgk)
          have hbk : b < w.heap.size := (unhide H).1
          have hle := flatP_le ps (k + 1)
          rw [unhide T, List.length_append, ← unhide HF] at hle
          generalize ps[k] = p at *
          obtain ⟨pv, pl⟩ := p
          have RR := hide r0
          obtain ⟨a, cp, hv, _, _⟩ := r0
          simp only at hv c0 hle T RR
          subst hv
          obtain ⟨d, hd⟩ : ∃ d, d = flatP (ps.take k) := ⟨_, rfl⟩
          rw [← hd] at hh1 hle T ⊢
          clear hd hgk
          obtain ⟨m, hm⟩ : ∃ m, m = F.length - d.length := ⟨_, rfl⟩
          rw [← hm] at hh1
          have hpm : pl.length ≤ m := by omega
          have NX := hide (splice_laid d pl m hpm)
          have DL : Hid (d.length + pl.length = (flatP (ps.take (k + 1))).length) := by rw [unhide T, List.length_append]; rfl
          have ML : Hid (m - pl.length = F.length - (flatP (ps.take (k + 1))).length) := by rw [← unhide DL]; show _ = _; omega
          have HH := hide hh1
          have FIT : Hid (d.length * 2 + (rgs pl).length ≤ (rgs (d ++ List.replicate m rg0)).length) := by rw [rgs_length, rgs_length]; simp; show _ ≤ _; omega
          clear hh1
          have hik : (0 : Int) ≤ (k : Int) := by omega
          have hil : (k : Int) < (ps.length : Int) := by omega
          have b1 : IntKind.i64.wrap ((d.length : Int) + (pl.length : Int)) = (d.length : Int) + (pl.length : Int) := by rw [IntKind.wrap_i64]; omega
          have hwr : w.heap.size ≤ wr.heap.size := hb1.size
          by_cases hp0 : pl = []
          · have DL0 : Hid (d.length = (flatP (ps.take (k + 1))).length) := by have := unhide DL; rw [hp0] at this; show _ = _; simpa using this
            have hmin : Hid (∀ x, Nat.min 0 x = 0) := fun x => Nat.zero_min x
            have PL : Hid (pl.length = 0) := by rw [hp0]; rfl
            have T0 : Hid (flatP (ps.take (k + 1)) = d) := by have := unhide T; rw [hp0, List.append_nil] at this; exact this
            have ML0 : Hid (m = F.length - d.length) := hm
            clear hm
            have p0 : pl.length = 0 := unhide PL
            by_cases hz : d.length = F.length
            · have hz2 : (d.length : Int) = (F.length : Int) := by omega
              have RUN := run_copy_noneK (P := Tryz.prog) wr 47 47 3 32 2 (some ⟨w.heap.size, 0, none⟩) a 0 0 0 cp Tryz.underlying47 hsz2 (Nat.zero_min _)
              go_wp2
              go_roundw
              case rel =>
                refine ⟨k + 1, by omega, by go_num, ?_, ?_, hb1⟩
                · rw [← unhide DL0]; simp; omega
                · have e := unhide HH
                  rw [unhide T0, ← unhide ML0]
                  exact e
              case measure => simp [intOf]; omega
            · have hz2 : (d.length : Int) < (F.length : Int) := by omega
              have RUN := run_copy_noneK (P := Tryz.prog) wr 47 47 3 32 2 (some ⟨w.heap.size, d.length * 2, none⟩) a (F.length - d.length) (F.length - d.length) 0 cp Tryz.underlying47 hsz2 (Nat.zero_min _)
              go_wp2
              go_roundw
              case rel =>
                refine ⟨k + 1, by omega, by go_num, ?_, ?_, hb1⟩
                · rw [← unhide DL0]
                · have e := unhide HH
                  rw [unhide T0, ← unhide ML0]
                  exact e
              case measure => simp [intOf]; omega
          · have hp1 := List.length_pos_iff.2 hp0
            have hdF : (d.length : Int) < (F.length : Int) := by omega
            obtain ⟨g, o, hga⟩ : ∃ g o, a = some ⟨g, o, none⟩ := by
              obtain ⟨_, _, hv, _, hc⟩ := unhide RR
              cases hv
              obtain ⟨g, o, hg, _⟩ := hc 0 (pl[0]'hp1) (List.getElem?_eq_getElem _)
              exact ⟨g, o, hg⟩
            subst hga
            obtain ⟨w2, RUN, hh2, hg2⟩ := run_copyK (P := Tryz.prog) wr 47 47 3 32 2 pl.length w.heap.size (d.length * 2) (F.length - d.length) (F.length - d.length) ⟨g, o, none⟩ pl.length cp (rgs (d ++ List.replicate m rg0)) 32 (rgs pl) Tryz.underlying47 hsz2 (unhide HH) (Nat.min_eq_left (by omega)) (rgs_length _) (readO_cells (unhide RR)) (unhide FIT) (rgs_one _)
            have H2 := hide hh2
            clear hh2
            go_wp2
            go_roundw
            case rel =>
              refine ⟨k + 1, by omega, by go_num, ?_, ?_, hb1.trans (g_belowB hg2 (Nat.le_refl _) hwr)⟩
              · rw [← unhide DL]; go_num
              · have e := unhide H2
                rw [unhide NX, ← unhide T, unhide ML] at e
                exact e
            case measure => simp [intOf]; omega
        · obtain rfl : k = ps.length := by omega
          rw [List.take_length, ← unhide HF, Nat.sub_self, List.replicate_zero, List.append_nil] at hh1
          have OWN : Hid (OwnR w.heap.size wr (.slice (some ⟨w.heap.size, 0, none⟩) F.length F.length) (flatP ps)) := by
            rw [← unhide HF]
            exact heap_own hh1 (Nat.le_refl _) (rgs_length _) (by unfold maxLen; omega)
          clear hh1
          go_wp2
          go_ret
          exact ⟨_, rfl, unhide OWN, hb1, _, _, _, rfl⟩
theorem impl_moved_any (ps : List (Value × List Rg)) (b c : Nat) (w : World) (hn : ps.length ≤ 3) (hs : (flatP ps).length ≤ 8000000) (h : RowsO w b ps) :
    Calls Tryz.prog 38 #[.slice (some ⟨b, 0, none⟩) ps.length c] w fun e w' => ∃ v, e = .returned v ∧ OwnR w.heap.size w' v (flatP ps) ∧ Below w.heap.size w w' :=
  (impl_moved_full ps b c w hn hs h).mono fun e w' ⟨v, h1, h2, h3, _⟩ => ⟨v, h1, h2, h3⟩
end Go.Proofs.YtkmphclmealkeaaGreatDoor

/- The program's sets: what became of one, or as it is; a range put behind a row. -/
namespace Go.Proofs.YtkmphclmealkeaaGreatDoor
open Go.RowKit
open Plain
set_option linter.unusedVariables false

theorem rows_one {W : World} {v : Value} {s : List Rg} (h : ReadO W v s) : RowsO (W.alloc (.cells #[v] 47)) W.heap.size [(v, s)] := by
  have hb : Below W.heap.size W (W.alloc (.cells #[v] 47)) := (Below.refl _ _).alloc (Nat.le_refl _) _
  refine ⟨by simp, fun i p hp => ?_⟩
  match i with
  | 0 =>
    simp at hp
    subst hp
    exact ⟨by simp, h.up hb⟩
  | i + 1 => simp at hp
theorem impl_moved_one (v : Value) (s : List Rg) (W : World) (hs : s.length ≤ 8000000) (h : ReadO W v s) :
    Calls Tryz.prog 38 #[.slice (some ⟨W.heap.size, 0, none⟩) 1 1] (W.alloc (.cells #[v] 47)) fun e w' => ∃ u, e = .returned u ∧ OwnR W.heap.size w' u s ∧ Below W.heap.size W w' := by
  have hb : Below W.heap.size W (W.alloc (.cells #[v] 47)) := (Below.refl _ _).alloc (Nat.le_refl _) _
  refine (impl_moved_any [(v, s)] W.heap.size 1 _ (by simp) (by simpa [flatP] using hs) (rows_one h)).mono ?_
  rintro e w' ⟨u, rfl, ho, hb2⟩
  refine ⟨u, rfl, ?_, hb.trans (hb2.mono hb.size)⟩
  have : flatP [(v, s)] = s := by simp [flatP]
  rw [this] at ho
  exact g_based ho hb.size

theorem impl_orAsItIs_any (s t : List Rg) (v u : Value) (B : Nat) (w : World) (hs : s.length ≤ 8000000) (ht : t.length ≤ 1048576) (h : ReadO w v s) (hu : OwnR B w u t) (hB : B ≤ w.heap.size) :
    Calls Tryz.prog 40 #[v, u] w fun e w' => ∃ v', e = .returned (.tuple #[v', .bool (okS t)]) ∧ OwnR B w' v' (if okS t = true then t else s) ∧ Below w.heap.size w w' := by
  have OK := impl_SetOk_any t u w ht hu.wide
  have HU := hide hu
  have H := hide h
  obtain ⟨a, c, rfl, _, _⟩ := id h
  obtain ⟨a2, c2, rfl⟩ := g_shape hu
  have MV := hide (fun W h => impl_moved_one (.slice a s.length c) s W hs h)
  cases ho : okS t with
  | false =>
    rw [ho] at OK
    have Q := hide OK
    clear OK hu h
    go_enter Tryz.func40, Tryz.ntmps40
    go_wp2_with fail
    refine (unhide Q).mono ?_
    rintro e w1 ⟨rfl, hb1⟩
    have M1 := hide (unhide MV w1 ((unhide H).up hb1))
    go_wp2_with fail
    refine (unhide M1).mono ?_
    rintro e w2 ⟨x, rfl, ho2, hb2⟩
    have O2 := hide ho2
    clear ho2
    go_wp2
    go_ret2
    exact ⟨_, rfl, g_based (unhide O2) (Nat.le_trans hB hb1.size), hb1.trans (hb2.mono hb1.size)⟩
  | true =>
    rw [ho] at OK
    have Q := hide OK
    clear OK hu h
    go_enter Tryz.func40, Tryz.ntmps40
    go_wp2_with fail
    refine (unhide Q).mono ?_
    rintro e w1 ⟨rfl, hb1⟩
    go_wp2
    go_ret2
    exact ⟨_, rfl, (unhide HU).up hb1, hb1⟩

set_option maxHeartbeats 2000000 in
theorem impl_withRange_any (l : List Rg) (v : Value) (x y : Int) (B : Nat) (w : World) (hs : l.length ≤ 1048576) (h : OwnR B w v l) (hB : B ≤ w.heap.size) :
    Calls Tryz.prog 42 #[v, .agg #[.int .i64 x, .int .i64 y]] w fun e w' => ∃ v', e = .returned v' ∧ OwnR B w' v' (withR l ⟨x, y⟩) ∧ w.grownBy w' v.ownBlock := by
  obtain ⟨i0, hi, hz0, hz1, hz2⟩ := info_parts Tryz.infoRange
  have hb0 : Below w.heap.size w (w.alloc (Obj.cells #[Value.int IntKind.i64 x, Value.int IntKind.i64 y] 32)) := (Below.refl _ _).alloc (Nat.le_refl _) _
  have O0 := hide (h.up hb0)
  unfold withR
  simp only
  by_cases hc : y < x
  · have d : decide (y < x) = true := by simpa using hc
    rw [if_pos hc]
    obtain ⟨a, c, rfl⟩ := g_shape h
    clear h
    go_enter Tryz.func42, Tryz.ntmps42
    go_wp2
    go_ret
    exact ⟨_, rfl, unhide O0, g_grown hb0 _⟩
  · have d : decide (y < x) = false := by simpa using hc
    rw [if_neg hc]
    obtain ⟨a, c, rfl⟩ := g_shape h
    clear h
    go_enter Tryz.func42, Tryz.ntmps42
    go_wp2_with (at_builtin; refine wpList_append_own _ rfl _ _ 47 rfl B 32 i0 _ 2 16 Tryz.underlying47 hi hz0 hz1 hz2 rfl (by decide) _ _ _ rfl ((unhide O0).alloc _) ⟨w.heap.size + 1, 0, none⟩ 1 1 [.int .i64 x, .int .i64 y] rfl rfl ?c1 ?c2 ?c3 ?c4 ?c5 ?_)
    case c2 => exact ⟨rfl, rfl⟩
    case c3 => unfold maxLen; omega
    case c4 => omega
    case c5 => omega
    intro v' w1 hown hgrow _
    have O1 : Hid (OwnR B w1 v' (l ++ [⟨x, y⟩])) := by
      show w1.ownsRow _ _ _ _ _ _
      rw [rgs_append, List.length_append]
      exact hown
    have G1 := hide (g_join (g_grown (hb0.alloc (by simp) (Obj.cells #[Value.int IntKind.i64 x, Value.int IntKind.i64 y] 32)) _) hgrow)
    clear hown hgrow
    go_wp2
    go_ret
    exact ⟨_, rfl, unhide O1, unhide G1⟩

theorem rows_three {W : World} {u v x : Value} {a b c : List Rg} (h1 : ReadO W u a) (h2 : ReadO W v b) (h3 : ReadO W x c) : RowsO (W.alloc (.cells #[u, v, x] 47)) W.heap.size [(u, a), (v, b), (x, c)] := by
  have hb : Below W.heap.size W (W.alloc (.cells #[u, v, x] 47)) := (Below.refl _ _).alloc (Nat.le_refl _) _
  refine ⟨by simp, fun i p hp => ?_⟩
  match i with
  | 0 => simp at hp; subst hp; exact ⟨by simp, h1.up hb⟩
  | 1 => simp at hp; subst hp; exact ⟨by simp, h2.up hb⟩
  | 2 => simp at hp; subst hp; exact ⟨by simp, h3.up hb⟩
  | i + 3 => simp at hp
theorem impl_moved_three (u v x : Value) (a b c : List Rg) (W : World) (hs : a.length + (b.length + c.length) ≤ 8000000) (h1 : ReadO W u a) (h2 : ReadO W v b) (h3 : ReadO W x c) :
    Calls Tryz.prog 38 #[.slice (some ⟨W.heap.size, 0, none⟩) 3 3] (W.alloc (.cells #[u, v, x] 47)) fun e w' => ∃ r, e = .returned r ∧ OwnR W.heap.size w' r (a ++ (b ++ c)) ∧ Below W.heap.size W w' := by
  have hb : Below W.heap.size W (W.alloc (.cells #[u, v, x] 47)) := (Below.refl _ _).alloc (Nat.le_refl _) _
  have hf : flatP [(u, a), (v, b), (x, c)] = a ++ (b ++ c) := by simp [flatP]
  refine (impl_moved_any [(u, a), (v, b), (x, c)] W.heap.size 3 _ (by simp) (by rw [hf]; simpa using hs) (rows_three h1 h2 h3)).mono ?_
  rintro e w' ⟨r, rfl, ho, hb2⟩
  refine ⟨r, rfl, ?_, hb.trans (hb2.mono hb.size)⟩
  rw [hf] at ho
  exact g_based ho hb.size
theorem rows_two {W : World} {u v : Value} {a b : List Rg} (h1 : ReadO W u a) (h2 : ReadO W v b) : RowsO (W.alloc (.cells #[u, v] 47)) W.heap.size [(u, a), (v, b)] := by
  have hb : Below W.heap.size W (W.alloc (.cells #[u, v] 47)) := (Below.refl _ _).alloc (Nat.le_refl _) _
  refine ⟨by simp, fun i p hp => ?_⟩
  match i with
  | 0 => simp at hp; subst hp; exact ⟨by simp, h1.up hb⟩
  | 1 => simp at hp; subst hp; exact ⟨by simp, h2.up hb⟩
  | i + 2 => simp at hp
theorem impl_moved_two (u v : Value) (a b : List Rg) (W : World) (hs : a.length + b.length ≤ 8000000) (h1 : ReadO W u a) (h2 : ReadO W v b) :
    Calls Tryz.prog 38 #[.slice (some ⟨W.heap.size, 0, none⟩) 2 2] (W.alloc (.cells #[u, v] 47)) fun e w' => ∃ r, e = .returned r ∧ OwnR W.heap.size w' r (a ++ b) ∧ Below W.heap.size W w' ∧ ∃ g n c, r = .slice (some ⟨g, 0, none⟩) n c := by
  have hb : Below W.heap.size W (W.alloc (.cells #[u, v] 47)) := (Below.refl _ _).alloc (Nat.le_refl _) _
  have hf : flatP [(u, a), (v, b)] = a ++ b := by simp [flatP]
  refine (impl_moved_full [(u, a), (v, b)] W.heap.size 2 _ (by simp) (by rw [hf]; simpa using hs) (rows_two h1 h2)).mono ?_
  rintro e w' ⟨r, rfl, ho, hb2, hr⟩
  refine ⟨r, rfl, ?_, hb.trans (hb2.mono hb.size), hr⟩
  rw [hf] at ho
  exact g_based ho hb.size
end Go.Proofs.YtkmphclmealkeaaGreatDoor

/- The program's SetAdd. -/
namespace Go.Proofs.YtkmphclmealkeaaGreatDoor
open Go.RowKit
open Plain
set_option linter.unusedVariables false

theorem put_fin {p : List Rg × Bool} {t s : List Rg} (h : p = if okS t = true then (t, true) else (s, false)) : p.2 = okS t ∧ p.1 = if okS t = true then t else s := by
  rw [h]
  cases okS t <;> exact ⟨rfl, rfl⟩
theorem spanL_snoc {r : Rg} {l : List Rg} {k : Nat} {m : Rg} (h : l[k]? = some m) : spanL r (l.take (k + 1)) = spanTo (spanL r (l.take k)) m := by
  unfold spanL
  rw [ok_snoc h, List.foldl_append]
  rfl

set_option maxHeartbeats 4000000 in
set_option maxRecDepth 100000 in
theorem impl_SetAdd_any (s : List Rg) (v : Value) (lo hi : Int) (w : World) (hs : s.length ≤ 1048576) (h : ReadO w v s) :
    Calls Tryz.prog 12 #[v, .int .i64 lo, .int .i64 hi] w fun e w' => ∃ v', e = .returned (.tuple #[v', .bool (putV s lo hi true).2]) ∧ OwnR w.heap.size w' v' (putV s lo hi true).1 ∧ Below w.heap.size w w' := by
  obtain ⟨a, c, rfl, _, _⟩ := id h
  have H := hide h
  clear h
  have hb0 : Below w.heap.size w (w.alloc (Obj.cells #[Value.int IntKind.i64 lo, Value.int IntKind.i64 hi] 32)) := (Below.refl _ _).alloc (Nat.le_refl _) _
  obtain ⟨W, hW⟩ : ∃ W, W = w.alloc (Obj.cells #[Value.int IntKind.i64 lo, Value.int IntKind.i64 hi] 32) := ⟨_, rfl⟩
  have e0 : W.cell? ⟨w.heap.size, 0, none⟩ = some (.int .i64 lo) := by rw [hW]; go_simp
  have e1 : W.cell? ⟨w.heap.size, 1, none⟩ = some (.int .i64 hi) := by rw [hW]; go_simp
  have f0 : W.frozen? ⟨w.heap.size, 0, none⟩ = false := by rw [hW]; go_simp
  have f1 : W.frozen? ⟨w.heap.size, 1, none⟩ = false := by rw [hW]; go_simp
  have hsz : w.heap.size < W.heap.size := by rw [hW]; simp
  have hbW : Below w.heap.size w W := by rw [hW]; exact hb0
  have HW := hide hW
  clear hW hb0
  have OK := hide (impl_SetOk_any s (.slice a s.length c) W hs ((unhide H).up hbW))
  have MV := hide (fun W' h => impl_moved_one (.slice a s.length c) s W' (by omega) h)
  by_cases hr : okS s = true ∧ rightB ⟨lo, hi⟩ = true
  · obtain ⟨hok, hrb⟩ := hr
    rw [hok] at OK
    have RO := hide (fun W' => impl_rangeOk_any ⟨lo, hi⟩ W')
    rw [hrb] at RO
    obtain ⟨q1, q2, q3⟩ := rightB_yes.1 hrb
    simp only at q1 q2 q3
    have b1 : IntKind.i64.wrap (lo - 1) = lo - 1 := by rw [IntKind.wrap_i64]; omega
    have b2 : IntKind.i64.wrap (hi + 1) = hi + 1 := by rw [IntKind.wrap_i64]; omega
    have CS := hide (fun W' h => impl_cutSet_any s (.slice a s.length c) (lo - 1) (hi + 1) w W' hs (unhide H) h)
    have PA := hide (put_fin (put_added (s := s) (lo := lo) (hi := hi) ⟨hok, q1, q2, q3⟩))
    go_enter Tryz.func12, Tryz.ntmps12
    go_wp2_with fail
    rw [← unhide HW]
    refine (unhide OK).mono ?_
    rintro e w1 ⟨rfl, hb1⟩
    have c0 := (hb1.cell (p := ⟨w.heap.size, 0, none⟩) hsz).trans e0
    have c1 := (hb1.cell (p := ⟨w.heap.size, 1, none⟩) hsz).trans e1
    go_wp2_with fail
    refine (unhide RO _).mono ?_
    rintro e w2 ⟨rfl, hb2⟩
    have hW2 := below2 hbW (below2 hb1 hb2)
    have hb12 := below2 hb1 hb2
    have cs2 := (unhide CS w2 ((unhide H).up hW2))
    have C2 := hide cs2
    clear cs2
    go_wp2_with fail
    refine (unhide C2).mono ?_
    rintro e w3 ⟨v1, v2, v3, rfl, r1, r2, r3, hb3⟩
    have R1 := hide r1
    have R3 := hide r3
    have hb23 := below2 hb12 hb3
    have g0 := (hb23.cell (p := ⟨w.heap.size, 0, none⟩) hsz).trans e0
    have g1 := (hb23.cell (p := ⟨w.heap.size, 1, none⟩) hsz).trans e1
    have k0 : w3.frozen? ⟨w.heap.size, 0, none⟩ = false := (World.frozen?_of_block (a := ⟨w.heap.size, 0, none⟩) (hb23.block _ hsz)).trans f0
    have k1 : w3.frozen? ⟨w.heap.size, 1, none⟩ = false := (World.frozen?_of_block (a := ⟨w.heap.size, 1, none⟩) (hb23.block _ hsz)).trans f1
    have hW3 := below2 hbW hb23
    have hz3 : w.heap.size < w3.heap.size := Nat.lt_of_lt_of_le hsz hb23.size
    clear c0 c1 e0 e1 f0 f1 hb1 hb2 hb12 hb3 hb23 hW2 hbW OK RO CS C2 r1 r3
    obtain ⟨L, hL⟩ : ∃ L, L = metL s (lo - 1) (hi + 1) := ⟨_, rfl⟩
    rw [← hL] at r2
    have hLs : L.length ≤ 1048576 := by
      have := congrArg List.length (cut_all s (lo - 1) (hi + 1))
      rw [hL]
      simp at this
      omega
    have HL := hide hL
    clear hL
    obtain ⟨ma, mc, rfl, hmc, hmr⟩ := id r2
    have M := hide r2
    clear r2 hmc hmr
    go_wp2
    go_loopw [41] (fun i wr => ∃ k : Nat, k ≤ L.length ∧ i = .int .i64 k ∧ wr.cell? ⟨w.heap.size, 0, none⟩ = some (.int .i64 (spanL ⟨lo, hi⟩ (L.take k)).lo) ∧ wr.cell? ⟨w.heap.size, 1, none⟩ = some (.int .i64 (spanL ⟨lo, hi⟩ (L.take k)).hi) ∧ wr.frozen? ⟨w.heap.size, 0, none⟩ = false ∧ wr.frozen? ⟨w.heap.size, 1, none⟩ = false ∧ Below w.heap.size w wr ∧ w.heap.size < wr.heap.size) (fun i _ => L.length - (intOf i).toNat)
    case atStart => exact ⟨0, Nat.zero_le _, rfl, g0, g1, k0, k1, hW3, hz3⟩
    case round =>
      obtain ⟨k, hk, rfl, c0, c1, f0, f1, hbel, hzr⟩ := hrel
      clear g0 g1 k0 k1
      by_cases hlt : k < L.length
      · have hgk : L[k]? = some L[k] := List.getElem?_eq_getElem hlt
        obtain ⟨ma', mc', hv', _, hc'⟩ := (unhide M).up hbel
        cases hv'
        obtain ⟨g, o, hga, hgl, d0, d1⟩ := hc' k _ hgk
        subst hga
        have T := hide (spanL_snoc (r := ⟨lo, hi⟩) hgk)
        generalize L[k] = m at *
        obtain ⟨ml, mh⟩ := m
        simp only at d0 d1
        generalize spanL ⟨lo, hi⟩ (L.take k) = sp at *
        obtain ⟨sl, sh⟩ := sp
        simp only at c0 c1
        have hik : (0 : Int) ≤ (k : Int) := by omega
        have hil : (k : Int) < (L.length : Int) := by omega
        have hwr : w.heap.size ≤ wr.heap.size := hbel.size
        have hne : w.heap.size ≠ wr.heap.size := by omega
        clear hgk hc'
        go_wp2
        obtain ⟨W1, hW1⟩ : ∃ W1, W1 = wr.alloc (Obj.cells #[Value.int IntKind.i64 ml, Value.int IntKind.i64 mh] 32) := ⟨_, rfl⟩
        have hA : Below wr.heap.size wr W1 := by rw [hW1]; exact (Below.refl _ _).alloc (Nat.le_refl _) _
        have s0 := (hA.cell (p := ⟨w.heap.size, 0, none⟩) hzr).trans c0
        have s1 := (hA.cell (p := ⟨w.heap.size, 1, none⟩) hzr).trans c1
        have z0 : W1.frozen? ⟨w.heap.size, 0, none⟩ = false := (World.frozen?_of_block (a := ⟨w.heap.size, 0, none⟩) (hA.block _ hzr)).trans f0
        have z1 : W1.frozen? ⟨w.heap.size, 1, none⟩ = false := (World.frozen?_of_block (a := ⟨w.heap.size, 1, none⟩) (hA.block _ hzr)).trans f1
        have s2 : W1.cell? ⟨wr.heap.size, 0, none⟩ = some (.int .i64 ml) := by rw [hW1]; go_simp
        have s3 : W1.cell? ⟨wr.heap.size, 1, none⟩ = some (.int .i64 mh) := by rw [hW1]; go_simp
        have hB1 : Below w.heap.size w W1 := hbel.trans (hA.mono hwr)
        have hz1 : w.heap.size < W1.heap.size := Nat.lt_of_lt_of_le hzr hA.size
        rw [← hW1]
        clear hW1 hA c0 c1 f0 f1 d0 d1
        go_region
        have X0 : Hid ((if ml < sl then ml else sl) = (spanL ⟨lo, hi⟩ (L.take (k + 1))).lo) := by
          rw [unhide T]; show _ = min sl ml; split <;> omega
        have X1 : Hid ((if sh < mh then mh else sh) = (spanL ⟨lo, hi⟩ (L.take (k + 1))).hi) := by
          rw [unhide T]; show _ = max sh mh; split <;> omega
        generalize (if ml < sl then ml else sl) = x0 at *
        generalize (if sh < mh then mh else sh) = x1 at *
        have ne01 : (⟨w.heap.size, 0, none⟩ : Addr) ≠ ⟨w.heap.size, 1, none⟩ := by simp
        have t0 := World.cell?_setCell_same W1 ⟨w.heap.size, 0, none⟩ (.int .i64 x0) s0
        have t1 := (World.cell?_setCell_other W1 ⟨w.heap.size, 0, none⟩ ⟨w.heap.size, 1, none⟩ (.int .i64 x0) ne01).trans s1
        have u0 := (World.cell?_setCell_other (W1.setCell ⟨w.heap.size, 0, none⟩ (.int .i64 x0)) ⟨w.heap.size, 1, none⟩ ⟨w.heap.size, 0, none⟩ (.int .i64 x1) (Ne.symm ne01)).trans t0
        have u1 := World.cell?_setCell_same (W1.setCell ⟨w.heap.size, 0, none⟩ (.int .i64 x0)) ⟨w.heap.size, 1, none⟩ (.int .i64 x1) t1
        have U0 : Hid (((W1.setCell ⟨w.heap.size, 0, none⟩ (.int .i64 x0)).setCell ⟨w.heap.size, 1, none⟩ (.int .i64 x1)).drew.cell? ⟨w.heap.size, 0, none⟩ = some (.int .i64 x0)) := u0
        have U1 : Hid (((W1.setCell ⟨w.heap.size, 0, none⟩ (.int .i64 x0)).setCell ⟨w.heap.size, 1, none⟩ (.int .i64 x1)).drew.cell? ⟨w.heap.size, 1, none⟩ = some (.int .i64 x1)) := u1
        have Z0 : Hid (((W1.setCell ⟨w.heap.size, 0, none⟩ (.int .i64 x0)).setCell ⟨w.heap.size, 1, none⟩ (.int .i64 x1)).drew.frozen? ⟨w.heap.size, 0, none⟩ = false) := by show ((W1.setCell _ _).setCell _ _).frozen? _ = false; rw [World.frozen?_setCell, World.frozen?_setCell]; exact z0
        have Z1 : Hid (((W1.setCell ⟨w.heap.size, 0, none⟩ (.int .i64 x0)).setCell ⟨w.heap.size, 1, none⟩ (.int .i64 x1)).drew.frozen? ⟨w.heap.size, 1, none⟩ = false) := by show ((W1.setCell _ _).setCell _ _).frozen? _ = false; rw [World.frozen?_setCell, World.frozen?_setCell]; exact z1
        have hB2 := ((hB1.setCell (p := ⟨w.heap.size, 0, none⟩) (Nat.le_refl _) (.int .i64 x0)).setCell (p := ⟨w.heap.size, 1, none⟩) (Nat.le_refl _) (.int .i64 x1)).drew
        have hz2 : w.heap.size < ((W1.setCell ⟨w.heap.size, 0, none⟩ (.int .i64 x0)).setCell ⟨w.heap.size, 1, none⟩ (.int .i64 x1)).drew.heap.size := by simpa using hz1
        clear t0 t1 u0 u1 s0 s1 s2 s3 z0 z1 hB1 hz1
        generalize ((W1.setCell ⟨w.heap.size, 0, none⟩ (.int .i64 x0)).setCell ⟨w.heap.size, 1, none⟩ (.int .i64 x1)).drew = W2 at *
        go_wp2
        go_roundw
        case rel => exact ⟨k + 1, by omega, by go_num, by rw [← unhide X0]; exact unhide U0, by rw [← unhide X1]; exact unhide U1, unhide Z0, unhide Z1, hB2, hz2⟩
        case measure => simp [intOf]; omega
      · obtain rfl : k = L.length := by omega
        rw [List.take_length] at c0 c1
        have AD : Hid (addedL s lo hi = aheadL s (lo - 1) ++ ([spanL ⟨lo, hi⟩ L] ++ behindL s (lo - 1) (hi + 1))) := by rw [unhide HL]; rfl
        generalize spanL ⟨lo, hi⟩ L = sp at *
        obtain ⟨sl, sh⟩ := sp
        simp only at c0 c1
        have hln : (addedL s lo hi).length ≤ s.length + 1 := by
          rw [unhide AD]
          have := congrArg List.length (cut_all s (lo - 1) (hi + 1))
          simp at this ⊢
          omega
        have hln2 : (aheadL s (lo - 1)).length + ([(⟨sl, sh⟩ : Rg)].length + (behindL s (lo - 1) (hi + 1)).length) ≤ 8000000 := by
          have := congrArg List.length (unhide AD)
          simp at this ⊢
          omega
        obtain ⟨W1, hW1⟩ : ∃ W1, W1 = wr.alloc (Obj.cells #[Value.int IntKind.i64 sl, Value.int IntKind.i64 sh] 32) := ⟨_, rfl⟩
        have hA : Below wr.heap.size wr W1 := by rw [hW1]; exact (Below.refl _ _).alloc (Nat.le_refl _) _
        have hwr : w.heap.size ≤ wr.heap.size := hbel.size
        have hB1 : Below w.heap.size w W1 := hbel.trans (hA.mono hwr)
        have rm : ReadO W1 (.slice (some ⟨wr.heap.size, 0, none⟩) 1 1) [⟨sl, sh⟩] := by
          refine ⟨_, _, rfl, Nat.le_refl _, fun k x hx => ?_⟩
          match k with
          | 0 =>
            simp at hx
            subst hx
            refine ⟨wr.heap.size, 0, rfl, by rw [hW1]; simp, ?_, ?_⟩
            · rw [hW1]; go_simp
            · rw [hW1]; go_simp
          | k + 1 => simp at hx
        have M3 := hide (impl_moved_three v1 (.slice (some ⟨wr.heap.size, 0, none⟩) 1 1) v3 _ _ _ W1 hln2 ((unhide R1).up hB1) rm ((unhide R3).up hB1))
        have e1 : wr.heap.size + 1 = W1.heap.size := by rw [hW1]; simp
        obtain ⟨a1, c1', hv1, _, _⟩ := unhide R1
        obtain ⟨a3, c3', hv3, _, _⟩ := unhide R3
        subst hv1
        subst hv3
        have HE := hide e1
        have HW1 := hide hW1
        clear hW1 hA e1 rm
        go_wp2_with fail
        rw [← unhide HW1, unhide HE]
        refine (unhide M3).mono ?_
        rintro e w5 ⟨r5, rfl, o5, hb5⟩
        have hW5 : Below w.heap.size w w5 := hB1.trans (hb5.mono hB1.size)
        have O5 : OwnR w.heap.size w5 r5 (addedL s lo hi) := by rw [unhide AD]; exact g_based o5 hB1.size
        have OA := hide (impl_orAsItIs_any s (addedL s lo hi) (.slice a s.length c) r5 w.heap.size w5 (by omega) (by have := (okS_parts hok).2; omega) ((unhide H).up hW5) O5 hW5.size)
        obtain ⟨a5, c5, rfl⟩ := g_shape O5
        clear o5 O5
        go_wp2_with fail
        refine (unhide OA).mono ?_
        rintro e w6 ⟨v6, rfl, o6, hb6⟩
        have O6 := hide o6
        have hW6 : Below w.heap.size w w6 := hW5.trans (hb6.mono hW5.size)
        clear o6
        go_wp2
        go_ret2
        exact ⟨v6, by rw [(unhide PA).1]; rfl, by rw [(unhide PA).2]; exact unhide O6, hW6⟩
  · have PN := hide (putV_no (s := s) (lo := lo) (hi := hi) (c := true) (fun h => hr ⟨h.1, rightB_yes.2 h.2⟩))
    cases hok : okS s with
    | false =>
      rw [hok] at OK
      go_enter Tryz.func12, Tryz.ntmps12
      go_wp2_with fail
      rw [← unhide HW]
      refine (unhide OK).mono ?_
      rintro e w1 ⟨rfl, hb1⟩
      have hW1 := below2 hbW hb1
      have M1 := hide (unhide MV w1 ((unhide H).up hW1))
      go_wp2_with fail
      refine (unhide M1).mono ?_
      rintro e w2 ⟨u2, rfl, o2, hb2⟩
      have O2 := hide o2
      clear o2
      go_wp2
      go_ret2
      exact ⟨_, by rw [unhide PN]; rfl, by rw [unhide PN]; exact g_based (unhide O2) hW1.size, hW1.trans (hb2.mono hW1.size)⟩
    | true =>
      have hrb : rightB ⟨lo, hi⟩ = false := by cases hx : rightB ⟨lo, hi⟩ with | false => rfl | true => exact absurd ⟨hok, hx⟩ hr
      rw [hok] at OK
      have RO := hide (fun W' => impl_rangeOk_any ⟨lo, hi⟩ W')
      rw [hrb] at RO
      go_enter Tryz.func12, Tryz.ntmps12
      go_wp2_with fail
      rw [← unhide HW]
      refine (unhide OK).mono ?_
      rintro e w1 ⟨rfl, hb1⟩
      have c0 := (hb1.cell (p := ⟨w.heap.size, 0, none⟩) hsz).trans e0
      have c1 := (hb1.cell (p := ⟨w.heap.size, 1, none⟩) hsz).trans e1
      go_wp2_with fail
      refine (unhide RO _).mono ?_
      rintro e w2 ⟨rfl, hb2⟩
      have hW2 := below2 hbW (below2 hb1 hb2)
      have M1 := hide (unhide MV w2 ((unhide H).up hW2))
      clear c0 c1
      go_wp2_with fail
      refine (unhide M1).mono ?_
      rintro e w3 ⟨u3, rfl, o3, hb3⟩
      have O3 := hide o3
      clear o3
      go_wp2
      go_ret2
      exact ⟨_, by rw [unhide PN]; rfl, by rw [unhide PN]; exact g_based (unhide O3) hW2.size, hW2.trans (hb3.mono hW2.size)⟩
end Go.Proofs.YtkmphclmealkeaaGreatDoor

/- The program's SetDrop. -/
namespace Go.Proofs.YtkmphclmealkeaaGreatDoor
open Go.RowKit
open Plain
set_option linter.unusedVariables false

theorem flat_snoc {f : Rg → List Rg} {l : List Rg} {k : Nat} {m : Rg} (h : l[k]? = some m) : (l.take (k + 1)).flatMap f = (l.take k).flatMap f ++ f m := by
  rw [ok_snoc h, List.flatMap_append]
  simp
theorem flat_len {f : Rg → List Rg} {n : Nat} (h : ∀ r, (f r).length ≤ n) (l : List Rg) : (l.flatMap f).length ≤ l.length * n := by
  induction l with
  | nil => simp
  | cons u t ih =>
    rw [List.flatMap_cons, List.length_append, List.length_cons, Nat.add_mul]
    have := h u
    omega

set_option maxHeartbeats 4000000 in
set_option maxRecDepth 100000 in
theorem impl_SetDrop_any (s : List Rg) (v : Value) (lo hi : Int) (w : World) (hs : s.length ≤ 1048576) (h : ReadO w v s) :
    Calls Tryz.prog 14 #[v, .int .i64 lo, .int .i64 hi] w fun e w' => ∃ v', e = .returned (.tuple #[v', .bool (putV s lo hi false).2]) ∧ OwnR w.heap.size w' v' (putV s lo hi false).1 ∧ Below w.heap.size w w' := by
  obtain ⟨a, c, rfl, _, _⟩ := id h
  have H := hide h
  clear h
  have OK := hide (impl_SetOk_any s (.slice a s.length c) w hs (unhide H))
  have MV := hide (fun W' h => impl_moved_one (.slice a s.length c) s W' (by omega) h)
  by_cases hr : okS s = true ∧ rightB ⟨lo, hi⟩ = true
  · obtain ⟨hok, hrb⟩ := hr
    rw [hok] at OK
    have RO := hide (fun W' => impl_rangeOk_any ⟨lo, hi⟩ W')
    rw [hrb] at RO
    obtain ⟨q1, q2, q3⟩ := rightB_yes.1 hrb
    simp only at q1 q2 q3
    have b1 : IntKind.i64.wrap (lo - 1) = lo - 1 := by rw [IntKind.wrap_i64]; omega
    have b2 : IntKind.i64.wrap (hi + 1) = hi + 1 := by rw [IntKind.wrap_i64]; omega
    have CS := hide (fun W' h => impl_cutSet_any s (.slice a s.length c) lo hi w W' hs (unhide H) h)
    have PA := hide (put_fin (put_dropped (s := s) (lo := lo) (hi := hi) ⟨hok, q1, q2, q3⟩))
    have h40 := (okS_parts hok).2
    go_enter Tryz.func14, Tryz.ntmps14
    go_wp2_with fail
    refine (unhide OK).mono ?_
    rintro e w1 ⟨rfl, hb1⟩
    go_wp2_with fail
    refine (unhide RO _).mono ?_
    rintro e w2 ⟨rfl, hb2⟩
    have hW2 := below2 hb1 hb2
    have C2 := hide (unhide CS w2 ((unhide H).up hW2))
    go_wp2_with fail
    refine (unhide C2).mono ?_
    rintro e w3 ⟨v1, v2, v3, rfl, r1, r2, r3, hb3⟩
    have R1 := hide r1
    have R3 := hide r3
    have hW3 := below2 hW2 hb3
    clear hb1 hb2 hb3 hW2 OK RO CS C2 r1 r3
    obtain ⟨L, hL⟩ : ∃ L, L = metL s lo hi := ⟨_, rfl⟩
    rw [← hL] at r2
    have hLs : L.length ≤ 40 := by
      have := congrArg List.length (cut_all s lo hi)
      rw [hL]
      simp at this
      omega
    have HL := hide hL
    clear hL
    obtain ⟨ma, mc, rfl, hmc, hmr⟩ := id r2
    have M := hide r2
    clear r2 hmc hmr
    go_wp2
    go_loopw [11, 38] (fun u i wr => ∃ k : Nat, k ≤ L.length ∧ i = .int .i64 k ∧ OwnR w.heap.size wr u ((L.take k).flatMap (piecesL lo hi)) ∧ Below w.heap.size w wr) (fun _ i _ => L.length - (intOf i).toNat)
    case atStart => exact ⟨0, Nat.zero_le _, rfl, ⟨rfl, .inl ⟨rfl, rfl⟩⟩, hW3⟩
    case round =>
      obtain ⟨k, hk, rfl, how, hbel⟩ := hrel
      by_cases hlt : k < L.length
      · have hgk : L[k]? = some L[k] := List.getElem?_eq_getElem hlt
        obtain ⟨ma', mc', hv', _, hc'⟩ := (unhide M).up hbel
        cases hv'
        obtain ⟨g, o, hga, hgl, d0, d1⟩ := hc' k _ hgk
        subst hga
        have T := hide (flat_snoc (f := piecesL lo hi) hgk)
        have FL := flat_len (pieces_length lo hi) (L.take k)
        have FK : (L.take k).length = k := by simp; omega
        generalize L[k] = m at *
        obtain ⟨ml, mh⟩ := m
        simp only at d0 d1
        generalize (L.take k).flatMap (piecesL lo hi) = pl at *
        have hik : (0 : Int) ≤ (k : Int) := by omega
        have hil : (k : Int) < (L.length : Int) := by omega
        have hwr : w.heap.size ≤ wr.heap.size := hbel.size
        clear hgk hc'
        obtain ⟨W1, hW1⟩ : ∃ W1, W1 = wr.alloc (Obj.cells #[Value.int IntKind.i64 ml, Value.int IntKind.i64 mh] 32) := ⟨_, rfl⟩
        have hA : Below wr.heap.size wr W1 := by rw [hW1]; exact (Below.refl _ _).alloc (Nat.le_refl _) _
        have s0 : W1.cell? ⟨wr.heap.size, 0, none⟩ = some (.int .i64 ml) := by rw [hW1]; go_simp
        have s1 : W1.cell? ⟨wr.heap.size, 1, none⟩ = some (.int .i64 mh) := by rw [hW1]; go_simp
        have hsz1 : wr.heap.size < W1.heap.size := by rw [hW1]; simp
        have hB1 : Below w.heap.size w W1 := hbel.trans (hA.mono hwr)
        have O1 : OwnR w.heap.size W1 u11 pl := how.up hA
        have hlt1 : ∀ b, u11.ownBlock = some b → w.heap.size ≤ b ∧ b < wr.heap.size := fun b hb => how.lt b hb
        have X1 := hide (impl_withRange_any pl u11 ml (lo - 1) w.heap.size W1 (by omega) O1 hB1.size)
        obtain ⟨ua, uc, rfl⟩ := g_shape how
        have HW1 := hide hW1
        have HLT := hide hlt1
        clear hW1 hlt1 how O1
        go_wp2_with fail
        rw [← unhide HW1]
        refine (unhide X1).mono ?_
        rintro e w4 ⟨u4, rfl, o4, g4⟩
        have s4 : w4.cell? ⟨wr.heap.size, 1, none⟩ = some (.int .i64 mh) := (World.cell?_of_block (a := ⟨wr.heap.size, 1, none⟩) (g4.block _ hsz1 (fun e => absurd (unhide HLT wr.heap.size e.symm).2 (Nat.lt_irrefl _)))).trans s1
        have hB4 : Below w.heap.size w w4 := hB1.grown g4 hB1.size (fun b hb => (unhide HLT b hb).1)
        have hl4 : (withR pl ⟨ml, lo - 1⟩).length ≤ 1048576 := by have := withR_length pl ⟨ml, lo - 1⟩; omega
        have X2 := hide (impl_withRange_any _ u4 (hi + 1) mh w.heap.size w4 hl4 o4 hB4.size)
        have HLT4 : Hid (∀ b, u4.ownBlock = some b → w.heap.size ≤ b) := fun b hb => (o4.lt b hb).1
        obtain ⟨ua4, uc4, rfl⟩ := g_shape o4
        have PS := hide (pieces_step pl lo hi ⟨ml, mh⟩)
        clear o4 g4 X1 HW1 s0 s1
        go_wp2_with fail
        refine (unhide X2).mono ?_
        rintro e w5 ⟨u5, rfl, o5, g5⟩
        have hB5 : Below w.heap.size w w5 := hB4.grown g5 hB4.size (fun b hb => unhide HLT4 b hb)
        have O5 : Hid (OwnR w.heap.size w5 u5 ((L.take (k + 1)).flatMap (piecesL lo hi))) := by rw [unhide T, ← unhide PS]; exact o5
        clear o5 g5
        go_wp2
        go_roundw
        case rel => exact ⟨k + 1, by omega, by go_num, unhide O5, hB5⟩
        case measure => simp [intOf]; omega
      · obtain rfl : k = L.length := by omega
        rw [List.take_length] at how
        have AD : Hid (droppedL s lo hi = aheadL s lo ++ (L.flatMap (piecesL lo hi) ++ behindL s lo hi)) := by rw [unhide HL]; rfl
        have FL := flat_len (pieces_length lo hi) L
        have CL := congrArg List.length (cut_all s lo hi)
        simp at CL
        generalize L.flatMap (piecesL lo hi) = P at *
        have hln : (aheadL s lo).length + (P.length + (behindL s lo hi).length) ≤ 200 := by omega
        have hld : (droppedL s lo hi).length ≤ 200 := by rw [unhide AD]; simpa using hln
        have M3 := hide (impl_moved_three v1 u11 v3 _ _ _ wr (by omega) ((unhide R1).up hbel) how.wide ((unhide R3).up hbel))
        obtain ⟨a1, c1', hv1, _, _⟩ := unhide R1
        obtain ⟨a3, c3', hv3, _, _⟩ := unhide R3
        subst hv1
        subst hv3
        obtain ⟨ua, uc, rfl⟩ := g_shape how
        clear how CL FL
        go_wp2_with fail
        refine (unhide M3).mono ?_
        rintro e w5 ⟨r5, rfl, o5, hb5⟩
        have hW5 : Below w.heap.size w w5 := hbel.trans (hb5.mono hbel.size)
        have O5 : OwnR w.heap.size w5 r5 (droppedL s lo hi) := by rw [unhide AD]; exact g_based o5 hbel.size
        have OA := hide (impl_orAsItIs_any s (droppedL s lo hi) (.slice a s.length c) r5 w.heap.size w5 (by omega) (by omega) ((unhide H).up hW5) O5 hW5.size)
        obtain ⟨a5, c5, rfl⟩ := g_shape O5
        clear o5 O5
        go_wp2_with fail
        refine (unhide OA).mono ?_
        rintro e w6 ⟨v6, rfl, o6, hb6⟩
        have O6 := hide o6
        have hW6 : Below w.heap.size w w6 := hW5.trans (hb6.mono hW5.size)
        clear o6
        go_wp2
        go_ret2
        exact ⟨v6, by rw [(unhide PA).1]; rfl, by rw [(unhide PA).2]; exact unhide O6, hW6⟩
  · have PN := hide (putV_no (s := s) (lo := lo) (hi := hi) (c := false) (fun h => hr ⟨h.1, rightB_yes.2 h.2⟩))
    cases hok : okS s with
    | false =>
      rw [hok] at OK
      go_enter Tryz.func14, Tryz.ntmps14
      go_wp2_with fail
      refine (unhide OK).mono ?_
      rintro e w1 ⟨rfl, hb1⟩
      have M1 := hide (unhide MV w1 ((unhide H).up hb1))
      go_wp2_with fail
      refine (unhide M1).mono ?_
      rintro e w2 ⟨u2, rfl, o2, hb2⟩
      have O2 := hide o2
      clear o2
      go_wp2
      go_ret2
      exact ⟨_, by rw [unhide PN]; rfl, by rw [unhide PN]; exact g_based (unhide O2) hb1.size, hb1.trans (hb2.mono hb1.size)⟩
    | true =>
      have hrb : rightB ⟨lo, hi⟩ = false := by cases hx : rightB ⟨lo, hi⟩ with | false => rfl | true => exact absurd ⟨hok, hx⟩ hr
      rw [hok] at OK
      have RO := hide (fun W' => impl_rangeOk_any ⟨lo, hi⟩ W')
      rw [hrb] at RO
      go_enter Tryz.func14, Tryz.ntmps14
      go_wp2_with fail
      refine (unhide OK).mono ?_
      rintro e w1 ⟨rfl, hb1⟩
      go_wp2_with fail
      refine (unhide RO _).mono ?_
      rintro e w2 ⟨rfl, hb2⟩
      have hW2 := below2 hb1 hb2
      have M1 := hide (unhide MV w2 ((unhide H).up hW2))
      go_wp2_with fail
      refine (unhide M1).mono ?_
      rintro e w3 ⟨u3, rfl, o3, hb3⟩
      have O3 := hide o3
      clear o3
      go_wp2
      go_ret2
      exact ⟨_, by rw [unhide PN]; rfl, by rw [unhide PN]; exact g_based (unhide O3) hW2.size, hW2.trans (hb3.mono hW2.size)⟩
end Go.Proofs.YtkmphclmealkeaaGreatDoor
