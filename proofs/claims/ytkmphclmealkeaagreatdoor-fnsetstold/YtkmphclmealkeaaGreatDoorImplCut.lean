/- The program's sets: cut at two places. -/
import Derived.Test.YtkmphclmealkeaaGreatDoorImplOk
namespace Go.Proofs.YtkmphclmealkeaaGreatDoor
open Go.RowKit
open Plain
set_option linter.unusedVariables false
set_option maxHeartbeats 4000000 in
set_option maxRecDepth 100000 in
theorem impl_cut_any (s : List Rg) (v : Value) (f t : Nat) (w0 w : World) (hs : s.length ≤ 1048576) (h : ReadO w0 v s) (hf : f ≤ t) (ht : t ≤ s.length) :
    Calls Tryz.prog 60 #[v, .int .i64 f, .int .i64 t] w fun e w' => (∃ v1 v2 v3, e = .returned (.tuple #[v1, v2, v3]) ∧ ReadO w0 v1 (s.take f) ∧ ReadO w0 v2 ((s.drop f).take (t - f)) ∧ ReadO w0 v3 (s.drop t)) ∧ ∃ q, w' = w.drewN q := by
  have H := hide h
  obtain ⟨a, c, rfl, hcap, hc⟩ := h
  cases a with
  | none =>
    have h0 : s = [] := by
      cases s with
      | nil => rfl
      | cons x y => obtain ⟨g, o, hg, _⟩ := hc 0 x rfl; cases hg
    subst h0
    obtain rfl : t = 0 := by simpa using ht
    obtain rfl : f = 0 := by omega
    clear hc
    go_enter Tryz.func60, Tryz.ntmps60
    go_wp2
    go_quiet (fail)
    go_wp2
    go_returns
    exact ⟨⟨_, _, _, rfl, ReadO.nil _ _ _, ReadO.nil _ _ _, ReadO.nil _ _ _⟩, _, rfl⟩
  | some ad =>
    by_cases h0 : s = []
    · subst h0
      obtain rfl : t = 0 := by simpa using ht
      obtain rfl : f = 0 := by omega
      clear hc
      go_enter Tryz.func60, Tryz.ntmps60
      go_wp2
      go_quiet (fail)
      go_wp2
      go_returns
      exact ⟨⟨_, _, _, rfl, ReadO.nil _ _ _, ReadO.nil _ _ _, ReadO.nil _ _ _⟩, _, rfl⟩
    · obtain ⟨g, o, hg, _⟩ := hc 0 (s[0]'(List.length_pos_iff.2 h0)) (List.getElem?_eq_getElem _)
      cases hg
      have hpos := List.length_pos_iff.2 h0
      rename_i rr
      clear hc rr h0
      have P1 : Hid (ReadO w0 (.slice (some ⟨g, o, none⟩) f f) (s.take f)) := by have := (unhide H).piece 0 f f (by omega) (Nat.le_refl _) o (fun _ => by omega); show ReadO _ _ _; simpa using this
      have P2 : Hid (ReadO w0 (.slice (some ⟨g, o + f * 2, none⟩) (t - f) (t - f)) ((s.drop f).take (t - f))) := (unhide H).piece f (t - f) (t - f) (by omega) (Nat.le_refl _) (o + f * 2) (fun _ => rfl)
      have P3 : Hid (ReadO w0 (.slice (some ⟨g, o + t * 2, none⟩) (s.length - t) (s.length - t)) (s.drop t)) := by
        have := (unhide H).piece t (s.length - t) (s.length - t) (by omega) (Nat.le_refl _) (o + t * 2) (fun _ => rfl)
        rw [List.take_of_length_le (by simp)] at this
        exact this
      have P4 : Hid (s.length = t → ReadO w0 (.slice (some ⟨g, o, none⟩) 0 0) (s.drop t)) := fun h => by rw [List.drop_of_length_le (by omega)]; exact ReadO.nil _ _ _
      have i1 : (0 : Int) ≤ (f : Int) := by omega
      have i2 : (f : Int) ≤ (t : Int) := by omega
      have i3 : (t : Int) ≤ (s.length : Int) := by omega
      have i4 : (s.length : Int) ≤ (c : Int) := by omega
      have i5 : (f : Int) ≤ (c : Int) := by omega
      have i6 : (t : Int) ≤ (c : Int) := by omega
      go_enter Tryz.func60, Tryz.ntmps60
      go_wp2
      go_quiet (fail)
      go_wp2
      all_goals go_returns
      all_goals refine ⟨⟨_, _, _, rfl, unhide P1, ?_, ?_⟩, _, rfl⟩
      · exact ReadO.nil _ _ _
      · have e : t = f := by assumption
        subst e
        exact unhide P4 (by assumption)
      · exact ReadO.nil _ _ _
      · have e : t = f := by assumption
        subst e
        exact unhide P3
      · exact unhide P2
      · exact unhide P4 (by assumption)
      · exact unhide P2
      · exact unhide P3

namespace Plain
theorem ahead_take {s : List Rg} {x : Int} {k : Nat} {r : Rg} (hr : s[k]? = some r) (h : aheadL (s.take k) x = s.take k) (hx : r.hi < x) : aheadL (s.take (k + 1)) x = s.take (k + 1) := by
  rw [ok_snoc hr]
  unfold aheadL at h ⊢
  rw [List.takeWhile_append, h]
  simp [hx]
/-- As far as the first one that is not ahead. -/
theorem ahead_at {s : List Rg} {x : Int} {k : Nat} (h : aheadL (s.take k) x = s.take k) (hk : ∀ r, s[k]? = some r → ¬ r.hi < x) : aheadL s x = s.take k ∧ restL s x = s.drop k := by
  have e : aheadL s x = s.take k := by
    have hd : aheadL s x = aheadL (s.take k ++ s.drop k) x := by rw [List.take_append_drop]
    rw [hd]
    unfold aheadL at h ⊢
    rw [List.takeWhile_append, h, if_pos rfl]
    cases hs : s.drop k with
    | nil => simp
    | cons r t =>
      have hr : s[k]? = some r := by
        have := congrArg (fun l => l[0]?) hs
        simpa using this
      rw [List.takeWhile_cons_of_neg (by simpa using hk r hr)]
      simp
  refine ⟨e, ?_⟩
  have h2 : aheadL s x ++ restL s x = s.take k ++ s.drop k := by rw [List.take_append_drop]; exact List.takeWhile_append_dropWhile
  rw [e] at h2
  exact List.append_cancel_left h2
def lows (s : List Rg) (y : Int) : List Rg := s.takeWhile fun r => decide (r.lo ≤ y)
theorem lows_take {s : List Rg} {y : Int} {k : Nat} {r : Rg} (hr : s[k]? = some r) (h : lows (s.take k) y = s.take k) (hx : r.lo ≤ y) : lows (s.take (k + 1)) y = s.take (k + 1) := by
  rw [ok_snoc hr]
  unfold lows at h ⊢
  rw [List.takeWhile_append, h]
  simp [hx]
theorem lows_at {s : List Rg} {y : Int} {k : Nat} (h : lows (s.take k) y = s.take k) (hk : ∀ r, s[k]? = some r → ¬ r.lo ≤ y) : lows s y = s.take k ∧ s.dropWhile (fun r => decide (r.lo ≤ y)) = s.drop k := by
  have e : lows s y = s.take k := by
    have hd : lows s y = lows (s.take k ++ s.drop k) y := by rw [List.take_append_drop]
    rw [hd]
    unfold lows at h ⊢
    rw [List.takeWhile_append, h, if_pos rfl]
    cases hs : s.drop k with
    | nil => simp
    | cons r t =>
      have hr : s[k]? = some r := by
        have := congrArg (fun l => l[0]?) hs
        simpa using this
      rw [List.takeWhile_cons_of_neg (by simpa using hk r hr)]
      simp
  refine ⟨e, ?_⟩
  have h2 : lows s y ++ s.dropWhile (fun r => decide (r.lo ≤ y)) = s.take k ++ s.drop k := by rw [List.take_append_drop]; exact List.takeWhile_append_dropWhile
  rw [e] at h2
  exact List.append_cancel_left h2
end Plain

set_option maxHeartbeats 4000000 in
set_option maxRecDepth 100000 in
theorem impl_cutSet_any (s : List Rg) (v : Value) (x y : Int) (w0 w : World) (hs : s.length ≤ 1048576) (h0 : ReadO w0 v s) (h : ReadO w v s) :
    Calls Tryz.prog 39 #[v, .agg #[.int .i64 x, .int .i64 y]] w fun e w' => ∃ v1 v2 v3, e = .returned (.tuple #[v1, v2, v3]) ∧ ReadO w0 v1 (aheadL s x) ∧ ReadO w0 v2 (metL s x y) ∧ ReadO w0 v3 (behindL s x y) ∧ Below w.heap.size w w' := by
  have H := hide h0
  clear h0
  obtain ⟨a, c, rfl, hcap, hc⟩ := h
  have C := hide hc
  clear hc
  go_enter Tryz.func39, Tryz.ntmps39
  go_wp2
  have hb0 : Below w.heap.size w (w.alloc (Obj.cells #[Value.int IntKind.i64 x, Value.int IntKind.i64 y] 32)) := (Below.refl _ _).alloc (Nat.le_refl _) _
  have e0 : (w.alloc (Obj.cells #[Value.int IntKind.i64 x, Value.int IntKind.i64 y] 32)).cell? ⟨w.heap.size, 0, none⟩ = some (.int .i64 x) := by go_simp
  have e1 : (w.alloc (Obj.cells #[Value.int IntKind.i64 x, Value.int IntKind.i64 y] 32)).cell? ⟨w.heap.size, 1, none⟩ = some (.int .i64 y) := by go_simp
  generalize w.alloc (Obj.cells #[Value.int IntKind.i64 x, Value.int IntKind.i64 y] 32) = W at *
  go_loopw [7] (fun i wr => ∃ k q : Nat, k ≤ s.length ∧ i = .int .i64 k ∧ aheadL (s.take k) x = s.take k ∧ wr = W.drewN q) (fun i _ => s.length - (intOf i).toNat)
  case atStart => exact ⟨0, 0, Nat.zero_le _, rfl, rfl, rfl⟩
  case round =>
    obtain ⟨k, q, hk, rfl, hah, rfl⟩ := hrel
    by_cases hlt : k < s.length
    · have hgk : s[k]? = some s[k] := List.getElem?_eq_getElem hlt
      obtain ⟨g, o, hga, hgl, c0, c1⟩ := unhide C k s[k] hgk
      subst hga
      have T := hide (fun h => ahead_take hgk hah h)
      have D := hide (fun h => ahead_at hah (x := x) h)
      rw [← hb0.cell (p := ⟨g, _, none⟩) hgl] at c0 c1
      have hik : (0 : Int) ≤ (k : Int) := by omega
      have hil : (k : Int) < (s.length : Int) := by omega
      have HG := hide hgk
      generalize s[k] = r at *
      obtain ⟨rl, rh⟩ := r
      simp only at c0 c1 T
      clear hah hgk
      by_cases hx : rh < x
      · have d1 : decide (rh < x) = true := by simpa using hx
        have N := hide (unhide T hx)
        go_wp2
        go_quiet (fail)
        go_wp2
        go_roundw
        case rel => exact ⟨k + 1, _, by omega, by go_num, unhide N, rfl⟩
        case measure => simp [intOf]; omega
      · have d1 : decide (rh < x) = false := by simpa using hx
        have N := hide (unhide D (fun r hr => by rw [unhide HG] at hr; cases hr; exact hx))
        clear D T HG
        go_wp2
        go_quiet (fail)
        go_wp2
        go_loopw [8] (fun i wr => ∃ m q : Nat, m ≤ (s.drop k).length ∧ i = .int .i64 ((k + m : Nat) : Int) ∧ lows ((s.drop k).take m) y = (s.drop k).take m ∧ wr = W.drewN q) (fun i _ => s.length - (intOf i).toNat)
        case atStart => exact ⟨0, _, Nat.zero_le _, by go_num, rfl, by first | exact drewN2 _ _ _ | rfl⟩
        case round =>
          obtain ⟨m, q2, hm, rfl, hlo, rfl⟩ := hrel
          have hdl : (s.drop k).length = s.length - k := by simp
          by_cases hlt2 : k + m < s.length
          · have hgk2 : s[k + m]? = some s[k + m] := List.getElem?_eq_getElem hlt2
            have hgd : (s.drop k)[m]? = some s[k + m] := by rw [List.getElem?_drop]; exact hgk2
            obtain ⟨g2, o2, hga2, hgl2, c2, c3⟩ := unhide C (k + m) s[k + m] hgk2
            have T2 := hide (fun h => lows_take hgd hlo h)
            have D2 := hide (fun h => lows_at hlo (y := y) h)
            rw [← hb0.cell (p := ⟨g2, _, none⟩) hgl2] at c2 c3
            have hik2 : (0 : Int) ≤ ((k + m : Nat) : Int) := by omega
            have hil2 : ((k + m : Nat) : Int) < (s.length : Int) := by omega
            have HG2 := hide hgd
            generalize s[k + m] = r2 at *
            obtain ⟨rl2, rh2⟩ := r2
            simp only at c2 c3 T2
            clear hlo hgk2 hgd
            cases hga2
            by_cases hx2 : rl2 ≤ y
            · have d2 : decide (rl2 ≤ y) = true := by simpa using hx2
              have N2 := hide (unhide T2 hx2)
              clear D2 HG2 T2
              obtain ⟨j, hj⟩ : ∃ j, j = k + m := ⟨_, rfl⟩
              have HJ := hide hj
              rw [← hj] at c2 c3 hik2 hil2 hlt2 ⊢
              clear hj
              go_wp2
              go_quiet (fail)
              go_wp2
              go_roundw
              case rel => exact ⟨m + 1, _, by rw [hdl]; have := unhide HJ; omega, by have := unhide HJ; go_num, unhide N2, rfl⟩
              case measure => simp [intOf]; omega
            · have d2 : decide (rl2 ≤ y) = false := by simpa using hx2
              have N2 := hide (unhide D2 (fun r hr => by rw [unhide HG2] at hr; cases hr; exact hx2))
              clear D2 T2 HG2
              obtain ⟨j, hj⟩ : ∃ j, j = k + m := ⟨_, rfl⟩
              have HJ := hide hj
              rw [← hj] at c2 c3 hik2 hil2 hlt2 ⊢
              clear hj
              have FIN := hide (fun W' => impl_cut_any s _ k j w0 W' hs (unhide H) (by have := unhide HJ; omega) (by omega))
              go_wp2
              go_quiet (fail)
              go_wp2_with fail
              refine (unhide FIN _).mono ?_
              rintro e w1 ⟨⟨v1, v2, v3, rfl, r1, r2, r3⟩, q3, rfl⟩
              have R1 : Hid (ReadO w0 v1 (aheadL s x)) := by show ReadO _ _ _; rw [(unhide N).1]; exact r1
              have R2 : Hid (ReadO w0 v2 (metL s x y)) := by
                show ReadO _ _ (lows (restL s x) y)
                rw [(unhide N).2, (unhide N2).1]
                have e : j - k = m := by have := unhide HJ; omega
                rw [e] at r2
                exact r2
              have R3 : Hid (ReadO w0 v3 (behindL s x y)) := by
                show ReadO _ _ ((restL s x).dropWhile fun r => decide (r.lo ≤ y))
                rw [(unhide N).2, (unhide N2).2, List.drop_drop]
                have e : k + m = j := by have := unhide HJ; omega
                rw [e]
                exact r3
              clear r1 r2 r3 N N2 HJ
              go_wp2
              go_returns
              exact ⟨_, _, _, rfl, unhide R1, unhide R2, unhide R3, b_drewN hb0 _⟩
          · have em : m = (s.drop k).length := by omega
            have N2 := hide (lows_at hlo (y := y) (fun r hr => by rw [List.getElem?_eq_none (by omega)] at hr; cases hr))
            clear hlo
            obtain ⟨j, hj⟩ : ∃ j, j = k + m := ⟨_, rfl⟩
            have HJ := hide hj
            rw [← hj] at hlt2 ⊢
            have hjl : j = s.length := by omega
            clear hj
            have FIN := hide (fun W' => impl_cut_any s _ k j w0 W' hs (unhide H) (by have := unhide HJ; omega) (by omega))
            have HM := hide em
            clear em
            subst hjl
            go_wp2
            go_quiet (fail)
            go_wp2_with fail
            refine (unhide FIN _).mono ?_
            rintro e w1 ⟨⟨v1, v2, v3, rfl, r1, r2, r3⟩, q3, rfl⟩
            have R1 : Hid (ReadO w0 v1 (aheadL s x)) := by show ReadO _ _ _; rw [(unhide N).1]; exact r1
            have R2 : Hid (ReadO w0 v2 (metL s x y)) := by
              show ReadO _ _ (lows (restL s x) y)
              rw [(unhide N).2, (unhide N2).1]
              have e : s.length - k = m := by have := unhide HJ; omega
              rw [e] at r2
              exact r2
            have R3 : Hid (ReadO w0 v3 (behindL s x y)) := by
              show ReadO _ _ ((restL s x).dropWhile fun r => decide (r.lo ≤ y))
              rw [(unhide N).2, (unhide N2).2, List.drop_drop]
              have e : k + m = s.length := by have := unhide HJ; omega
              rw [e]
              exact r3
            clear r1 r2 r3 N N2 HJ
            go_wp2
            go_returns
            exact ⟨_, _, _, rfl, unhide R1, unhide R2, unhide R3, b_drewN hb0 _⟩
    · obtain rfl : k = s.length := by omega
      have N := hide (ahead_at hah (x := x) (fun r hr => by simp at hr))
      clear hah
      go_wp2
      go_quiet (fail)
      go_wp2
      go_loopw [8] (fun i wr => ∃ m q : Nat, m ≤ (s.drop s.length).length ∧ i = .int .i64 ((s.length + m : Nat) : Int) ∧ lows ((s.drop s.length).take m) y = (s.drop s.length).take m ∧ wr = W.drewN q) (fun i _ => s.length - (intOf i).toNat)
      case atStart => exact ⟨0, _, Nat.zero_le _, by go_num, rfl, by first | exact drewN2 _ _ _ | rfl⟩
      case round =>
        obtain ⟨m, q2, hm, rfl, hlo, rfl⟩ := hrel
        have hdl : (s.drop s.length).length = s.length - s.length := by simp
        by_cases hlt2 : s.length + m < s.length
        · have hgk2 : s[s.length + m]? = some s[s.length + m] := List.getElem?_eq_getElem hlt2
          have hgd : (s.drop s.length)[m]? = some s[s.length + m] := by rw [List.getElem?_drop]; exact hgk2
          obtain ⟨g2, o2, hga2, hgl2, c2, c3⟩ := unhide C (s.length + m) s[s.length + m] hgk2
          have T2 := hide (fun h => lows_take hgd hlo h)
          have D2 := hide (fun h => lows_at hlo (y := y) h)
          rw [← hb0.cell (p := ⟨g2, _, none⟩) hgl2] at c2 c3
          have hik2 : (0 : Int) ≤ ((s.length + m : Nat) : Int) := by omega
          have hil2 : ((s.length + m : Nat) : Int) < (s.length : Int) := by omega
          have HG2 := hide hgd
          generalize s[s.length + m] = r2 at *
          obtain ⟨rl2, rh2⟩ := r2
          simp only at c2 c3 T2
          clear hlo hgk2 hgd
          subst hga2
          by_cases hx2 : rl2 ≤ y
          · have d2 : decide (rl2 ≤ y) = true := by simpa using hx2
            have N2 := hide (unhide T2 hx2)
            clear D2 HG2 T2
            obtain ⟨j, hj⟩ : ∃ j, j = s.length + m := ⟨_, rfl⟩
            have HJ := hide hj
            rw [← hj] at c2 c3 hik2 hil2 hlt2 ⊢
            clear hj
            go_wp2
            go_quiet (fail)
            go_wp2
            go_roundw
            case rel => exact ⟨m + 1, _, by rw [hdl]; have := unhide HJ; omega, by have := unhide HJ; go_num, unhide N2, rfl⟩
            case measure => simp [intOf]; omega
          · have d2 : decide (rl2 ≤ y) = false := by simpa using hx2
            have N2 := hide (unhide D2 (fun r hr => by rw [unhide HG2] at hr; cases hr; exact hx2))
            clear D2 T2 HG2
            obtain ⟨j, hj⟩ : ∃ j, j = s.length + m := ⟨_, rfl⟩
            have HJ := hide hj
            rw [← hj] at c2 c3 hik2 hil2 hlt2 ⊢
            clear hj
            have FIN := hide (fun W' => impl_cut_any s _ s.length j w0 W' hs (unhide H) (by have := unhide HJ; omega) (by omega))
            go_wp2
            go_quiet (fail)
            go_wp2_with fail
            refine (unhide FIN _).mono ?_
            rintro e w1 ⟨⟨v1, v2, v3, rfl, r1, r2, r3⟩, q3, rfl⟩
            have R1 : Hid (ReadO w0 v1 (aheadL s x)) := by show ReadO _ _ _; rw [(unhide N).1]; exact r1
            have R2 : Hid (ReadO w0 v2 (metL s x y)) := by
              show ReadO _ _ (lows (restL s x) y)
              rw [(unhide N).2, (unhide N2).1]
              have e : j - s.length = m := by have := unhide HJ; omega
              rw [e] at r2
              exact r2
            have R3 : Hid (ReadO w0 v3 (behindL s x y)) := by
              show ReadO _ _ ((restL s x).dropWhile fun r => decide (r.lo ≤ y))
              rw [(unhide N).2, (unhide N2).2, List.drop_drop]
              have e : s.length + m = j := by have := unhide HJ; omega
              rw [e]
              exact r3
            clear r1 r2 r3 N N2 HJ
            go_wp2
            go_returns
            exact ⟨_, _, _, rfl, unhide R1, unhide R2, unhide R3, b_drewN hb0 _⟩
        · have em : m = (s.drop s.length).length := by omega
          have N2 := hide (lows_at hlo (y := y) (fun r hr => by rw [List.getElem?_eq_none (by omega)] at hr; cases hr))
          clear hlo
          obtain ⟨j, hj⟩ : ∃ j, j = s.length + m := ⟨_, rfl⟩
          have HJ := hide hj
          rw [← hj] at hlt2 ⊢
          have hjl : j = s.length := by omega
          clear hj
          have FIN := hide (fun W' => impl_cut_any s _ s.length j w0 W' hs (unhide H) (by have := unhide HJ; omega) (by omega))
          have HM := hide em
          clear em
          subst hjl
          go_wp2
          go_quiet (fail)
          go_wp2_with fail
          refine (unhide FIN _).mono ?_
          rintro e w1 ⟨⟨v1, v2, v3, rfl, r1, r2, r3⟩, q3, rfl⟩
          have R1 : Hid (ReadO w0 v1 (aheadL s x)) := by show ReadO _ _ _; rw [(unhide N).1]; exact r1
          have R2 : Hid (ReadO w0 v2 (metL s x y)) := by
            show ReadO _ _ (lows (restL s x) y)
            rw [(unhide N).2, (unhide N2).1]
            have e : s.length - s.length = m := by have := unhide HJ; omega
            rw [e] at r2
            exact r2
          have R3 : Hid (ReadO w0 v3 (behindL s x y)) := by
            show ReadO _ _ ((restL s x).dropWhile fun r => decide (r.lo ≤ y))
            rw [(unhide N).2, (unhide N2).2, List.drop_drop]
            have e : s.length + m = s.length := by have := unhide HJ; omega
            rw [e]
            exact r3
          clear r1 r2 r3 N N2 HJ
          go_wp2
          go_returns
          exact ⟨_, _, _, rfl, unhide R1, unhide R2, unhide R3, b_drewN hb0 _⟩
end Go.Proofs.YtkmphclmealkeaaGreatDoor
