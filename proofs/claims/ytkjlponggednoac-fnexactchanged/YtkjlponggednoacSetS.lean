/- Sets of numbers, as the specification tells them: SetOk, SetHas, SetSize. -/
import Derived.Test.YtkjlponggednoacRangeS
import Derived.Test.YtkjlponggednoacSetPlain
namespace Go.Proofs.Ytkjlponggednoac
open Go.RowKit
open Plain
set_option linter.unusedVariables false

namespace Plain
theorem okFrom_take {p : Int} {s : List Rg} (k : Nat) (h : okFrom p s = true) : okFrom p (s.take k) = true := by
  induction s generalizing p k with
  | nil => simp [okFrom]
  | cons r t ih =>
    cases k with
    | zero => rfl
    | succ k =>
      rw [List.take_succ_cons, okFrom_cons]
      rw [okFrom_cons] at h
      exact ⟨h.1, h.2.1, h.2.2.1, h.2.2.2.1, ih k h.2.2.2.2⟩
theorem okS_no {s : List Rg} (k : Nat) (h : okFrom (-1) (s.take k) = false) : okS s = false := by
  cases hx : okFrom (-1) s with
  | false => simp [okS, hx]
  | true => rw [okFrom_take k hx] at h; cases h
theorem ok_snoc {s : List Rg} {k : Nat} {r : Rg} (hr : s[k]? = some r) : s.take (k + 1) = s.take k ++ [r] := by rw [List.take_add_one, hr]; rfl
theorem ok_next {s : List Rg} {k : Nat} {r : Rg} (hr : s[k]? = some r) (h : okFrom (-1) (s.take k) = true) (h1 : 1 ≤ r.lo) (h2 : r.lo ≤ r.hi) (h3 : r.hi ≤ 9999) (h4 : lastHi (-1) (s.take k) + 1 < r.lo) : okFrom (-1) (s.take (k + 1)) = true := by
  rw [ok_snoc hr]; exact okFrom_snoc.2 ⟨h, h1, h2, h3, h4⟩
theorem ok_fail {s : List Rg} {k : Nat} {r : Rg} (hr : s[k]? = some r) (h : ¬ (1 ≤ r.lo ∧ r.lo ≤ r.hi ∧ r.hi ≤ 9999 ∧ lastHi (-1) (s.take k) + 1 < r.lo)) : okS s = false := by
  refine okS_no (k + 1) ?_
  cases hx : okFrom (-1) (s.take (k + 1)) with
  | false => rfl
  | true =>
    rw [ok_snoc hr] at hx
    exact absurd (okFrom_snoc.1 hx).2 h
theorem last_take {s : List Rg} {k : Nat} {p : Rg} (hp : s[k]? = some p) : lastHi (-1) (s.take (k + 1)) = p.hi := by rw [ok_snoc hp, lastHi_snoc]
theorem ok_at {s : List Rg} {k : Nat} {r : Rg} (h : okFrom (-1) s = true) (hr : s[k]? = some r) : 1 ≤ r.lo ∧ r.lo ≤ r.hi ∧ r.hi ≤ 9999 := by
  have := okFrom_take (k + 1) h
  rw [ok_snoc hr] at this
  have := okFrom_snoc.1 this
  exact ⟨this.2.1, this.2.2.1, this.2.2.2.1⟩
theorem okS_parts {s : List Rg} (h : okS s = true) : okFrom (-1) s = true ∧ s.length ≤ 40 := by simpa [okS] using h
theorem hasB_take {s : List Rg} {n : Int} {k : Nat} {r : Rg} (hr : s[k]? = some r) : hasB (s.take (k + 1)) n = (hasB (s.take k) n || (decide (r.lo ≤ n) && decide (n ≤ r.hi))) := by
  rw [ok_snoc hr, hasB_append, hasB_cons, hasB_nil, Bool.or_false]
theorem hasB_part {s : List Rg} {n : Int} (k : Nat) (h : hasB (s.take k) n = true) : hasB s n = true := by
  rw [← List.take_append_drop k s, hasB_append, h]; rfl
def sizeTo (s : List Rg) (k : Nat) : Int := (s.take k).foldl (fun n r => n + r.hi - r.lo + 1) 0
theorem sizeTo_succ {s : List Rg} {k : Nat} {r : Rg} (hr : s[k]? = some r) : sizeTo s (k + 1) = sizeTo s k + r.hi - r.lo + 1 := by unfold sizeTo; rw [ok_snoc hr, List.foldl_append]; rfl
theorem sizeTo_bound {s : List Rg} (h : okFrom (-1) s = true) : ∀ k, k ≤ s.length → 0 ≤ sizeTo s k ∧ sizeTo s k ≤ k * 10000 := by
  intro k
  induction k with
  | zero => intro _; simp [sizeTo]
  | succ k ih =>
    intro hk
    have hr : s[k]? = some s[k] := List.getElem?_eq_getElem (by omega)
    have := ih (by omega)
    have ho := ok_at h hr
    rw [sizeTo_succ hr]
    omega
theorem sizeTo_all {s : List Rg} (h : okS s = true) : sizeTo s s.length = sizeL s := by unfold sizeTo sizeL; rw [List.take_length, if_pos h]
theorem sizeL_no {s : List Rg} (h : okS s = false) : sizeL s = 0 := by unfold sizeL; rw [if_neg (by rw [h]; decide)]
end Plain

theorem drewN2 (w : World) (a b : Nat) : (w.drewN a).drewN b = w.drewN (a + b) := by unfold World.drewN; simp [Nat.add_assoc]

theorem l01In_is (x l m : Int) (w : World) : Calls Try.prog 38 #[.int .i64 x, .int .i64 l, .int .i64 m] w fun e w' => e = .returned (.bool (decide (l ≤ x) && decide (x ≤ m))) ∧ w' = w := by
  by_cases h : l ≤ x
  · have hd : decide (l ≤ x) = true := by simpa using h
    by_cases h2 : x ≤ m
    · have hd2 : decide (x ≤ m) = true := by simpa using h2
      rw [hd, hd2]
      go_enter Try.func38, Try.ntmps38
      go_wp2
      go_ret
      exact ⟨rfl, rfl⟩
    · have hd2 : decide (x ≤ m) = false := by simpa using h2
      rw [hd, hd2]
      go_enter Try.func38, Try.ntmps38
      go_wp2
      go_ret
      exact ⟨rfl, rfl⟩
  · have hd : decide (l ≤ x) = false := by simpa using h
    rw [hd]
    go_enter Try.func38, Try.ntmps38
    go_wp2
    go_ret
    exact ⟨rfl, rfl⟩

set_option maxHeartbeats 4000000 in
set_option maxRecDepth 100000 in
theorem spec_SetOk_any (s : List Rg) (v : Value) (w : World) (hs : s.length ≤ 1048576) (h : ReadR w v s) :
    Calls Try.prog 63 #[v] w fun e w' => e = .returned (.bool (okS s)) ∧ ∃ q, w' = w.drewN q := by
  obtain ⟨a, c, rfl, hc⟩ := h
  have C := hide hc
  clear hc
  go_enter Try.func63, Try.ntmps63
  go_wp2
  go_loopw [3] (fun i wr => ∃ k q : Nat, k ≤ s.length ∧ i = .int .i64 k ∧ okFrom (-1) (s.take k) = true ∧ wr = w.drewN q) (fun i _ => s.length - (intOf i).toNat)
  case atStart => exact ⟨0, 0, Nat.zero_le _, rfl, rfl, rfl⟩
  case round =>
    obtain ⟨k, q, hk, rfl, hok, rfl⟩ := hrel
    by_cases hlt : k < s.length
    · have hgk : s[k]? = some s[k] := List.getElem?_eq_getElem hlt
      obtain ⟨g, hga, hgl, c0, c1⟩ := unhide C k s[k] hgk
      subst hga
      have FAIL := hide (fun h => ok_fail hgk h)
      have NEXT := hide (fun h1 h2 h3 h4 => ok_next hgk hok h1 h2 h3 h4)
      have PREV : ∀ j, k = j + 1 → ∃ p : Rg, s[j]? = some p ∧ 1 ≤ p.hi ∧ p.hi ≤ 9999 ∧ lastHi (-1) (s.take k) = p.hi ∧ w.cell? ⟨g, j * 2 + 1, none⟩ = some (.int .i64 p.hi) := by
        intro j hj
        subst hj
        have hp : s[j]? = some s[j] := List.getElem?_eq_getElem (by omega)
        obtain ⟨g', hg', _, _, d1⟩ := unhide C j s[j] hp
        have e : g' = g := by cases hg'; rfl
        subst e
        have ho := okFrom_snoc.1 (by rw [← ok_snoc hp]; exact hok)
        exact ⟨s[j], hp, by have h1 := ho.2.1; have h2 := ho.2.2.1; omega, ho.2.2.2.1, last_take hp, d1⟩
      have P := hide PREV
      have HK0 : Hid (k = 0 → lastHi (-1) (s.take k) = -1) := fun h => by rw [h]; rfl
      generalize s[k] = r at *
      obtain ⟨rl, rh⟩ := r
      simp only at c0 c1 FAIL NEXT
      have hik : (0 : Int) ≤ (k : Int) := by omega
      have hil : (k : Int) < (s.length : Int) := by omega
      clear hok hgk PREV
      by_cases hA : 1 ≤ rl ∧ rl ≤ rh
      · obtain ⟨hA1, hA2⟩ := hA
        have L : Hid (∀ W, Calls Try.prog 38 #[.int .i64 rl, .int .i64 1, .int .i64 rh] W fun e w' => e = .returned (.bool true) ∧ w' = W) := fun W => by
          have := l01In_is rl 1 rh W
          rw [decide_eq_true hA1, decide_eq_true hA2] at this
          exact this
        by_cases hB : 9999 < rh
        · have dB : decide ((9999 : Int) < rh) = true := by simpa using hB
          have F := hide (unhide FAIL (fun h => absurd h.2.2.1 (by omega)))
          go_wp2
          go_quiet ((go_at_call 38; exact (unhide L _).mono fun _ _ h => ⟨h.1, _, h.2⟩))
          go_wp2
          go_ret
          exact ⟨by rw [unhide F]; rfl, _, drewN2 _ _ _⟩
        · have dB : decide ((9999 : Int) < rh) = false := by simpa using hB
          cases hk0 : k with
          | zero =>
            subst hk0
            have N := hide (unhide NEXT hA1 hA2 (by omega) (by rw [unhide HK0 rfl]; omega))
            go_wp2
            go_quiet ((go_at_call 38; exact (unhide L _).mono fun _ _ h => ⟨h.1, _, h.2⟩))
            go_wp2
            go_roundw
            case rel => exact ⟨1, _, by omega, by go_num, unhide N, rfl⟩
            case measure => simp [intOf]; omega
          | succ j =>
            subst hk0
            obtain ⟨p, hp, hp1, hp9, hlast, d1⟩ := unhide P j rfl
            obtain ⟨pl, ph⟩ := p
            simp only at hp1 hp9 hlast d1
            have dj : decide ((0 : Int) < (j : Int) + 1) = true := by rw [decide_eq_true_eq]; omega
            have hij : (0 : Int) ≤ (j : Int) + 1 - 1 := by omega
            have hij2 : (j : Int) < (s.length : Int) := by omega
            by_cases hD : rl ≤ ph + 1
            · have dD : decide (rl ≤ ph + 1) = true := by simpa using hD
              have F := hide (unhide FAIL (fun h => by have := h.2.2.2; rw [hlast] at this; omega))
              go_wp2
              go_quiet ((go_at_call 38; exact (unhide L _).mono fun _ _ h => ⟨h.1, _, h.2⟩))
              go_wp2
              go_ret
              exact ⟨by rw [unhide F]; rfl, _, drewN2 _ _ _⟩
            · have dD : decide (rl ≤ ph + 1) = false := by simpa using hD
              have N := hide (unhide NEXT hA1 hA2 (by omega) (by rw [hlast]; omega))
              go_wp2
              go_quiet ((go_at_call 38; exact (unhide L _).mono fun _ _ h => ⟨h.1, _, h.2⟩))
              go_wp2
              go_roundw
              case rel => exact ⟨j + 1 + 1, _, by omega, by go_num, unhide N, rfl⟩
              case measure => simp [intOf]; omega
      · have L : Hid (∀ W, Calls Try.prog 38 #[.int .i64 rl, .int .i64 1, .int .i64 rh] W fun e w' => e = .returned (.bool false) ∧ w' = W) := fun W => by
          have := l01In_is rl 1 rh W
          have e : (decide ((1 : Int) ≤ rl) && decide (rl ≤ rh)) = false := by
            rw [Bool.and_eq_false_iff]
            by_cases h : 1 ≤ rl
            · right; simp; omega
            · left; simp; omega
          rw [e] at this
          exact this
        have F := hide (unhide FAIL (fun h => hA ⟨h.1, h.2.1⟩))
        go_wp2
        go_quiet ((go_at_call 38; exact (unhide L _).mono fun _ _ h => ⟨h.1, _, h.2⟩))
        go_wp2
        go_ret
        exact ⟨by rw [unhide F]; rfl, _, drewN2 _ _ _⟩
    · have e : k = s.length := by omega
      have hall : okFrom (-1) s = true := by rw [e, List.take_length] at hok; exact hok
      have O := hide hall
      clear hok hall
      go_wp2
      go_ret
      refine ⟨?_, q, rfl⟩
      rw [okS, unhide O, Bool.true_and]
      by_cases h40 : s.length ≤ 40
      · rw [decide_eq_true h40]; simp; omega
      · rw [decide_eq_false h40]; simp; omega

end Go.Proofs.Ytkjlponggednoac
