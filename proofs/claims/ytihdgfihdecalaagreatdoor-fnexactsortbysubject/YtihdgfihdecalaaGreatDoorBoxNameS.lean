/- The specification's BoxName, l08HasMail. -/
import Derived.Test.YtihdgfihdecalaaGreatDoorBoxP
import Derived.Test.YtihdgfihdecalaaGreatDoorBoxA
import Derived.Test.YtihdgfihdecalaaGreatDoorFlagA
namespace Go.Proofs.YtihdgfihdecalaaGreatDoor
open Go.RowKit
open Plain
set_option linter.unusedVariables false

theorem in_any (x l m : Int) (w : World) : Calls Tryz.prog 42 #[.int .i64 x, .int .i64 l, .int .i64 m] w fun e w' => e = .returned (.bool (inI x l m)) ∧ w' = w := l01In_held x l m w
namespace Plain
def letter (c : UInt8) : Bool := decide (97 ≤ c.toNat) && decide (c.toNat ≤ 122)
theorem name_no {l : List UInt8} {i : Nat} {c : UInt8} (h : l[i]? = some c) (hc : letter c = false) : nameOkL l = false := by
  unfold nameOkL
  have : l.all (fun c => decide (97 ≤ c.toNat) && decide (c.toNat ≤ 122)) = false := by
    rw [List.all_eq_false]
    exact ⟨c, List.mem_of_getElem? h, by rw [show (decide (97 ≤ c.toNat) && decide (c.toNat ≤ 122)) = letter c from rfl, hc]; decide⟩
  rw [this, Bool.false_and]
theorem name_yes {l : List UInt8} (h : ∀ (i : Nat) (c : UInt8), l[i]? = some c → letter c = true) : nameOkL l = inI (l.length : Int) 1 8 := by
  unfold nameOkL
  have : l.all (fun c => decide (97 ≤ c.toNat) && decide (c.toNat ≤ 122)) = true := by
    rw [List.all_eq_true]
    intro c hc
    obtain ⟨i, hi, rfl⟩ := List.getElem_of_mem hc
    exact h i _ (List.getElem?_eq_getElem hi)
  rw [this, Bool.true_and]
end Plain
set_option maxHeartbeats 1000000 in
set_option maxRecDepth 100000 in
theorem spec_BoxName_any (s : ByteArray) (w : World) (hs : s.size ≤ 1048576) :
    Calls Tryz.prog 41 #[.string s] w fun e w' => e = .returned (.bool (nameOkL s.data.toList)) ∧ w' = w := by
  have Q := hide (in_any (s.size : Int) 1 8 w)
  have hls : Hid (s.data.toList.length = s.size) := rfl
  go_enter Tryz.func41, Tryz.ntmps41
  go_wp2
  go_loop [3] (fun i => ∃ k : Nat, k ≤ s.size ∧ i = .int .i64 k ∧ ∀ j c, j < k → s.data.toList[j]? = some c → letter c = true) (fun i => s.size - (intOf i).toNat)
  case atStart => exact ⟨0, Nat.zero_le _, rfl, fun j c hj => by omega⟩
  case round =>
    obtain ⟨k, hk, rfl, hall⟩ := hrel
    have HC := hide hall
    clear hall
    by_cases hlt : k < s.size
    · have hx : s.data.toList[k]? = some s[k] := by
        have := List.getElem?_eq_getElem (l := s.data.toList) (i := k) hlt
        rw [this]
        rfl
      have NO := hide (fun h => name_no hx h)
      have ON : Hid (letter s[k] = true → ∀ j c, j < k + 1 → s.data.toList[j]? = some c → letter c = true) := fun h j c hj hc => by
        by_cases e : j = k
        · subst e
          rw [hx] at hc
          cases hc
          exact h
        · exact unhide HC j c (by omega) hc
      have LD : Hid (letter s[k] = (decide (97 ≤ s[k].toNat) && decide (s[k].toNat ≤ 122))) := rfl
      clear hx HC
      have i1 : (0 : Int) ≤ (k : Int) := by omega
      have i2 : (k : Int) < (s.size : Int) := by omega
      by_cases h1 : 97 ≤ s[k].toNat
      · have d1 : decide ((s[k].toNat : Int) < 97) = false := by rw [decide_eq_false_iff_not]; omega
        by_cases h2 : s[k].toNat ≤ 122
        · have d2 : decide ((122 : Int) < (s[k].toNat : Int)) = false := by rw [decide_eq_false_iff_not]; omega
          have ok := hide (unhide ON (by rw [unhide LD, decide_eq_true h1, decide_eq_true h2]; rfl))
          go_wp2
          exact ⟨⟨k + 1, by omega, by go_num, unhide ok⟩, by simp [intOf]; omega⟩
        · have d2 : decide ((122 : Int) < (s[k].toNat : Int)) = true := by rw [decide_eq_true_eq]; omega
          have no := hide (unhide NO (by rw [unhide LD, decide_eq_false h2, Bool.and_false]))
          go_wp2
          go_ret
          exact ⟨by rw [unhide no]; rfl, rfl⟩
      · have d1 : decide ((s[k].toNat : Int) < 97) = true := by rw [decide_eq_true_eq]; omega
        have no := hide (unhide NO (by rw [unhide LD, decide_eq_false h1, Bool.false_and]))
        go_wp2
        go_ret
        exact ⟨by rw [unhide no]; rfl, rfl⟩
    · have e : k = s.size := by omega
      subst e
      have V : Hid (nameOkL s.data.toList = inI (s.size : Int) 1 8) := name_yes (fun i c hc => unhide HC i c (by have := (List.getElem?_eq_some_iff.1 hc).1; have h2 := unhide hls; omega) hc)
      clear HC
      go_wp2_with (go_at_call 42; refine (unhide Q).mono ?_; rintro e w1 ⟨rfl, hw⟩; subst w1)
      go_ret
      exact ⟨by rw [unhide V]; rfl, rfl⟩

namespace Plain
theorem has_no {l : List Ml} {u : Int} (h : ∀ (i : Nat) (m : Ml), l[i]? = some m → (m.uid == u) = false) : hasUid l u = false := by
  unfold hasUid
  rw [List.any_eq_false]
  intro m hm
  obtain ⟨i, hi, rfl⟩ := List.getElem_of_mem hm
  rw [h i _ (List.getElem?_eq_getElem hi)]
  decide
theorem has_yes {l : List Ml} {u : Int} {i : Nat} {m : Ml} (h : l[i]? = some m) (hm : (m.uid == u) = true) : hasUid l u = true := by
  unfold hasUid
  rw [List.any_eq_true]
  exact ⟨m, List.mem_of_getElem? h, hm⟩
end Plain
/-- The row's cells in whatever world that keeps what is below. -/
theorem ml_read {B : Nat} {w W : World} {v : Value} {l : List Ml} (h : OwnMl B w v l) (hb : Below w.heap.size w W) {k : Nat} {f : Ml} (hx : l[k]? = some f) :
    ∃ g c, v = .slice (some ⟨g, 0, none⟩) l.length c ∧ g < w.heap.size ∧ W.cell? ⟨g, k * 4, none⟩ = some (.int .i64 f.uid) ∧ W.cell? ⟨g, k * 4 + 1, none⟩ = some (.int .i64 f.flags) ∧ W.cell? ⟨g, k * 4 + 2, none⟩ = some (.int .i64 f.mod) ∧ W.cell? ⟨g, k * 4 + 3, none⟩ = some (.string f.text) := by
  have hu := h.up hb
  unfold OwnMl at h hu
  have hk : k < l.length := (List.getElem?_eq_some_iff.1 hx).1
  rcases h.2 with ⟨_, h0⟩ | ⟨g, c, cur, rfl, _, hh, _⟩
  · omega
  · exact ⟨g, c, rfl, (h.lt _ rfl).2, ml_cells hu hx hk⟩
theorem tb_read {B : Nat} {w W : World} {v : Value} {l : List Tb} (h : OwnTb B w v l) (hb : Below w.heap.size w W) {k : Nat} {f : Tb} (hx : l[k]? = some f) :
    ∃ g c, v = .slice (some ⟨g, 0, none⟩) l.length c ∧ g < w.heap.size ∧ W.cell? ⟨g, k * 2, none⟩ = some (.int .i64 f.uid) ∧ W.cell? ⟨g, k * 2 + 1, none⟩ = some (.int .i64 f.mod) := by
  have hu := h.up hb
  unfold OwnTb at h hu
  have hk : k < l.length := (List.getElem?_eq_some_iff.1 hx).1
  rcases h.2 with ⟨_, h0⟩ | ⟨g, c, cur, rfl, _, hh, _⟩
  · omega
  · exact ⟨g, c, rfl, (h.lt _ rfl).2, tb_cells hu hx hk⟩
abbrev boxL (b : Bx) (m t : Value) : List Value := [.string b.name, .int .i64 b.valid, .int .i64 b.next, .int .i64 b.mod, m, t, .int .i64 b.hor]
set_option maxHeartbeats 1000000 in
set_option maxRecDepth 100000 in
theorem hasMail_any (b : Bx) (m t : Value) (B : Nat) (u : Int) (w : World) (hl : b.mails.length ≤ 4000000) (h : OwnBx B w m t b) :
    Calls Tryz.prog 45 #[boxV b m t, .int .i64 u] w fun e w' => e = .returned (.bool (hasUid b.mails u)) ∧ Below w.heap.size w w' := by
  obtain ⟨am, cm, rfl⟩ := g_shape h.1
  obtain ⟨at1, ct1, rfl⟩ := g_shape h.2
  obtain ⟨X, hX⟩ : ∃ X, X = w.alloc (.cells (boxL b (.slice am b.mails.length cm) (.slice at1 b.tombs.length ct1)).toArray 34) := ⟨_, rfl⟩
  have x0 : HasObj X w.heap.size 34 (boxL b (.slice am b.mails.length cm) (.slice at1 b.tombs.length ct1)) := by rw [hX]; exact HasObj.new _ _ _
  have hbX : Below w.heap.size w X := by rw [hX]; exact (Below.refl _ _).alloc (Nat.le_refl _) _
  have k4 := x0.cell 4 rfl
  have BX := hide hbX
  have HO := hide (fun k f hx => ml_read h.1 hbX (k := k) (f := f) hx)
  have HX := hX.symm
  clear hX x0 hbX h
  go_enter Tryz.func45, Tryz.ntmps45
  go_wp2
  clear HX
  go_loop [5] (fun i => ∃ k : Nat, k ≤ b.mails.length ∧ i = .int .i64 k ∧ ∀ j m, j < k → b.mails[j]? = some m → (m.uid == u) = false) (fun i => b.mails.length - (intOf i).toNat)
  case atStart => exact ⟨0, Nat.zero_le _, rfl, fun j m hj => by omega⟩
  case round =>
    obtain ⟨k, hk, rfl, hall⟩ := hrel
    have HC := hide hall
    clear hall
    by_cases hlt : k < b.mails.length
    · have hgk : b.mails[k]? = some b.mails[k] := List.getElem?_eq_getElem hlt
      obtain ⟨g, c, e, hg, c0, c1, c2, c3⟩ := unhide HO k _ hgk
      cases e
      have YES := hide (fun h => has_yes (u := u) hgk h)
      have ON : Hid ((b.mails[k].uid == u) = false → ∀ j m, j < k + 1 → b.mails[j]? = some m → (m.uid == u) = false) := fun h j m hj hm => by
        by_cases e : j = k
        · subst e
          rw [hgk] at hm
          cases hm
          exact h
        · exact unhide HC j m (by omega) hm
      have i1 : (0 : Int) ≤ (k : Int) := by omega
      have i2 : (k : Int) < (b.mails.length : Int) := by omega
      clear hgk HC c1 c2 c3
      generalize b.mails[k].uid = x at *
      cases hq : (x == u) with
      | true =>
        have yes := hide (unhide YES hq)
        go_wp2
        go_ret
        exact ⟨by rw [unhide yes]; rfl, unhide BX⟩
      | false =>
        have on := hide (unhide ON hq)
        go_wp2
        exact ⟨⟨k + 1, by omega, by go_num, unhide on⟩, by simp [intOf]; omega⟩
    · have e : k = b.mails.length := by omega
      have V : Hid (hasUid b.mails u = false) := has_no (fun i m hm => unhide HC i m (by have := (List.getElem?_eq_some_iff.1 hm).1; omega) hm)
      subst e
      clear HC
      go_wp2
      go_ret
      exact ⟨by rw [unhide V]; rfl, unhide BX⟩
end Go.Proofs.YtihdgfihdecalaaGreatDoor
