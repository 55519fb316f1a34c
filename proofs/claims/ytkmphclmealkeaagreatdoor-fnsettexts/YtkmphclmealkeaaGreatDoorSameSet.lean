/- laws.sameSet of two rows that are the same. -/
import Derived.Test.YtkmphclmealkeaaGreatDoorSetS
namespace Go.Proofs.YtkmphclmealkeaaGreatDoor
open Go.RowKit
open Plain
set_option linter.unusedVariables false

theorem bigS_any (len cap : Nat) (a : Option Addr) (w : World) (hl : len ≤ 9223372036854775807) :
    Calls Tryz.prog 5 #[.slice a len cap] w fun e w' => e = .returned (.bool (decide ((1048576 : Int) < len))) ∧ w' = w := by
  go_enter Tryz.func5, Tryz.ntmps5
  go_wp2
  go_ret
  exact ⟨rfl, rfl⟩

/-- Sets that stay. -/
def RowsR (w W : World) (l : List (Value × List Rg)) : Prop := (∀ p ∈ l, OwnR w.heap.size W p.1 p.2) ∧ Below w.heap.size w W
theorem RowsR.up {w W W' : World} {l : List (Value × List Rg)} (h : RowsR w W l) (hb : Below W.heap.size W W') : RowsR w W' l :=
  ⟨fun p hp => (h.1 p hp).up hb, h.2.trans (hb.mono h.2.size)⟩
theorem RowsR.more {w W W' : World} {l : List (Value × List Rg)} (h : RowsR w W l) (hb : Below W.heap.size W W') {v : Value} {s : List Rg} (ho : OwnR W.heap.size W' v s) : RowsR w W' ((v, s) :: l) :=
  ⟨fun p hp => by
    rcases List.mem_cons.1 hp with e | hp
    · subst e; exact g_based ho h.2.size
    · exact (h.1 p hp).up hb, h.2.trans (hb.mono h.2.size)⟩
theorem RowsR.get {w W : World} {l : List (Value × List Rg)} (h : RowsR w W l) (v : Value) (s : List Rg) (hm : (v, s) ∈ l) : OwnR w.heap.size W v s := h.1 _ hm

set_option maxHeartbeats 1000000 in
set_option maxRecDepth 100000 in
theorem sameSet_same (l : List Rg) (v1 v2 : Value) (w : World) (hs : l.length ≤ 1048576) (h1 : ReadR w v1 l) (h2 : ReadR w v2 l) :
    Calls Tryz.prog 9 #[v1, v2] w fun e w' => e = .returned (.bool true) ∧ ∃ q, w' = w.drewN q := by
  obtain ⟨a1, c1, rfl, r1⟩ := h1
  obtain ⟨a2, c2, rfl, r2⟩ := h2
  obtain ⟨n, hn⟩ : ∃ n, n = l.length := ⟨_, rfl⟩
  rw [← hn] at hs ⊢
  have R1 := hide r1
  have R2 := hide r2
  have HN := hide hn
  clear r1 r2 hn
  go_enter Tryz.func9, Tryz.ntmps9
  go_wp2
  go_loopw [5] (fun i wr => ∃ k q : Nat, k ≤ n ∧ i = .int .i64 k ∧ wr = w.drewN q) (fun i _ => n - (intOf i).toNat)
  case atStart => exact ⟨0, 0, Nat.zero_le _, rfl, rfl⟩
  case round =>
    obtain ⟨k, q, hk, rfl, rfl⟩ := hrel
    by_cases hlt : k < n
    · have hkl : k < l.length := by rw [← unhide HN]; exact hlt
      obtain ⟨g1, rfl, b1, e1, e2⟩ := unhide R1 k l[k] (List.getElem?_eq_getElem hkl)
      obtain ⟨g2, rfl, b2, d1, d2⟩ := unhide R2 k l[k] (List.getElem?_eq_getElem hkl)
      generalize l[k] = x at *
      obtain ⟨xl, xh⟩ := x
      simp only at e1 e2 d1 d2
      go_wp2
      go_quiet (fail)
      go_wp2
      go_roundw
      case rel => exact ⟨k + 1, _, by omega, by go_num, rfl⟩
      case measure => simp [intOf]; omega
    · go_wp2
      go_ret
      exact ⟨rfl, q, rfl⟩
end Go.Proofs.YtkmphclmealkeaaGreatDoor
