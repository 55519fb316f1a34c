/- Rows of mails that are read; laws.sameMails of equal rows. -/
import Derived.Test.YtmedhmgihfenhaaBoxA
import Derived.Test.YtmedhmgihfenhaaBoxNameS
import Derived.BigQuiet
namespace Go.Proofs.Ytmedhmgihfenhaa
open Go.RowKit
open Plain
set_option linter.unusedVariables false
set_option linter.unusedSimpArgs false

/-- A row of mails that is read, a beginning of a row too. -/
def ReadM (w : World) (v : Value) (l : List Ml) : Prop := ∃ a c, v = .slice a l.length c ∧ ∀ (k : Nat) (f : Ml), l[k]? = some f →
  ∃ g, a = some ⟨g, 0, none⟩ ∧ g < w.heap.size ∧ w.cell? ⟨g, k * 4, none⟩ = some (.int .i64 f.uid) ∧ w.cell? ⟨g, k * 4 + 1, none⟩ = some (.int .i64 f.flags) ∧ w.cell? ⟨g, k * 4 + 2, none⟩ = some (.int .i64 f.mod) ∧ w.cell? ⟨g, k * 4 + 3, none⟩ = some (.string f.text)
theorem OwnMl.read {B : Nat} {w : World} {v : Value} {l : List Ml} (h : OwnMl B w v l) : ReadM w v l := by
  obtain ⟨a, c, hv⟩ := g_shape h
  refine ⟨a, c, hv, fun k f hx => ?_⟩
  obtain ⟨g, c', e, hg, c0, c1, c2, c3⟩ := ml_read h (Below.refl _ _) hx
  rw [hv] at e
  exact ⟨g, (Value.slice.inj e).1, hg, c0, c1, c2, c3⟩
theorem below_dM (W : World) (q : Nat) : Below W.heap.size W (W.drewN q) := ⟨rfl, rfl, rfl, Nat.le_refl _, fun _ _ => rfl⟩

set_option maxHeartbeats 2000000 in
set_option maxRecDepth 100000 in
theorem sameMails_same (l : List Ml) (v1 v2 : Value) (w : World) (hs : l.length ≤ 1048576) (h1 : ReadM w v1 l) (h2 : ReadM w v2 l) :
    Calls Try.prog 13 #[v1, v2] w fun e w' => e = .returned (.bool true) ∧ Below w.heap.size w w' := by
  obtain ⟨a1, c1, rfl, r1⟩ := h1
  obtain ⟨a2, c2, rfl, r2⟩ := h2
  obtain ⟨n, hn⟩ : ∃ n, n = l.length := ⟨_, rfl⟩
  rw [← hn] at hs ⊢
  have R1 := hide r1
  have R2 := hide r2
  have HN := hide hn
  clear r1 r2 hn
  go_enter Try.func13, Try.ntmps13
  go_wp2
  go_loopw [5] (fun i wr => ∃ k q : Nat, k ≤ n ∧ i = .int .i64 k ∧ wr = w.drewN q) (fun i _ => n - (intOf i).toNat)
  case atStart => exact ⟨0, 0, Nat.zero_le _, rfl, rfl⟩
  case round =>
    obtain ⟨k, q, hk, rfl, rfl⟩ := hrel
    by_cases hlt : k < n
    · have hkl : k < l.length := by rw [← unhide HN]; exact hlt
      obtain ⟨g1, rfl, b1, e1, e2, e3, e4⟩ := unhide R1 k l[k] (List.getElem?_eq_getElem hkl)
      obtain ⟨g2, rfl, b2, d1, d2, d3, d4⟩ := unhide R2 k l[k] (List.getElem?_eq_getElem hkl)
      generalize l[k] = x at *
      obtain ⟨xu, xf, xm, xt⟩ := x
      simp only at e1 e2 e3 e4 d1 d2 d3 d4
      go_wp2
      go_quiet (fail)
      go_wp2
      go_roundw
      case rel => exact ⟨k + 1, _, by omega, by go_num, rfl⟩
      case measure => simp [intOf]; omega
    · go_wp2
      go_ret
      exact ⟨rfl, below_dM w q⟩
end Go.Proofs.Ytmedhmgihfenhaa
