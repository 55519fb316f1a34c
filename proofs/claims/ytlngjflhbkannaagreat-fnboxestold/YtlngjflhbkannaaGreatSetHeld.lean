/- Contracts of the specification's sets, in the words of the books. -/
import Derived.Test.YtlngjflhbkannaaGreatBoxA
import Derived.Test.YtlngjflhbkannaaGreatBoxP
import Derived.Test.YtlngjflhbkannaaGreatSetA
namespace Go.Proofs.YtlngjflhbkannaaGreat
open Go.RowKit
open Plain
set_option linter.unusedVariables false
set_option linter.unusedSimpArgs false

theorem below_dN (W : World) (q : Nat) : Below W.heap.size W (W.drewN q) := ⟨rfl, rfl, rfl, Nat.le_refl _, fun _ _ => rfl⟩
theorem setOk_held (s : List Rg) (v : Value) (w : World) (hs : s.length ≤ 1048576) (h : ReadR w v s) :
  Calls Tryz.prog 75 #[v] w fun e w' => e = .returned (.bool (okS s)) ∧ Below w.heap.size w w' :=
 (spec_SetOk_any s v w hs h).mono fun e w' ⟨h1, q, h2⟩ => ⟨h1, by rw [h2]; exact below_dN w q⟩
theorem setHas_held (s : List Rg) (n : Int) (v : Value) (w : World) (hs : s.length ≤ 1048576) (h : ReadR w v s) :
  Calls Tryz.prog 76 #[v, .int .i64 n] w fun e w' => e = .returned (.bool (hasB s n)) ∧ Below w.heap.size w w' :=
 (spec_SetHas_any s n v w hs h).mono fun e w' hx => ⟨hx.1, by rw [hx.2]; exact Below.refl _ _⟩
theorem setAdd_held (s : List Rg) (u : Int) (v : Value) (B : Nat) (w : World) (hs : s.length ≤ 40) (h : OwnR B w v s) :
  Calls Tryz.prog 78 #[v, .int .i64 u, .int .i64 u] w fun e w' => ∃ v', e = .returned (.tuple #[v', .bool (putV s u u true).2]) ∧ OwnR w.heap.size w' v' (addU s u) ∧ Below w.heap.size w w' := spec_SetAdd_any s u u v B w (by omega) h
end Go.Proofs.YtlngjflhbkannaaGreat
