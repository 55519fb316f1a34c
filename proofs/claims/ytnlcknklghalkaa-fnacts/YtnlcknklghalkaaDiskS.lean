/- The specification's test of a disk, at disks of a smaller size. -/
import Derived.Test.YtnlcknklghalkaaDiskSB
namespace Go.Proofs.Ytnlcknklghalkaa
open Go.RowKit
open Plain

theorem SmallF.wide {m n : Nat} {l : List Fl} (h : SmallF m l) (hm : m ≤ n) : SmallF n l := ⟨Nat.le_trans h.1 hm, fun f hf => ⟨Nat.le_trans (h.2 f hf).1 hm, Nat.le_trans (h.2 f hf).2 hm⟩⟩
theorem spec_DiskOk_any (l : List Fl) (v : Value) (B : Nat) (w : World) (hs : SmallF 1048576 l) (h : OwnF B w v l) :
    Calls Try.prog 44 #[.agg #[v]] w fun e w' => e = .returned (.bool (diskB l)) ∧ Below w.heap.size w w' :=
  spec_DiskOk_big l v B w (hs.wide (by omega)) h
end Go.Proofs.Ytnlcknklghalkaa
