/- Bytes as texts. Made by gen_edit.py. -/
import Derived.Test.YtecognggnbopaacDoorEtPlain
import Derived.Test.YtecognggnbopaacDoorBase
namespace Go.Proofs.YtecognggnbopaacDoor
open Go.RowKit Go.ChangeShapes Go.WideShapes Go.ChangeAt Go.Deep
open Plain
set_option linter.unusedVariables false
set_option linter.unusedSimpArgs false

theorem wrapB {n : Int} (h0 : 0 ≤ n) (h1 : n < 256) : IntKind.u8.wrap n = n := by have hb : IntKind.u8.bits = 8 := rfl; unfold IntKind.wrap; simp [IntKind.signed, hb]; omega
theorem byteN {n : Int} (h0 : 0 ≤ n) (h1 : n < 256) : (((UInt8.ofNat n.toNat).toNat : Nat) : Int) = n := by
  have : (UInt8.ofNat n.toNat).toNat = n.toNat := by rw [UInt8.toNat_ofNat']; omega
  rw [this]
  omega
theorem conv1 {n : Int} (h0 : 0 ≤ n) (h1 : n < 256) (b : Nat) : ∀ w : World, w.cell? ⟨b, 0, none⟩ = some (.int .u8 n) → (convert 36 9 (.slice (some ⟨b, 0, none⟩) 1 1)).run Tryd.prog w = .ok (.string (oneB n.toNat)) w := fun w hc => by
  refine run_convert_bytes_back (P := Tryd.prog) w 36 9 5 ⟨b, 0, none⟩ 1 [UInt8.ofNat n.toNat] Tryd.underlying36 Tryd.underlying5 Tryd.underlying9 ?_
  intro i hi
  obtain rfl : i = 0 := by simp at hi; omega
  rw [← byteN h0 h1] at hc
  exact hc
theorem conv2 {n m : Int} (h0 : 0 ≤ n) (h1 : n < 256) (g0 : 0 ≤ m) (g1 : m < 256) (b : Nat) : ∀ w : World, w.cell? ⟨b, 0, none⟩ = some (.int .u8 n) → w.cell? ⟨b, 1, none⟩ = some (.int .u8 m) → (convert 36 9 (.slice (some ⟨b, 0, none⟩) 2 2)).run Tryd.prog w = .ok (.string (pairB n.toNat m.toNat)) w := fun w hc hd => by
  refine run_convert_bytes_back (P := Tryd.prog) w 36 9 5 ⟨b, 0, none⟩ 2 [UInt8.ofNat n.toNat, UInt8.ofNat m.toNat] Tryd.underlying36 Tryd.underlying5 Tryd.underlying9 ?_
  intro i hi
  rw [← byteN h0 h1] at hc
  rw [← byteN g0 g1] at hd
  match i, hi with
  | 0, _ => exact hc
  | 1, _ => exact hd
set_option maxHeartbeats 4000000 in
set_option maxRecDepth 100000 in
theorem oneByte_any (n : Int) (w : World) (h0 : 0 ≤ n) (h1 : n < 256) : Calls Tryd.prog 19 #[.int .i64 n] w fun x w' => x = .returned (.string (oneB n.toNat)) ∧ Below w.heap.size w w' := by
  have hw := wrapB h0 h1
  have CV := conv1 h0 h1 w.heap.size (w.alloc (.cells #[.int .u8 n] 5)) ((HasObj.new w 5 [.int .u8 n]).cell 0 rfl)
  go_enter Tryd.func19, Tryd.ntmps19
  go_wp2
  go_ret
  exact ⟨rfl, (Below.refl _ _).alloc (Nat.le_refl _) _⟩
end Go.Proofs.YtecognggnbopaacDoor
