/- Sealed texts: what SumOf, the four bytes of a sum, and both Sealed answer. -/
import Derived.Test.YtnlcknklghalkaaDoorSum
import Derived.Test.YtnlcknklghalkaaDoorBase
import Derived.Deep.AppendLies
import Derived.Laws.IdiomRangeMap
namespace Go.Proofs.YtnlcknklghalkaaDoor
open Go.RowKit
open Plain
set_option linter.unusedVariables false

theorem impl_SumOf_any (s : ByteArray) (w : World) (hs : s.size ≤ 1048576) (ht : Tabbed w) :
    Calls Tryd.prog 25 #[.string s] w fun e w' => e = .returned (.int .u32 (sumOf s.data.toList : Nat)) ∧ Below w.heap.size w w' := by
  have HT := hide ht
  clear ht
  have q := fun W (hb : Below w.heap.size w W) => impl_SumMore_any 4294967295 s W (by omega) hs ((unhide HT).below hb)
  have q0 := q w (Below.refl _ _)
  go_enter Tryd.func25, Tryd.ntmps25
  go_wp2_with (go_at_call 35; refine q0.mono ?_; rintro e w1 ⟨rfl, hb1⟩)
  go_ret
  exact ⟨rfl, hb1⟩

theorem spec_SumOf_any (s : ByteArray) (w : World) (hs : s.size ≤ 1048576) :
    Calls Tryd.prog 32 #[.string s] w fun e w' => e = .returned (.int .u32 (sumOf s.data.toList : Nat)) ∧ w' = w := by
  have q0 := spec_SumMore_any 4294967295 s w (by omega) hs
  go_enter Tryd.func32, Tryd.ntmps32
  go_wp2_with (go_at_call 39; refine q0.mono ?_; rintro e w1 ⟨rfl, rfl⟩)
  go_ret
  exact ⟨rfl, rfl⟩


theorem four_news {W : World} {c : Array Value} (j : Nat) (u : Value) (hj : c[j]? = some u) : (W.alloc (.cells c 5)).cell? ((⟨W.heap.size, 0, none⟩ : Addr).add j) = some u :=
  World.news_of_block (cs := c) (t := 5) (fr := (0, 0)) (heap_alloc_new W _) j u (by simpa using hj)
theorem four_vals (x : Nat) (hx : x < 4294967296) :
    (#[Value.int .u8 ((x : Int) / 16777216), .int .u8 ((x : Int) / 65536 % 256), .int .u8 ((x : Int) / 256 % 256), .int .u8 ((x : Int) % 256)] : Array Value) = (bv (four x)).toArray := by
  simp only [bv, four, List.map_cons, List.map_nil, UInt8.toNat_ofNat']
  rw [show (x : Int) / 16777216 = ((x / 16777216 % 256 : Nat) : Int) from by omega, show (x : Int) / 65536 % 256 = ((x / 65536 % 256 : Nat) : Int) from by omega, show (x : Int) / 256 % 256 = ((x / 256 % 256 : Nat) : Int) from by omega, show (x : Int) % 256 = ((x % 256 : Nat) : Int) from by omega]
/-- The four bytes of a sum that were laid just now, as a string. -/
theorem four_str (W : World) (x : Nat) (hx : x < 4294967296) : (convert 22 9 (.slice (some ⟨W.heap.size, 0, none⟩) 4 4)).run Tryd.prog (W.alloc (.cells #[.int .u8 ((x : Int) / 16777216), .int .u8 ((x : Int) / 65536 % 256), .int .u8 ((x : Int) / 256 % 256), .int .u8 ((x : Int) % 256)] 5)) = .ok (.string ⟨(four x).toArray⟩) (W.alloc (.cells #[.int .u8 ((x : Int) / 16777216), .int .u8 ((x : Int) / 65536 % 256), .int .u8 ((x : Int) / 256 % 256), .int .u8 ((x : Int) % 256)] 5)) := by
  refine run_convert_bytes_back (P := Tryd.prog) _ 22 9 5 ⟨W.heap.size, 0, none⟩ 4 (four x) Tryd.underlying22 Tryd.underlying5 Tryd.underlying9 ?_
  intro j hj
  rw [four_news (W := W) j (.int .u8 (((four x)[j]).toNat : Int)) (by rw [four_vals x hx]; simp [bv, hj])]

theorem l02Four_any (x : Nat) (w : World) (hx : x < 4294967296) :
    Calls Tryd.prog 31 #[.int .u32 x] w fun e w' => e = .returned (.string ⟨(four x).toArray⟩) ∧ Below w.heap.size w w' := by
  have hcv := fun W => four_str W x hx
  go_enter Tryd.func31, Tryd.ntmps31
  go_wp2
  go_ret
  exact ⟨rfl, (Below.refl _ _).alloc (Nat.le_refl _) _⟩
theorem text_any (x : Nat) (w : World) (hx : x < 4294967296) :
    Calls Tryd.prog 26 #[.int .u32 x] w fun e w' => e = .returned (.string ⟨(four x).toArray⟩) ∧ Below w.heap.size w w' := by
  have hcv := fun W => four_str W x hx
  go_enter Tryd.func26, Tryd.ntmps26
  go_wp2
  go_ret
  exact ⟨rfl, (Below.refl _ _).alloc (Nat.le_refl _) _⟩

theorem seal_eq (s : ByteArray) : s ++ ⟨(four (sumOf s.data.toList)).toArray⟩ = ⟨(sealedL s.data.toList).toArray⟩ := by
  rw [show s = ⟨s.data.toList.toArray⟩ from rfl]
  exact ByteArray.mk_append_mk _ _
theorem four_size (x : Nat) : (⟨(four x).toArray⟩ : ByteArray).size = 4 := rfl

end Go.Proofs.YtnlcknklghalkaaDoor
