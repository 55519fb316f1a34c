/- The names of a shelf, in order. -/
import Derived.Test.YtnlcknklghalkaaIter
import Derived.Test.YtnlcknklghalkaaShelfW
import Derived.Sort.Walk0
import Derived.Sort.KeysCollected
namespace Go.Proofs.Ytnlcknklghalkaa
open Go.RowKit Go.Maps Go.Sort Go.Shelf
open Plain
set_option linter.unusedVariables false

theorem sortsIn (m : Nat) : AnyZ.SortsIn Try.prog Try.laysSorted_ren Fence.wide m :=
  ⟨fun blk off cap ss W hH hblk hsz => callsIn_wide.2 (AnyM.slices_Sort_string Try.laysSort blk off cap ss W hH hblk hsz),
   fun p cap W => callsIn_wide.2 (AnyM.slices_Sort_string_none Try.laysSort p cap W)⟩
theorem keys_any (mb : Option Nat) (W : World) : Calls Try.prog 43 #[.map mb] W fun e w' =>
    e = .returned (.func (.func 54) #[] #[.pointer (some ⟨W.heap.size, 0, none⟩)]) ∧ w' = W.alloc (.cells #[.map mb] 50) :=
  callsIn_wide.1 (AnyZ.keys_in Try.laysKeys Fence.wide 5 trivial rfl mb W)

theorem strKeys_dm {H : Type} (s : List (Fl × Nat)) : strKeys (dm (H := H) s) = s.map fun p => p.1.name.data.toList := by
  simp [strKeys, dm, ent, strOf]
theorem sorted_is {s : List (Fl × Nat)} {ss : List (List UInt8)} (ha : AscS s) (h : ss.Perm (strKeys (dm (H := Unit) s))) :
    (ss.mergeSort (fun x y => decide (x ≤ y))).map encStr = s.map fun p => Value.string p.1.name := by
  rw [strKeys_dm] at h
  have e1 : ss.mergeSort (fun x y => decide (x ≤ y)) = (s.map fun p => p.1.name.data.toList).mergeSort (fun x y => decide (x ≤ y)) := mergeSort_of_perm h
  rw [e1, List.mergeSort_of_pairwise]
  · rw [List.map_map]
    rfl
  · rw [List.pairwise_map]
    refine List.Pairwise.imp ?_ ha
    intro p q hpq
    have h1 : decide (p.1.name.data.toList < q.1.name.data.toList) = true := by
      rw [← bytesLess_eq, ← ByteArray.toList_eq, ← ByteArray.toList_eq]; exact hpq
    rw [decide_eq_true_iff] at h1 ⊢
    exact List.le_of_lt h1

set_option maxHeartbeats 1000000 in
theorem sorted_any (s : List (Fl × Nat)) (b B : Nat) (w : World) (hS : Shelf B w b s) (hl : s.length ≤ 1048576) :
    Calls Try.prog 42 #[.func (.func 54) #[] #[.pointer (some ⟨w.heap.size, 0, none⟩)]] (w.alloc (.cells #[.map (some b)] 50)) fun e w' =>
      ∃ v, e = .returned v ∧ w'.ownsRow (w.heap.size + 1) 9 1 v s.length (s.map fun p => .string p.1.name) ∧ Below (w.heap.size + 1) (w.alloc (.cells #[.map (some b)] 50)) w' := by
  have hown := hS.1
  have hbl := hown.lt
  have hz := dm_size (H := Unit) s
  have hseq : SeqGives Fence.wide 2 Try.prog 54 #[.pointer (some ⟨w.heap.size, 0, none⟩)] encStr (fun ss => ss.Perm (strKeys (dm (H := Unit) s))) (Maps.size (dm (H := Unit) s)) (w.alloc (.cells #[.map (some b)] 50)) :=
    AnyZ.keys_gives (ρ := Try.laysKeys_ren) { Try.laysKeys with } Fence.wide _ trivial rfl (by omega) w.heap.size b s.length (dm s) _ (by simp) (by simp) (by
      obtain ⟨es, clock, hb, Ft, hs, hD⟩ := hown
      exact ⟨es, clock, (Below.heap_alloc _ _ b hbl).trans hb, Ft, hs, hD⟩)
  have main := AnyZ.sorted_in Try.laysSorted Fence.wide 5 trivial trivial trivial trivial rfl (by omega) (sortsIn _) (enters_of Try.func53 (by kernel_rfl) rfl) 54 #[.pointer (some ⟨w.heap.size, 0, none⟩)] trivial (enters_of Try.func54 (by kernel_rfl) rfl) _ _ (by rw [hz]; unfold maxLen; omega) (by rw [hz]; omega) _ hseq
  refine (callsIn_wide.1 main).mono ?_
  rintro e w' ⟨v, ss, rfl, hp, hrow, hnil, hb⟩
  rw [sorted_is hS.2.2.2.2 hp] at hrow
  have hlen : ss.length = s.length := by rw [hp.length_eq, strKeys_dm]; simp
  rw [hlen] at hrow
  have e1 : (w.alloc (.cells #[.map (some b)] 50)).heap.size = w.heap.size + 1 := by simp
  rw [e1] at hrow hb
  exact ⟨v, rfl, hrow, hb⟩
end Go.Proofs.Ytnlcknklghalkaa
