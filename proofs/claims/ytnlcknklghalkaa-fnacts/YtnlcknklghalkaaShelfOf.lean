/- The shelf of a right disk. -/
import Derived.Test.YtnlcknklghalkaaShelfW
namespace Go.Proofs.Ytnlcknklghalkaa
open Go.RowKit Go.Maps
open Plain
set_option linter.unusedVariables false

theorem asc_take {l : List Fl} (h : Asc l) {k : Nat} {f : Fl} (hf : l[k]? = some f) : ∀ g ∈ l.take k, ltB g.name f.name = true := by
  intro g hg
  obtain ⟨hk, rfl⟩ := List.getElem?_eq_some_iff.1 hf
  obtain ⟨j, hj, rfl⟩ := List.mem_take_iff_getElem.1 hg
  exact List.pairwise_iff_getElem.1 h j k (by omega) hk (by omega)

set_option maxHeartbeats 1000000 in
set_option maxRecDepth 100000 in
theorem shelfOf_any (l : List Fl) (v : Value) (B : Nat) (w : World) (hd : DiskR l) (h : OwnF B w v l) :
    Calls Try.prog 20 #[.agg #[v]] w fun e w' => ∃ b s, e = .returned (.map (some b)) ∧ files s = l ∧ Shelf w.heap.size w' b s ∧ Below w.heap.size w w' := by
  obtain ⟨a, c, rfl, hcell⟩ := h.shape
  have HC := hide hcell
  have hl : l.length ≤ 30 := hd.1
  have HD := hide (DiskR_iff.1 hd)
  clear h hcell hd
  have hmm := @run_makeMap Try.prog
  go_enter Try.func20, Try.ntmps20
  go_wp2
  have hb0 := ((Below.refl w.heap.size w).alloc (Nat.le_refl _) (.cells #[.slice a l.length c] 26)).alloc (by simp) (.map #[] 0)
  have hS0 : Shelf w.heap.size ((w.alloc (.cells #[.slice a l.length c] 26)).alloc (.map #[] 0)) (w.heap.size + 1) [] := by
    have := Shelf.made (B := w.heap.size) (w.alloc (.cells #[.slice a l.length c] 26)) (by simp)
    simpa using this
  generalize ((w.alloc (.cells #[.slice a l.length c] 26)).alloc (.map #[] 0)) = W at *
  go_loopw [11] (fun i wr => ∃ (k : Nat) (s : List (Fl × Nat)), k ≤ l.length ∧ i = .int .i64 k ∧ files s = l.take k ∧ Shelf w.heap.size wr (w.heap.size + 1) s ∧ Below w.heap.size w wr) (fun i _ => l.length - (intOf i).toNat)
  case atStart => exact ⟨0, [], Nat.zero_le _, rfl, rfl, hS0, hb0⟩
  case round =>
    obtain ⟨k, s, hk, rfl, hfs, hS, hbel⟩ := hrel
    by_cases hlt : k < l.length
    · have hgk : l[k]? = some l[k] := List.getElem?_eq_getElem hlt
      obtain ⟨g, rfl, hgl, c0, c1, c2⟩ := unhide HC k l[k] hgk
      rw [← hbel.cell (p := ⟨g, _, none⟩) hgl] at c0 c1 c2
      have hasc := asc_take (unhide HD).2.2 hgk
      have hfb := fileB_parts ((unhide HD).2.1 _ (List.getElem_mem hlt))
      have hnm : l[k].name.size ≤ 8 := by have := hfb.1; simp [nameB] at this; omega
      have htk : l.take (k + 1) = l.take k ++ [l[k]] := List.take_succ_eq_append_getElem hlt
      have HT := hide htk; have HF := hide hasc
      clear hasc hfb htk
      generalize l[k] = f at *
      have hW := ((Below.refl wr.heap.size wr).alloc (Nat.le_refl _) (.cells #[.string f.name, .string f.text, .int .i64 f.kept] 55)).alloc (by simp) (.cells #[.string f.name, .string f.text, .int .i64 f.kept] 55)
      have hsl : s.length ≤ 30 := by rw [← files_length, hfs, List.length_take]; omega
      obtain ⟨w3, hrun, hS3, hg3⟩ := (hS.up hW).put (p := (f, wr.heap.size + 1)) (by show f.name.size ≤ _; omega) (by omega) (by have := hbel.size; show w.heap.size ≤ wr.heap.size + 1; omega) (heap_alloc2_new _ _ _) (fun q hq e => by have := ((hS.2.2.1 q hq).2).lt; have e : q.2 = wr.heap.size + 1 := e; omega)
      have HS3 := hide hS3
      have HB3 := hide ((hbel.trans (hW.mono hbel.size)).grown hg3 (by have := hbel.size; simp; omega) (fun j hj => by have := Option.some.inj hj; omega))
      have HP := hide (show files (putS s (f, wr.heap.size + 1)) = l.take (k + 1) by
        rw [putS_last (fun q hq => unhide HF q.1 (by rw [← hfs]; exact List.mem_map_of_mem hq))]
        rw [unhide HT, ← hfs]; simp [files])
      clear hS3 hg3 hW hS hfs hbel
      go_wp2
      go_roundw
      case rel => exact ⟨k + 1, _, by omega, by go_num, unhide HP, unhide HS3, unhide HB3⟩
      case measure => simp [intOf]; omega
    · obtain rfl : k = l.length := by omega
      rw [List.take_length] at hfs
      have HS := hide hS
      clear hS
      go_wp2
      go_ret
      exact ⟨_, s, rfl, hfs, unhide HS, hbel⟩
end Go.Proofs.Ytnlcknklghalkaa
