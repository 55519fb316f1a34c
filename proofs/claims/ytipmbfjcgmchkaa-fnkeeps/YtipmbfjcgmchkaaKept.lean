/- Disks of which all is kept. -/
import Derived.Test.YtipmbfjcgmchkaaDiskI
import Derived.Test.YtipmbfjcgmchkaaDiskS
namespace Go.Proofs.Ytipmbfjcgmchkaa
open Go.RowKit
open Plain
set_option linter.unusedVariables false

def KeptR (l : List Fl) : Prop := DiskR l ∧ ∀ f ∈ l, (f.text.size : Int) ≤ f.kept
def keptB (l : List Fl) : Bool := diskB l && l.all fun f => decide ((f.text.size : Int) ≤ f.kept)
theorem keptB_iff {l : List Fl} : keptB l = true ↔ KeptR l := by
  unfold keptB KeptR
  rw [Bool.and_eq_true, diskB_iff, List.all_eq_true]
  simp
theorem keptB_yes {l : List Fl} (h : KeptR l) : keptB l = true := keptB_iff.2 h
theorem keptB_no {l : List Fl} (h : ¬ KeptR l) : keptB l = false := by
  cases e : keptB l
  · rfl
  · exact absurd (keptB_iff.1 e) h

set_option maxHeartbeats 1000000 in
set_option maxRecDepth 100000 in
theorem impl_AllKept_any (l : List Fl) (v : Value) (B : Nat) (w : World) (hs : SmallF 1048576 l) (h : OwnF B w v l) :
    Calls Try.prog 15 #[.agg #[v]] w fun e w' => e = .returned (.bool (keptB l)) ∧ Below w.heap.size w w' := by
  obtain ⟨a, c, rfl, hcell⟩ := h.shape
  have hs0 := hs.1
  have HC := hide hcell
  have HS := hide hs
  have HO := hide h
  clear h hcell hs
  go_enter Try.func15, Try.ntmps15
  go_wp2_with fail
  have hb0 := (Below.refl w.heap.size w).alloc (Nat.le_refl _) (.cells #[.slice a l.length c] 26)
  have e0 : (w.alloc (.cells #[.slice a l.length c] 26)).cell? ⟨w.heap.size, 0, none⟩ = some (.slice a l.length c) := by go_simp
  have hsz : w.heap.size < (w.alloc (.cells #[.slice a l.length c] 26)).heap.size := by simp
  generalize w.alloc (.cells #[.slice a l.length c] 26) = W at *
  refine (impl_DiskOk_any l _ B W (unhide HS) (own_stays (unhide HO) hb0)).mono ?_
  rintro e w1 ⟨rfl, hb1⟩
  have e1 := (hb1.cell (p := ⟨w.heap.size, 0, none⟩) hsz).trans e0
  have hB := hb0.trans (hb1.mono (by omega))
  cases hd : diskB l
  · have HR := hide (keptB_no (l := l) fun hk => by have := diskB_yes hk.1; rw [hd] at this; cases this)
    clear hd
    go_wp2
    go_ret
    exact ⟨by rw [unhide HR]; rfl, hB⟩
  · have HD := hide (diskB_iff.1 hd)
    clear hd
    go_wp2
    go_loopw [11] (fun i wr => ∃ k : Nat, k ≤ l.length ∧ i = .int .i64 k ∧ (∀ f ∈ l.take k, (f.text.size : Int) ≤ f.kept) ∧ Below w.heap.size w wr) (fun i _ => l.length - (intOf i).toNat)
    case atStart => exact ⟨0, Nat.zero_le _, rfl, by simp, hB⟩
    case round =>
      obtain ⟨k, hk, rfl, hok, hbel⟩ := hrel
      by_cases hlt : k < l.length
      · have hgk : l[k]? = some l[k] := List.getElem?_eq_getElem hlt
        obtain ⟨g, rfl, hgl, c0, c1, c2⟩ := unhide HC k l[k] hgk
        obtain ⟨hn1, hn2⟩ := (unhide HS).2 l[k] (List.getElem_mem _)
        rw [← hbel.cell (p := ⟨g, _, none⟩) hgl] at c0 c1 c2
        have hsnoc := hide (show l.take (k + 1) = l.take k ++ [l[k]] from List.take_succ_eq_append_getElem hlt)
        have hmem := hide (show l[k] ∈ l from List.getElem_mem _)
        have HK := hide hok
        generalize l[k] = f at *
        clear hgk hok
        by_cases hkf : f.kept < (f.text.size : Int)
        · have HR := hide (keptB_no (l := l) fun hk => by have := hk.2 f (unhide hmem); omega)
          go_wp2
          go_ret
          exact ⟨by rw [unhide HR]; rfl, hbel.alloc hbel.size _⟩
        · go_wp2
          go_roundw
          case rel =>
            refine ⟨k + 1, by omega, by go_num, ?_, hbel.alloc hbel.size _⟩
            rw [unhide hsnoc]
            intro f' hf'
            rcases List.mem_append.1 hf' with h1 | h1
            · exact unhide HK f' h1
            · simp at h1; subst h1; omega
          case measure => simp [intOf]; omega
      · obtain rfl : k = l.length := by omega
        rw [List.take_of_length_le (Nat.le_refl _)] at hok
        have HR := hide (keptB_yes ⟨unhide HD, hok⟩)
        clear hok
        go_wp2
        go_ret
        exact ⟨by rw [unhide HR]; rfl, hbel⟩

end Go.Proofs.Ytipmbfjcgmchkaa
