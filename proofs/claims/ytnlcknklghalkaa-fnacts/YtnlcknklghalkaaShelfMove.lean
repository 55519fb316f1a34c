/- A file that takes another name. -/
import Derived.Test.YtnlcknklghalkaaShelfAdd
namespace Go.Proofs.Ytnlcknklghalkaa
open Go.RowKit Go.Maps
open Plain
set_option linter.unusedVariables false

theorem Shelf.aside {B : Nat} {w w' : World} {b : Nat} {s : List (Fl × Nat)} (h : Shelf B w b s) {k : Nat} (hk : ∀ p ∈ s, p.2 ≠ k) (hb : k ≠ b) (hgr : w.grownBy w' (some k)) : Shelf B w' b s := by
  obtain ⟨h1, h2, h3, h4, h5⟩ := h
  refine ⟨h1.kept hgr (by intro e; exact hb (Option.some.inj e).symm), h2, fun p hp => ⟨(h3 p hp).1, ?_⟩, h4, h5⟩
  exact (hgr.block _ (h3 p hp).2.lt (by intro e; exact hk p hp (Option.some.inj e))).trans (h3 p hp).2

set_option maxHeartbeats 1000000 in
set_option maxRecDepth 100000 in
theorem move_any (f : Fl) (g : Nat) (to : ByteArray) (s : List (Fl × Nat)) (b B : Nat) (w : World) (hn : to.size ≤ 1048576) (hS : Shelf B w b s) (hR : DiskR (files s)) (hmem : (f, g) ∈ s) :
    Calls Try.prog 41 #[.map (some b), .pointer (some ⟨g, 0, none⟩), .string to] w (Left1 B w b s (moveL (files s) f to)) := by
  obtain ⟨c0, c1, c2⟩ := (hS.2.2.1 _ hmem).2.cells
  obtain ⟨z0, z1, z2⟩ := (hS.2.2.1 _ hmem).2.frozen
  have HN := hide (fun wx => nameOk_any to wx (by omega))
  have HS := hide hS
  have hfl : f ∈ files s := List.mem_map_of_mem hmem
  obtain ⟨p1, p2, p3, p4⟩ := fileB_parts ((DiskR_iff.1 hR).2.1 f hfl)
  by_cases h1 : f.kept < (f.text.size : Int)
  · have ha : moveL (files s) f to = none := by unfold moveL; rw [if_pos (.inl h1)]
    rw [ha]
    clear hS
    go_enter Try.func41, Try.ntmps41
    go_wp2
    go_quiet (fail)
    go_wp2
    go_ret
    exact ⟨rfl, s, (unhide HS).drew _, rfl, below_draws (Below.refl _ _) _⟩
  have h1' : decide (f.kept < (f.text.size : Int)) = false := by simp; omega
  by_cases h2 : to = f.name
  · have ha : moveL (files s) f to = none := by unfold moveL; rw [if_pos (.inr (.inl h2))]
    rw [ha]
    clear hS
    go_enter Try.func41, Try.ntmps41
    go_wp2
    go_quiet (fail)
    go_wp2
    go_ret
    exact ⟨rfl, s, (unhide HS).drew _, rfl, below_draws (Below.refl _ _) _⟩
  have h2' : (to.toList == f.name.toList) = false := by rw [same_dec]; simpa using h2
  cases hnb : nameB to
  · have ha : moveL (files s) f to = none := by unfold moveL; rw [if_pos (.inr (.inr hnb))]
    rw [ha]
    clear hS
    go_enter Try.func41, Try.ntmps41
    go_wp2
    go_quiet ((go_at_call 51; exact Calls.quiet_of_same (unhide HN _)))
    go_wp2
    go_ret
    exact ⟨rfl, s, (unhide HS).drew _, rfl, below_draws (Below.refl _ _) _⟩
  have ha : moveL (files s) f to = some (putL (withoutL (files s) f.name) ⟨to, f.text, f.kept⟩) := by unfold moveL; rw [if_neg (by simp [hnb, h2]; omega)]
  rw [ha]
  clear hS
  go_enter Try.func41, Try.ntmps41
  go_wp2
  go_quiet ((go_at_call 51; exact Calls.quiet_of_same (unhide HN _)))
  have hS := (unhide HS).drew nq
  have hnm : f.name.size ≤ 8 := by have := p1; simp [nameB] at this; omega
  have hsl : s.length ≤ 30 := by rw [← files_length]; exact hR.1
  have hgb := hS.ne (hS.2.2.1 _ hmem).2
  have hgB := (hS.2.2.1 _ hmem).1
  have hgl := (hS.2.2.1 _ hmem).2.lt
  have hFI := (hS.2.2.1 _ hmem).2
  obtain ⟨w2, hrun1, hS2, hg2⟩ := hS.del (n := f.name) (by omega) 0
  have hF2 : FileIn w2 (f, g) := (hg2.block g hgl (by intro e; exact hgb (Option.some.inj e))).trans hFI
  obtain ⟨d0, d1, d2⟩ := hF2.cells
  obtain ⟨y0, y1, y2⟩ := hF2.frozen
  have hno : ∀ p ∈ withoutS s f.name, p.2 ≠ g := fun p hp e => (withoutS_mem hp).2 (hS.2.2.2.1 p (withoutS_mem hp).1 _ hmem e)
  have hS3 := hS2.aside hno hgb (grown_cell w2 g 0 (.string to))
  have hwl := List.length_filter_le (fun q : Fl × Nat => !(q.1.name.toList == f.name.toList)) s
  obtain ⟨w4, hrun2, hS4, hg4⟩ := hS3.put (p := (⟨to, f.text, f.kept⟩, g)) hn (by unfold withoutS; omega) hgB (hF2.name to) (fun q hq e => absurd e (hno q hq))
  have hb := hS.2.1
  have hbase : B ≤ w.heap.size := hS.base
  have hB2 : Below B w w2 := (below_draws (Below.refl B w) nq).grown hg2 hbase (fun j hj => by have := Option.some.inj hj; omega)
  have hB4 := hide ((hB2.setCell (p := ⟨g, 0, none⟩) hgB (.string to)).grown hg4 (by have := hB2.size; simp; omega) (fun j hj => by have := Option.some.inj hj; omega))
  have HS4 := hide hS4
  clear hS4 hg4 hS3 hS2 hg2 hB2 hS hF2 hFI c0 c1 c2 z0 z1 z2
  have e0 : (w.drewN nq).cell? ⟨g, 0, none⟩ = some (.string f.name) := ((unhide HS).2.2.1 _ hmem).2.cells.1
  go_wp2
  go_ret
  refine ⟨rfl, _, unhide HS4, ?_, unhide hB4⟩
  rw [files_put, files_without]
  rfl
end Go.Proofs.Ytnlcknklghalkaa
