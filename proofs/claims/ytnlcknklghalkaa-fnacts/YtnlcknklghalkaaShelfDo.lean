/- One act on a shelf. -/
import Derived.Test.YtnlcknklghalkaaShelfMove
namespace Go.Proofs.Ytnlcknklghalkaa
open Go.RowKit Go.Maps
open Plain
set_option linter.unusedVariables false

/-- The cells of an act. -/
def ac (a : Ac) : Array Value := #[.int .i64 a.kind, .string a.name, .string a.text, .string a.to]
def SmallA (m : Nat) (a : Ac) : Prop := a.name.size ≤ m ∧ a.text.size ≤ m ∧ a.to.size ≤ m
theorem row_on {w w' : World} {B k : Nat} {o : Obj} (hb : Below B w w') (h : w.heap[k]? = some o) (hk : k < B) : w'.heap[k]? = some o := (hb.block k hk).trans h
theorem emp_no {n : ByteArray} (h : ¬ n = ByteArray.empty) : n.toList.isEmpty = false := by
  have h1 := ofNatName n h
  rw [ByteArray.toList_eq]
  cases hl : n.data.toList with
  | nil => have : n.data.toList.length = n.size := rfl; rw [hl] at this; simp at this; omega
  | cons a b => rfl

set_option maxHeartbeats 1000000 in
set_option maxRecDepth 100000 in
theorem do_any (a : Ac) (s : List (Fl × Nat)) (b B : Nat) (w : World) (h1 : a.name.size ≤ 1048576) (h2 : a.text.size ≤ 1048576) (h3 : a.to.size ≤ 1048576) (hS : Shelf B w b s) (hR : DiskR (files s)) :
    Calls Try.prog 21 #[.map (some b), .agg #[.int .i64 a.kind, .string a.name, .string a.text, .string a.to]] w (Left1 B w b s (actL (files s) a)) := by
  obtain ⟨kind, n, t, to⟩ := a
  simp only at h1 h2 h3 ⊢
  have hbase := hS.base
  have hW := (Below.refl w.heap.size w).alloc (Nat.le_refl _) (.cells #[.int .i64 kind, .string n, .string t, .string to] 37)
  have hSW := hS.up hW
  have hBW := hW.mono hbase
  have HSW := hide hSW; have HBW := hide hBW
  clear hW hBW hS
  by_cases k1 : kind = 1
  · subst k1
    by_cases e2 : to = ByteArray.empty
    · subst e2
      have hg : ¬ ((t ≠ ByteArray.empty ∧ (1 : Int) ≠ 1) ∨ (ByteArray.empty ≠ ByteArray.empty ∧ (1 : Int) ≠ 3)) := by simp
      rw [actL_add (a := ⟨1, n, t, ByteArray.empty⟩) hg rfl]
      have HA := hide (add_any n t s b B _ h1 h2 hSW hR)
      clear hSW
      by_cases e1 : t = ByteArray.empty
      · subst e1
        go_enter Try.func21, Try.ntmps21
        go_wp2_with (go_at_call 40; refine (unhide HA).mono ?_; rintro e w' ⟨rfl, s', hS', hf', hb'⟩)
        go_ret
        exact ⟨rfl, s', hS', hf', (unhide HBW).trans hb'⟩
      · have e1' := emp_no e1
        go_enter Try.func21, Try.ntmps21
        go_wp2_with (go_at_call 40; refine (unhide HA).mono ?_; rintro e w' ⟨rfl, s', hS', hf', hb'⟩)
        go_ret
        exact ⟨rfl, s', hS', hf', (unhide HBW).trans hb'⟩
    · have e2' := emp_no e2
      by_cases e1 : t = ByteArray.empty
      · subst e1
        have ha : actL (files s) ⟨1, n, ByteArray.empty, to⟩ = none := actL_no (.inr ⟨e2, by simp⟩)
        rw [ha]
        clear ha hSW
        go_enter Try.func21, Try.ntmps21
        go_wp2
        go_ret
        exact ⟨rfl, s, unhide HSW, rfl, unhide HBW⟩
      · have e1' := emp_no e1
        have ha : actL (files s) ⟨1, n, t, to⟩ = none := actL_no (.inr ⟨e2, by simp⟩)
        rw [ha]
        clear ha hSW
        go_enter Try.func21, Try.ntmps21
        go_wp2
        go_ret
        exact ⟨rfl, s, unhide HSW, rfl, unhide HBW⟩
  have k1a : (kind == 1) = false := by simpa using k1
  have k1b : (kind != 1) = true := by simpa using k1
  by_cases e1 : t = ByteArray.empty
  case neg =>
    have e1' := emp_no e1
    have ha : actL (files s) ⟨kind, n, t, to⟩ = none := actL_no (.inl ⟨e1, k1⟩)
    rw [ha]
    clear ha hSW
    go_enter Try.func21, Try.ntmps21
    go_wp2
    go_ret
    exact ⟨rfl, s, unhide HSW, rfl, unhide HBW⟩
  subst e1
  by_cases hto : to ≠ ByteArray.empty ∧ kind ≠ 3
  · have e2' := emp_no hto.1
    have k3a : (kind == 3) = false := by simpa using hto.2
    have k3b : (kind != 3) = true := by simpa using hto.2
    have ha : actL (files s) ⟨kind, n, ByteArray.empty, to⟩ = none := actL_no (.inr hto)
    rw [ha]
    clear ha hSW
    go_enter Try.func21, Try.ntmps21
    go_wp2
    go_ret
    exact ⟨rfl, s, unhide HSW, rfl, unhide HBW⟩
  have hg : ¬ (((⟨kind, n, ByteArray.empty, to⟩ : Ac).text ≠ ByteArray.empty ∧ (⟨kind, n, ByteArray.empty, to⟩ : Ac).kind ≠ 1) ∨ ((⟨kind, n, ByteArray.empty, to⟩ : Ac).to ≠ ByteArray.empty ∧ (⟨kind, n, ByteArray.empty, to⟩ : Ac).kind ≠ 3)) := by rintro (h | h); exact h.1 rfl; exact hto h
  cases hf : fileOf (files s) n with
  | none =>
    have hlook := hSW.look_no h1 (findS_no hf)
    by_cases e2 : to = ByteArray.empty
    · subst e2
      have ha : actL (files s) ⟨kind, n, ByteArray.empty, ByteArray.empty⟩ = none := actL_none k1 hf
      rw [ha]
      clear ha hSW
      go_enter Try.func21, Try.ntmps21
      go_wp2
      go_ret
      exact ⟨rfl, s, unhide HSW, rfl, unhide HBW⟩
    · have e2' := emp_no e2
      obtain rfl : kind = 3 := by by_cases h : kind = 3; exact h; exact absurd ⟨e2, h⟩ hto
      have ha : actL (files s) ⟨3, n, ByteArray.empty, to⟩ = none := actL_none k1 hf
      rw [ha]
      clear ha hSW
      go_enter Try.func21, Try.ntmps21
      go_wp2
      go_ret
      exact ⟨rfl, s, unhide HSW, rfl, unhide HBW⟩
  | some f =>
    obtain ⟨g, hfn⟩ := findS_of hf
    have hlook := hSW.look h1 hfn
    obtain ⟨hmem, hname⟩ := findS_mem hfn
    have hname : f.name = n := hname
    have hFI := (hSW.2.2.1 _ hmem).2
    have hgB := (hSW.2.2.1 _ hmem).1
    by_cases k3 : kind = 3
    · subst k3
      rw [actL_move (a := ⟨3, n, ByteArray.empty, to⟩) hg rfl hf]
      have HA := hide (move_any f g to s b B _ h3 hSW hR hmem)
      clear hSW hFI hname
      by_cases e2 : to = ByteArray.empty
      · subst e2
        go_enter Try.func21, Try.ntmps21
        go_wp2_with (go_at_call 41; refine (unhide HA).mono ?_; rintro e w' ⟨rfl, s', hS', hf', hb'⟩)
        go_ret
        exact ⟨rfl, s', hS', hf', (unhide HBW).trans hb'⟩
      · have e2' := emp_no e2
        go_enter Try.func21, Try.ntmps21
        go_wp2_with (go_at_call 41; refine (unhide HA).mono ?_; rintro e w' ⟨rfl, s', hS', hf', hb'⟩)
        go_ret
        exact ⟨rfl, s', hS', hf', (unhide HBW).trans hb'⟩
    obtain rfl : to = ByteArray.empty := by by_cases h : to = ByteArray.empty; exact h; exact absurd ⟨h, k3⟩ hto
    have k3a : (kind == 3) = false := by simpa using k3
    by_cases k2 : kind = 2
    · subst k2
      rw [actL_keep (a := ⟨2, n, ByteArray.empty, ByteArray.empty⟩) hg rfl hf]
      obtain ⟨c0, c1, c2⟩ := hFI.cells
      obtain ⟨z0, z1, z2⟩ := hFI.frozen
      have HS2 := hide (hSW.write (g := ⟨f.name, f.text, (f.text.size : Int)⟩) hmem rfl (hFI.kept (f.text.size : Int)) (grown_cell _ g 2 _))
      have HB2 := hide ((unhide HBW).setCell (p := ⟨g, 2, none⟩) hgB (.int .i64 (f.text.size : Int)))
      simp only at c0 c1 c2 z0 z1 z2
      have HNM := hide hname
      clear hSW hFI hname
      go_enter Try.func21, Try.ntmps21
      go_wp2
      go_ret
      exact ⟨rfl, _, unhide HS2, by rw [files_put, unhide HNM]; rfl, unhide HB2⟩
    have k2a : (kind == 2) = false := by simpa using k2
    by_cases k4 : kind = 4
    · subst k4
      rw [actL_drop (a := ⟨4, n, ByteArray.empty, ByteArray.empty⟩) hg rfl hf]
      obtain ⟨w2, hrun, hS2, hg2⟩ := hSW.del h1 0
      have hbb := hSW.2.1
      have HS2 := hide hS2
      have HB2 := hide ((unhide HBW).grown hg2 (by simp; omega) (fun j hj => by have := Option.some.inj hj; omega))
      clear hSW hFI hname hS2 hg2
      go_enter Try.func21, Try.ntmps21
      go_wp2
      go_ret
      exact ⟨rfl, _, unhide HS2, files_without _ _, unhide HB2⟩
    have k4a : (kind == 4) = false := by simpa using k4
    clear hFI hname
    have ha : actL (files s) ⟨kind, n, ByteArray.empty, ByteArray.empty⟩ = none := actL_odd k1 k2 k3 k4
    rw [ha]
    clear ha hSW
    go_enter Try.func21, Try.ntmps21
    go_wp2
    go_ret
    exact ⟨rfl, s, unhide HSW, rfl, unhide HBW⟩
end Go.Proofs.Ytnlcknklghalkaa
