/- What comes behind a file's text; a file that takes another name. -/
import Derived.Test.YtnlcknklghalkaaShelfW
namespace Go.Proofs.Ytnlcknklghalkaa
open Go.RowKit Go.Maps
open Plain
set_option linter.unusedVariables false

/-- What an act on a shelf leaves: the answer, and the shelf. -/
def Left1 (B : Nat) (w : World) (b : Nat) (s : List (Fl × Nat)) (o : Option (List Fl)) (e : Ending) (w' : World) : Prop :=
  e = .returned (.bool o.isSome) ∧ ∃ s', Shelf B w' b s' ∧ files s' = o.getD (files s) ∧ Below B w w'

theorem Shelf.base {B : Nat} {w : World} {b : Nat} {s : List (Fl × Nat)} (h : Shelf B w b s) : B ≤ w.heap.size := Nat.le_trans h.2.1 (Nat.le_of_lt h.lt)
theorem findS_of {s : List (Fl × Nat)} {n : ByteArray} {f : Fl} (h : fileOf (files s) n = some f) : ∃ g, findS s n = some (f, g) := by
  rw [files_find] at h
  cases hs : findS s n with
  | none => rw [hs] at h; cases h
  | some p => rw [hs] at h; cases h; exact ⟨p.2, rfl⟩
theorem findS_no {s : List (Fl × Nat)} {n : ByteArray} (h : fileOf (files s) n = none) : findS s n = none := by
  rw [files_find] at h
  cases hs : findS s n with
  | none => rfl
  | some p => rw [hs] at h; cases h

theorem grown_cell (w : World) (g j : Nat) (u : Value) : w.grownBy (w.setCell ⟨g, j, none⟩ u) (some g) :=
  ⟨rfl, rfl, rfl, by simp, fun k _ hne => Below.heap_setCell _ _ _ k (fun e => hne (by rw [e]))⟩

set_option maxHeartbeats 1000000 in
set_option maxRecDepth 100000 in
theorem add_any (n t : ByteArray) (s : List (Fl × Nat)) (b B : Nat) (w : World) (hn : n.size ≤ 1048576) (ht : t.size ≤ 1048576) (hS : Shelf B w b s) (hR : DiskR (files s)) :
    Calls Try.prog 40 #[.map (some b), .string n, .string t] w (Left1 B w b s (addL (files s) n t)) := by
  have hlen : s.length ≤ 30 := by rw [← files_length]; exact hR.1
  cases hf : fileOf (files s) n with
  | none =>
    have hfn := findS_no hf
    have hlook := hS.look_no hn hfn
    have hbase := hS.base
    have hW := (Below.refl w.heap.size w).alloc (Nat.le_refl _) (.cells #[.string n, .string ⟨#[]⟩, .int .i64 0] 55)
    have hSW := hS.up hW
    have hBW : Below B w (w.alloc (.cells #[.string n, .string ⟨#[]⟩, .int .i64 0] 55)) := hW.mono hbase
    have hln := fun ty => hSW.len ty
    have HN := hide (fun wx => nameOk_any n wx (by omega))
    have HSW := hide hSW; have HBW := hide hBW
    have hsl : (files s).length = s.length := files_length s
    by_cases h30 : s.length = 30
    · have ha : addL (files s) n t = none := by unfold addL; rw [hf]; simp only; rw [if_pos (.inl (by omega))]
      rw [ha]
      clear hSW hBW hW
      go_enter Try.func40, Try.ntmps40
      go_wp2
      go_ret
      exact ⟨rfl, s, unhide HSW, rfl, unhide HBW⟩
    have h30' : ((s.length : Int) == 30) = false := by simp; omega
    cases hnb : nameB n
    · have ha : addL (files s) n t = none := by unfold addL; rw [hf]; simp only; rw [if_pos (.inr (.inl hnb))]
      rw [ha]
      clear hSW hBW hW
      go_enter Try.func40, Try.ntmps40
      go_wp2_with (go_at_call 51; refine (unhide HN _).mono ?_; rintro e w' ⟨rfl, hw⟩; subst w')
      go_ret
      exact ⟨rfl, s, unhide HSW, rfl, unhide HBW⟩
    by_cases h2 : 20000 < t.size
    · have ha : addL (files s) n t = none := by unfold addL; rw [hf]; simp only; rw [if_pos (.inr (.inr h2))]
      rw [ha]
      clear hSW hBW hW
      go_enter Try.func40, Try.ntmps40
      go_wp2_with (go_at_call 51; refine (unhide HN _).mono ?_; rintro e w' ⟨rfl, hw⟩; subst w')
      go_ret
      exact ⟨rfl, s, unhide HSW, rfl, unhide HBW⟩
    · have ha : addL (files s) n t = some (putL (files s) ⟨n, t, 0⟩) := by unfold addL; rw [hf]; simp only; rw [if_neg (by simp [hnb]; omega)]
      rw [ha]
      clear hSW hBW hW
      have hW2 := (Below.refl w.heap.size w).alloc (Nat.le_refl _) (.cells #[.string n, .string (⟨#[]⟩ ++ t), .int .i64 0] 55)
      obtain ⟨w3, hrun, hS3, hg3⟩ := (hS.up hW2).put (p := (⟨n, (⟨#[]⟩ : ByteArray) ++ t, 0⟩, w.heap.size)) hn (by omega) hbase (heap_alloc_new w _) (fun q hq e => by
        have := ((hS.2.2.1 q hq).2).lt
        have e : q.2 = w.heap.size := e
        omega)
      have HS3 := hide hS3
      have HB3 := hide ((hW2.mono hbase).grown hg3 (by simp; omega) (fun j hj => by have := Option.some.inj hj; have := hS.2.1; omega))
      have h2' : decide (20000 < (t.size : Int)) = false := by simp; omega
      clear hS3 hg3 hW2 hS
      go_enter Try.func40, Try.ntmps40
      go_wp2_with (go_at_call 51; refine (unhide HN _).mono ?_; rintro e w' ⟨rfl, hw⟩; subst w')
      go_ret
      refine ⟨rfl, _, unhide HS3, ?_, unhide HB3⟩
      rw [files_put]
      have e2 : (⟨#[]⟩ : ByteArray) ++ t = t := by show ByteArray.empty ++ t = t; simp
      rw [e2]
      rfl
  | some f =>
    obtain ⟨g, hfn⟩ := findS_of hf
    have hlook := hS.look hn hfn
    have hbase := hS.base
    obtain ⟨hmem, hname⟩ := findS_mem hfn
    obtain ⟨c0, c1, c2⟩ := (hS.2.2.1 _ hmem).2.cells
    obtain ⟨z0, z1, z2⟩ := (hS.2.2.1 _ hmem).2.frozen
    have HN := hide (fun wx => nameOk_any n wx (by omega))
    have htx : f.text.size ≤ 20000 := (fileB_parts ((DiskR_iff.1 hR).2.1 f (fileOf_mem hf).1)).2.1
    cases hnb : nameB n
    · have ha : addL (files s) n t = none := by unfold addL; rw [hf]; simp only; rw [if_pos (.inl hnb)]
      rw [ha]
      go_enter Try.func40, Try.ntmps40
      go_wp2_with (go_at_call 51; refine (unhide HN _).mono ?_; rintro e w' ⟨rfl, hw⟩; subst w')
      go_ret
      exact ⟨rfl, s, hS, rfl, Below.refl _ _⟩
    by_cases h2 : 20000 < f.text.size + t.size
    · have ha : addL (files s) n t = none := by unfold addL; rw [hf]; simp only; rw [if_pos (.inr h2)]
      rw [ha]
      go_enter Try.func40, Try.ntmps40
      go_wp2_with (go_at_call 51; refine (unhide HN _).mono ?_; rintro e w' ⟨rfl, hw⟩; subst w')
      go_ret
      exact ⟨rfl, s, hS, rfl, Below.refl _ _⟩
    · have ha : addL (files s) n t = some (putL (files s) ⟨n, f.text ++ t, f.kept⟩) := by unfold addL; rw [hf]; simp only; rw [if_neg (by simp [hnb]; omega)]
      rw [ha]
      have hname : f.name = n := hname
      have hS2 := hS.write (g := ⟨f.name, f.text ++ t, f.kept⟩) hmem rfl ((hS.2.2.1 _ hmem).2.text (f.text ++ t)) (grown_cell w g 1 _)
      have hgB : B ≤ g := (hS.2.2.1 _ hmem).1
      have hl2 := putS_len_le s (⟨f.name, f.text ++ t, f.kept⟩, g)
      obtain ⟨w3, hrun, hS3, hg3⟩ := hS2.put (p := (⟨f.name, f.text ++ t, f.kept⟩, g)) (by rw [hname]; exact hn) (by omega) hgB ((hS.2.2.1 _ hmem).2.text (f.text ++ t)) (fun q hq e => hS2.2.2.2.1 q hq _ (by simp [putS]) e)
      rw [putS_twice] at hS3
      have hrun : (Instr.mapUpdate 50 (.map (some b)) (.string n) (.pointer (some ⟨g, 0, none⟩))).run Try.prog (w.setCell ⟨g, 1, none⟩ (.string (f.text ++ t))) = .ok () w3 := by rw [← hname]; exact hrun
      have HS3 := hide hS3
      have HB3 := hide (((Below.refl B w).setCell (p := ⟨g, 1, none⟩) hgB (.string (f.text ++ t))).grown hg3 (by simp; exact hbase) (fun j hj => by have := Option.some.inj hj; have := hS.2.1; omega))
      have h2' : decide (20000 - (f.text.size : Int) < (t.size : Int)) = false := by simp; omega
      have HNM := hide hname
      clear hS3 hg3 hS2 hS hname
      go_enter Try.func40, Try.ntmps40
      go_wp2_with (go_at_call 51; refine (unhide HN _).mono ?_; rintro e w' ⟨rfl, hw⟩; subst w')
      go_ret
      refine ⟨rfl, _, unhide HS3, ?_, unhide HB3⟩
      rw [files_put, unhide HNM]
      rfl
end Go.Proofs.Ytnlcknklghalkaa
