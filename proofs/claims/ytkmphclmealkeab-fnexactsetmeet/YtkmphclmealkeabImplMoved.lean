/- The program's rows, put one behind the other in new memory. -/
import Derived.Test.YtkmphclmealkeabImplSet
import Derived.Test.YtkmphclmealkeabCopyK
namespace Go.Proofs.Ytkmphclmealkeab
open Go.RowKit Go.Deep
open Plain
set_option linter.unusedVariables false

def flatP (ps : List (Value × List Rg)) : List Rg := ps.flatMap (·.2)
theorem flatP_take {ps : List (Value × List Rg)} {k : Nat} {p : Value × List Rg} (h : ps[k]? = some p) : flatP (ps.take (k + 1)) = flatP (ps.take k) ++ p.2 := by
  unfold flatP
  rw [List.take_add_one, h]
  simp
theorem flatP_le (ps : List (Value × List Rg)) (k : Nat) : (flatP (ps.take k)).length ≤ (flatP ps).length := by
  have : flatP ps = flatP (ps.take k) ++ flatP (ps.drop k) := by unfold flatP; rw [← List.flatMap_append, List.take_append_drop]
  rw [this]; simp
/-- Rows in a row, each of which can be read. -/
def RowsO (w : World) (b : Nat) (ps : List (Value × List Rg)) : Prop := b < w.heap.size ∧ ∀ (i : Nat) (p : Value × List Rg), ps[i]? = some p → w.cell? ⟨b, i, none⟩ = some p.1 ∧ ReadO w p.1 p.2
theorem RowsO.up {w w' : World} {b : Nat} {ps : List (Value × List Rg)} (h : RowsO w b ps) (hb : Below w.heap.size w w') : RowsO w' b ps :=
  ⟨Nat.lt_of_lt_of_le h.1 hb.size, fun i p hp => ⟨g_cell hb (h.2 i p hp).1, (h.2 i p hp).2.up hb⟩⟩
theorem readO_cells {w : World} {g o n c : Nat} {l : List Rg} (h : ReadO w (.slice (some ⟨g, o, none⟩) n c) l) : ∀ j v, (rgs l)[j]? = some v → w.cell? ((⟨g, o, none⟩ : Addr).add j) = some v := by
  obtain ⟨a, c', hv, _, hc⟩ := h
  cases hv
  intro j v hj
  have hadd : (⟨g, o, none⟩ : Addr).add j = ⟨g, o + j, none⟩ := by unfold Addr.add; split <;> simp_all
  obtain ⟨q, r, rfl, hr⟩ : ∃ q r, j = q * 2 + r ∧ r < 2 := ⟨j / 2, j % 2, by omega, Nat.mod_lt _ (by omega)⟩
  have hq : q < l.length := by
    have := (List.getElem?_eq_some_iff.1 hj).1
    rw [rgs_length] at this
    omega
  have hx : l[q]? = some l[q] := List.getElem?_eq_getElem hq
  obtain ⟨g', o', hg, _, c0, c1⟩ := hc q _ hx
  cases hg
  rw [hadd]
  rw [rgs_get l q _ hx r hr] at hj
  match r, hr with
  | 0, _ =>
    simp [rgl] at hj
    rw [← hj]
    exact c0
  | 1, _ =>
    simp [rgl] at hj
    rw [← hj]
    exact c1
theorem rgs_one (l : List Rg) : ∀ v ∈ rgs l, v.oneCell' = true := by
  intro v hv
  unfold rgs at hv
  obtain ⟨r, _, hr⟩ := List.mem_flatMap.1 hv
  simp [rgl] at hr
  rcases hr with rfl | rfl <;> rfl
theorem splice_laid (d l : List Rg) (m : Nat) (h : l.length ≤ m) : splice (rgs (d ++ List.replicate m rg0)) (d.length * 2) (rgs l) = rgs (d ++ l ++ List.replicate (m - l.length) rg0) := by
  unfold splice
  have e : List.replicate m rg0 = List.replicate l.length rg0 ++ List.replicate (m - l.length) rg0 := by rw [List.replicate_append_replicate]; congr 1; omega
  rw [rgs_append, List.take_left' (by rw [rgs_length]), rgs_length, ← rgs_length d, ← List.drop_drop, List.drop_left, e, rgs_append, List.drop_left' (by simp [rgs_length]), List.append_assoc, rgs_append, rgs_append]

set_option maxHeartbeats 4000000 in
set_option maxRecDepth 100000 in
theorem impl_moved_full (ps : List (Value × List Rg)) (b c : Nat) (w : World) (hn : ps.length ≤ 3) (hs : (flatP ps).length ≤ 8000000) (h : RowsO w b ps) :
    Calls Try.prog 27 #[.slice (some ⟨b, 0, none⟩) ps.length c] w fun e w' => ∃ v, e = .returned v ∧ OwnR w.heap.size w' v (flatP ps) ∧ Below w.heap.size w w' ∧ ∃ g n c, v = .slice (some ⟨g, 0, none⟩) n c := by
  obtain ⟨i0, hi, hz0, hz1, hz2⟩ := info_parts Try.infoRange
  have hsz2 : (Try.prog.info? 37).map (·.size) = some 2 := by rw [hi]; exact congrArg some hz1
  have H := hide h
  clear h
  go_enter Try.func27, Try.ntmps27
  go_wp2
  go_loopw [3, 12] (fun z i wr => ∃ k : Nat, k ≤ ps.length ∧ i = .int .i64 k ∧ z = .int .i64 ((flatP (ps.take k)).length : Int) ∧ wr = w) (fun _ i _ => ps.length - (intOf i).toNat)
  case atStart => exact ⟨0, Nat.zero_le _, rfl, rfl, rfl⟩
  case round =>
    obtain ⟨k, hk, rfl, rfl, hw⟩ := hrel
    subst wr
    by_cases hlt : k < ps.length
    · have hgk : ps[k]? = some ps[k] := List.getElem?_eq_getElem hlt
      obtain ⟨c0, r0⟩ := (unhide H).2 k _ hgk
      have T := hide (flatP_take hgk)
      have hbk : b < w.heap.size := (unhide H).1
      have hle := flatP_le ps (k + 1)
      rw [unhide T, List.length_append] at hle
      have TL : Hid (((flatP (ps.take k)).length + ps[k].2.length : Nat) = (flatP (ps.take (k + 1))).length) := by rw [unhide T, List.length_append]; rfl
      generalize ps[k] = p at *
      obtain ⟨pv, pl⟩ := p
      obtain ⟨a, cp, hv, _, _⟩ := r0
      simp only at hv c0 hle TL T
      subst hv
      generalize (flatP (ps.take k)).length = z at *
      have hik : (0 : Int) ≤ (k : Int) := by omega
      have hil : (k : Int) < (ps.length : Int) := by omega
      have b1 : IntKind.i64.wrap ((z : Int) + (pl.length : Int)) = (z : Int) + (pl.length : Int) := by rw [IntKind.wrap_i64]; omega
      clear hgk T
      go_wp2
      go_roundw
      case rel => exact ⟨k + 1, by omega, by go_num, by rw [← unhide TL]; simp, trivial⟩
      case measure => simp [intOf]; omega
    · obtain rfl : k = ps.length := by omega
      rw [List.take_length]
      obtain ⟨F, hF⟩ : ∃ F, F = flatP ps := ⟨_, rfl⟩
      have HF := hide hF
      rw [← hF] at hs ⊢
      clear hF
      go_wp2_with (refine wpList_make_full _ rfl _ _ 42 rfl w.heap.size 37 i0 _ 2 Try.underlying42 hi hz0 hz1 .i64 .i64 _ _ F.length rfl rfl rfl rfl (by rw [hz2]; omega) (by unfold maxLen; omega) (Nat.le_refl _) ?_; intro wm hown hgm)
      rw [made_ranges] at hown
      have hh := (own_heap hown).1
      have hb0 := g_below hgm
      have hsz := (hown.lt _ rfl).2
      clear hown
      go_loopw [7, 25] (fun z i wr => ∃ k : Nat, k ≤ ps.length ∧ i = .int .i64 k ∧ z = .int .i64 ((flatP (ps.take k)).length : Int) ∧ wr.heap[w.heap.size]? = some (.cells (rgs (flatP (ps.take k) ++ List.replicate (F.length - (flatP (ps.take k)).length) rg0)).toArray 37 (0, 0)) ∧ Below w.heap.size w wr) (fun _ i _ => ps.length - (intOf i).toNat)
      case atStart => exact ⟨0, Nat.zero_le _, rfl, rfl, by simpa [flatP] using hh, hb0⟩
      case round =>
        obtain ⟨k, hk, rfl, rfl, hh1, hb1⟩ := hrel
        clear hh
        by_cases hlt : k < ps.length
        · have hgk : ps[k]? = some ps[k] := List.getElem?_eq_getElem hlt
          obtain ⟨c0, r0⟩ := ((unhide H).up hb1).2 k _ hgk
          have T := hide (flatP_take hgk)
          have hbk : b < w.heap.size := (unhide H).1
          have hle := flatP_le ps (k + 1)
          rw [unhide T, List.length_append, ← unhide HF] at hle
          generalize ps[k] = p at *
          obtain ⟨pv, pl⟩ := p
          have RR := hide r0
          obtain ⟨a, cp, hv, _, _⟩ := r0
          simp only at hv c0 hle T RR
          subst hv
          obtain ⟨d, hd⟩ : ∃ d, d = flatP (ps.take k) := ⟨_, rfl⟩
          rw [← hd] at hh1 hle T ⊢
          clear hd hgk
          obtain ⟨m, hm⟩ : ∃ m, m = F.length - d.length := ⟨_, rfl⟩
          rw [← hm] at hh1
          have hpm : pl.length ≤ m := by omega
          have NX := hide (splice_laid d pl m hpm)
          have DL : Hid (d.length + pl.length = (flatP (ps.take (k + 1))).length) := by rw [unhide T, List.length_append]; rfl
          have ML : Hid (m - pl.length = F.length - (flatP (ps.take (k + 1))).length) := by rw [← unhide DL]; show _ = _; omega
          have HH := hide hh1
          have FIT : Hid (d.length * 2 + (rgs pl).length ≤ (rgs (d ++ List.replicate m rg0)).length) := by rw [rgs_length, rgs_length]; simp; show _ ≤ _; omega
          clear hh1
          have hik : (0 : Int) ≤ (k : Int) := by omega
          have hil : (k : Int) < (ps.length : Int) := by omega
          have b1 : IntKind.i64.wrap ((d.length : Int) + (pl.length : Int)) = (d.length : Int) + (pl.length : Int) := by rw [IntKind.wrap_i64]; omega
          have hwr : w.heap.size ≤ wr.heap.size := hb1.size
          by_cases hp0 : pl = []
          · have DL0 : Hid (d.length = (flatP (ps.take (k + 1))).length) := by have := unhide DL; rw [hp0] at this; show _ = _; simpa using this
            have hmin : Hid (∀ x, Nat.min 0 x = 0) := fun x => Nat.zero_min x
            have PL : Hid (pl.length = 0) := by rw [hp0]; rfl
            have T0 : Hid (flatP (ps.take (k + 1)) = d) := by have := unhide T; rw [hp0, List.append_nil] at this; exact this
            have ML0 : Hid (m = F.length - d.length) := hm
            clear hm
            have p0 : pl.length = 0 := unhide PL
            by_cases hz : d.length = F.length
            · have hz2 : (d.length : Int) = (F.length : Int) := by omega
              have RUN := run_copy_noneK (P := Try.prog) wr 42 42 3 37 2 (some ⟨w.heap.size, 0, none⟩) a 0 0 0 cp Try.underlying42 hsz2 (Nat.zero_min _)
              go_wp2
              go_roundw
              case rel =>
                refine ⟨k + 1, by omega, by go_num, ?_, ?_, hb1⟩
                · rw [← unhide DL0]; simp; omega
                · have e := unhide HH
                  rw [unhide T0, ← unhide ML0]
                  exact e
              case measure => simp [intOf]; omega
            · have hz2 : (d.length : Int) < (F.length : Int) := by omega
              have RUN := run_copy_noneK (P := Try.prog) wr 42 42 3 37 2 (some ⟨w.heap.size, d.length * 2, none⟩) a (F.length - d.length) (F.length - d.length) 0 cp Try.underlying42 hsz2 (Nat.zero_min _)
              go_wp2
              go_roundw
              case rel =>
                refine ⟨k + 1, by omega, by go_num, ?_, ?_, hb1⟩
                · rw [← unhide DL0]
                · have e := unhide HH
                  rw [unhide T0, ← unhide ML0]
                  exact e
              case measure => simp [intOf]; omega
          · have hp1 := List.length_pos_iff.2 hp0
            have hdF : (d.length : Int) < (F.length : Int) := by omega
            obtain ⟨g, o, hga⟩ : ∃ g o, a = some ⟨g, o, none⟩ := by
              obtain ⟨_, _, hv, _, hc⟩ := unhide RR
              cases hv
              obtain ⟨g, o, hg, _⟩ := hc 0 (pl[0]'hp1) (List.getElem?_eq_getElem _)
              exact ⟨g, o, hg⟩
            subst hga
            obtain ⟨w2, RUN, hh2, hg2⟩ := run_copyK (P := Try.prog) wr 42 42 3 37 2 pl.length w.heap.size (d.length * 2) (F.length - d.length) (F.length - d.length) ⟨g, o, none⟩ pl.length cp (rgs (d ++ List.replicate m rg0)) 37 (rgs pl) Try.underlying42 hsz2 (unhide HH) (Nat.min_eq_left (by omega)) (rgs_length _) (readO_cells (unhide RR)) (unhide FIT) (rgs_one _)
            have H2 := hide hh2
            clear hh2
            go_wp2
            go_roundw
            case rel =>
              refine ⟨k + 1, by omega, by go_num, ?_, ?_, hb1.trans (g_belowB hg2 (Nat.le_refl _) hwr)⟩
              · rw [← unhide DL]; go_num
              · have e := unhide H2
                rw [unhide NX, ← unhide T, unhide ML] at e
                exact e
            case measure => simp [intOf]; omega
        · obtain rfl : k = ps.length := by omega
          rw [List.take_length, ← unhide HF, Nat.sub_self, List.replicate_zero, List.append_nil] at hh1
          have OWN : Hid (OwnR w.heap.size wr (.slice (some ⟨w.heap.size, 0, none⟩) F.length F.length) (flatP ps)) := by
            rw [← unhide HF]
            exact heap_own hh1 (Nat.le_refl _) (rgs_length _) (by unfold maxLen; omega)
          clear hh1
          go_wp2
          go_ret
          exact ⟨_, rfl, unhide OWN, hb1, _, _, _, rfl⟩
theorem impl_moved_any (ps : List (Value × List Rg)) (b c : Nat) (w : World) (hn : ps.length ≤ 3) (hs : (flatP ps).length ≤ 8000000) (h : RowsO w b ps) :
    Calls Try.prog 27 #[.slice (some ⟨b, 0, none⟩) ps.length c] w fun e w' => ∃ v, e = .returned v ∧ OwnR w.heap.size w' v (flatP ps) ∧ Below w.heap.size w w' :=
  (impl_moved_full ps b c w hn hs h).mono fun e w' ⟨v, h1, h2, h3, _⟩ => ⟨v, h1, h2, h3⟩
end Go.Proofs.Ytkmphclmealkeab
