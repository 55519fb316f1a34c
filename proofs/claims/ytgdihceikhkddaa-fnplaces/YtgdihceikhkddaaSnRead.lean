/- Rows of what is seen: read, cut and moved by the program. Made by gen_seen.py. -/
import Derived.Test.YtgdihceikhkddaaSeenRow
import Derived.Test.YtgdihceikhkddaaCopyK
import Derived.Test.YtgdihceikhkddaaImplSet
namespace Go.Proofs.Ytgdihceikhkddaa
open Go.RowKit Go.Deep
open Plain
set_option linter.unusedVariables false

/-- Rows that can be read, wherever they begin. -/
def ReadSn (w : World) (v : Value) (l : List Sn) : Prop := ∃ a c, v = .slice a l.length c ∧ l.length ≤ c ∧ ∀ (k : Nat) (x : Sn), l[k]? = some x →
 ∃ g o, a = some ⟨g, o, none⟩ ∧ g < w.heap.size ∧ w.cell? ⟨g, o + k * 3, none⟩ = some (.int .i64 x.uid) ∧ w.cell? ⟨g, o + k * 3 + 1, none⟩ = some (.int .i64 x.flags) ∧ w.cell? ⟨g, o + k * 3 + 2, none⟩ = some (.int .i64 x.mod)
theorem OwnSn.wide {B : Nat} {w : World} {v : Value} {l : List Sn} (h : OwnSn B w v l) : ReadSn w v l := by
 unfold OwnSn at h
 rcases h.2 with ⟨rfl, h0⟩ | ⟨g, c, cur, rfl, hb, hh, hlc, _⟩
 ·refine ⟨none, 0, by rw [h0], by omega, fun k x hx => ?_⟩
  rw [List.eq_nil_of_length_eq_zero h0] at hx
  simp at hx
 ·refine ⟨_, _, rfl, hlc, fun k x hx => ⟨g, 0, rfl, (h.lt _ rfl).2, ?_⟩⟩
  rw [Nat.zero_add]
  exact sn_cells h hx (List.getElem?_eq_some_iff.1 hx).1
theorem ReadSn.up {w w' : World} {v : Value} {l : List Sn} (h : ReadSn w v l) (hb : Below w.heap.size w w') : ReadSn w' v l := by
 obtain ⟨a, c, hv, hcap, hc⟩ := h
 refine ⟨a, c, hv, hcap, fun k x hx => ?_⟩
 obtain ⟨g, o, hg, hl, c0, c1, c2⟩ := hc k x hx
 exact ⟨g, o, hg, Nat.lt_of_lt_of_le hl hb.size, g_cell hb c0, g_cell hb c1, g_cell hb c2⟩
theorem ReadSn.drew {w : World} {v : Value} {l : List Sn} (h : ReadSn w v l) : ReadSn w.drew v l := h
theorem ReadSn.nil (w : World) (a : Option Addr) (c : Nat) : ReadSn w (.slice a 0 c) [] := ⟨a, c, rfl, Nat.zero_le _, fun k x hx => by simp at hx⟩
theorem ReadSn.piece {w : World} {g o c : Nat} {l : List Sn} (h : ReadSn w (.slice (some ⟨g, o, none⟩) l.length c) l) (i n c' : Nat) (hi : i + n ≤ l.length) (hc : n ≤ c') (o' : Nat) (ho : 0 < n → o' = o + i * 3) : ReadSn w (.slice (some ⟨g, o', none⟩) n c') ((l.drop i).take n) := by
 obtain ⟨a, c2, hv, _, hcell⟩ := h
 cases hv
 have hl : ((l.drop i).take n).length = n := by simp; omega
 refine ⟨_, _, by rw [hl], by omega, fun k x hx => ?_⟩
 have hk : k < n := by have := (List.getElem?_eq_some_iff.1 hx).1; omega
 rw [List.getElem?_take_of_lt hk, List.getElem?_drop] at hx
 obtain ⟨g', q, hg, hlt, c0, c1, c2⟩ := hcell _ x hx
 cases hg
 rw [ho (by omega)]
 exact ⟨g, _, rfl, hlt, by rw [← c0]; congr 2; omega, by rw [← c1]; congr 2; omega, by rw [← c2]; congr 2; omega⟩
theorem readSn_cells {w : World} {g o n c : Nat} {l : List Sn} (h : ReadSn w (.slice (some ⟨g, o, none⟩) n c) l) : ∀ j v, (rowC snC l)[j]? = some v → w.cell? ((⟨g, o, none⟩ : Addr).add j) = some v := by
 obtain ⟨a, c', hv, _, hc⟩ := h
 cases hv
 intro j v hj
 have hadd : (⟨g, o, none⟩ : Addr).add j = ⟨g, o + j, none⟩ := by unfold Addr.add; split <;> simp_all
 obtain ⟨q, r, rfl, hr⟩ : ∃ q r, j = q * 3 + r ∧ r < 3 := ⟨j / 3, j % 3, by omega, Nat.mod_lt _ (by omega)⟩
 have hq : q < l.length := by
  have := (List.getElem?_eq_some_iff.1 hj).1
  rw [rowC_len snC_len] at this
  omega
 have hx : l[q]? = some l[q] := List.getElem?_eq_getElem hq
 obtain ⟨g', o', hg, _, c0, c1, c2⟩ := hc q _ hx
 cases hg
 rw [hadd]
 rw [rowC_get snC_len hx hr] at hj
 match r, hr with
 | 0, _ => simp [snC] at hj; rw [← hj]; exact c0
 | 1, _ => simp [snC] at hj; rw [← hj]; exact c1
 | 2, _ => simp [snC] at hj; rw [← hj]; exact c2
theorem snC_one (l : List Sn) : ∀ v ∈ rowC snC l, v.oneCell' = true := by
 intro v hv
 unfold rowC at hv
 obtain ⟨r, _, hr⟩ := List.mem_flatMap.1 hv
 simp [snC] at hr
 rcases hr with rfl | rfl | rfl <;> rfl
theorem splice_laidN (d l : List Sn) (m : Nat) (h : l.length ≤ m) : splice (rowC snC (d ++ List.replicate m sn0)) (d.length * 3) (rowC snC l) = rowC snC (d ++ l ++ List.replicate (m - l.length) sn0) := by
 unfold splice
 have e : List.replicate m sn0 = List.replicate l.length sn0 ++ List.replicate (m - l.length) sn0 := by rw [List.replicate_append_replicate]; congr 1; omega
 rw [rowC_append, List.take_left' (by rw [rowC_len snC_len]), rowC_len snC_len, ← rowC_len snC_len d, ← List.drop_drop, List.drop_left, e, rowC_append, List.drop_left' (by simp [rowC_len snC_len]), List.append_assoc, rowC_append, rowC_append]
theorem made_seens (n : Nat) : (madeCells (Value.agg #[.int .i64 0, .int .i64 0, .int .i64 0]).cells (n * 3)).toList = rowC snC (List.replicate n sn0) := rowC_made snC_len (by decide) (a0 := sn0) rfl n
def flatN (ps : List (Value × List Sn)) : List Sn := ps.flatMap (·.2)
theorem flatN_take {ps : List (Value × List Sn)} {k : Nat} {p : Value × List Sn} (h : ps[k]? = some p) : flatN (ps.take (k + 1)) = flatN (ps.take k) ++ p.2 := by
 unfold flatN
 rw [List.take_add_one, h]
 simp
theorem flatN_le (ps : List (Value × List Sn)) (k : Nat) : (flatN (ps.take k)).length ≤ (flatN ps).length := by
 have : flatN ps = flatN (ps.take k) ++ flatN (ps.drop k) := by unfold flatN; rw [← List.flatMap_append, List.take_append_drop]
 rw [this]; simp
/-- Rows in a row, each of which can be read. -/
def RowsN (w : World) (b : Nat) (ps : List (Value × List Sn)) : Prop := b < w.heap.size ∧ ∀ (i : Nat) (p : Value × List Sn), ps[i]? = some p → w.cell? ⟨b, i, none⟩ = some p.1 ∧ ReadSn w p.1 p.2
theorem RowsN.up {w w' : World} {b : Nat} {ps : List (Value × List Sn)} (h : RowsN w b ps) (hb : Below w.heap.size w w') : RowsN w' b ps :=
 ⟨Nat.lt_of_lt_of_le h.1 hb.size, fun i p hp => ⟨g_cell hb (h.2 i p hp).1, (h.2 i p hp).2.up hb⟩⟩
set_option maxHeartbeats 4000000 in
set_option maxRecDepth 100000 in
theorem seen_moved_full (ps : List (Value × List Sn)) (b c : Nat) (w : World) (hn : ps.length ≤ 3) (hs : (flatN ps).length ≤ 8000000) (h : RowsN w b ps) :
  Calls Try.prog 18 #[.slice (some ⟨b, 0, none⟩) ps.length c] w fun e w' => ∃ v, e = .returned v ∧ OwnSn w.heap.size w' v (flatN ps) ∧ Below w.heap.size w w' ∧ ∃ g n c, v = .slice (some ⟨g, 0, none⟩) n c := by
 obtain ⟨i0, hi, hz0, hz1, hz2⟩ := info_parts Try.infoSeen
 have hsz2 : (Try.prog.info? 34).map (·.size) = some 3 := by rw [hi]; exact congrArg some hz1
 have H := hide h; clear h
 go_enter Try.func18, Try.ntmps18
 go_wp2
 go_loopw [3, 12] (fun z i wr => ∃ k : Nat, k ≤ ps.length ∧ i = .int .i64 k ∧ z = .int .i64 ((flatN (ps.take k)).length : Int) ∧ wr = w) (fun _ i _ => ps.length - (intOf i).toNat)
 case atStart => exact ⟨0, Nat.zero_le _, rfl, rfl, rfl⟩
 case round =>
  obtain ⟨k, hk, rfl, rfl, hw⟩ := hrel
  subst wr
  by_cases hlt : k < ps.length
  ·have hgk : ps[k]? = some ps[k] := List.getElem?_eq_getElem hlt
   obtain ⟨c0, r0⟩ := (uh H).2 k _ hgk
   have T := hide (flatN_take hgk)
   have hbk : b < w.heap.size := (uh H).1
   have hle := flatN_le ps (k + 1)
   rw [uh T, List.length_append] at hle
   have TL : Hid (((flatN (ps.take k)).length + ps[k].2.length : Nat) = (flatN (ps.take (k + 1))).length) := by rw [uh T, List.length_append]; rfl
   generalize ps[k] = p at *
   obtain ⟨pv, pl⟩ := p
   obtain ⟨a, cp, hv, _, _⟩ := r0
   simp only at hv c0 hle TL T
   subst hv
   generalize (flatN (ps.take k)).length = z at *
   have hik : (0 : Int) ≤ (k : Int) := by omega
   have hil : (k : Int) < (ps.length : Int) := by omega
   have b1 : IntKind.i64.wrap ((z : Int) + (pl.length : Int)) = (z : Int) + (pl.length : Int) := by rw [IntKind.wrap_i64]; omega
   clear hgk T
   go_wp2
   go_roundw
   case rel => exact ⟨k + 1, by omega, by go_num, by rw [← uh TL]; simp, trivial⟩
   case measure => simp [intOf]; omega
  ·obtain rfl : k = ps.length := by omega
   rw [List.take_length]
   obtain ⟨F, hF⟩ : ∃ F, F = flatN ps := ⟨_, rfl⟩
   have HF := hide hF
   rw [← hF] at hs ⊢
   clear hF
   go_wp2_with (refine wpList_make_full _ rfl _ _ 42 rfl w.heap.size 34 i0 _ 3 Try.underlying42 hi hz0 hz1 .i64 .i64 _ _ F.length rfl rfl rfl rfl (by rw [hz2]; omega) (by unfold maxLen; omega) (Nat.le_refl _) ?_; intro wm hown hgm)
   rw [made_seens] at hown
   have hh := (own_heap hown).1; have hb0 := g_below hgm; have hsz := (hown.lt _ rfl).2; clear hown
   go_loopw [7, 25] (fun z i wr => ∃ k : Nat, k ≤ ps.length ∧ i = .int .i64 k ∧ z = .int .i64 ((flatN (ps.take k)).length : Int) ∧ wr.heap[w.heap.size]? = some (.cells (rowC snC (flatN (ps.take k) ++ List.replicate (F.length - (flatN (ps.take k)).length) sn0)).toArray 34 (0, 0)) ∧ Below w.heap.size w wr) (fun _ i _ => ps.length - (intOf i).toNat)
   case atStart => exact ⟨0, Nat.zero_le _, rfl, rfl, by simpa [flatN] using hh, hb0⟩
   case round =>
    obtain ⟨k, hk, rfl, rfl, hh1, hb1⟩ := hrel
    clear hh
    by_cases hlt : k < ps.length
    ·have hgk : ps[k]? = some ps[k] := List.getElem?_eq_getElem hlt
     obtain ⟨c0, r0⟩ := ((uh H).up hb1).2 k _ hgk
     have T := hide (flatN_take hgk)
     have hbk : b < w.heap.size := (uh H).1
     have hle := flatN_le ps (k + 1)
     rw [uh T, List.length_append, ← uh HF] at hle
     generalize ps[k] = p at *
     obtain ⟨pv, pl⟩ := p
     have RR := hide r0
     obtain ⟨a, cp, hv, _, _⟩ := r0
     simp only at hv c0 hle T RR
     subst hv
     obtain ⟨d, hd⟩ : ∃ d, d = flatN (ps.take k) := ⟨_, rfl⟩
     rw [← hd] at hh1 hle T ⊢
     clear hd hgk
     obtain ⟨m, hm⟩ : ∃ m, m = F.length - d.length := ⟨_, rfl⟩
     rw [← hm] at hh1
     have hpm : pl.length ≤ m := by omega
     have NX := hide (splice_laidN d pl m hpm)
     have DL : Hid (d.length + pl.length = (flatN (ps.take (k + 1))).length) := by rw [uh T, List.length_append]; rfl
     have ML : Hid (m - pl.length = F.length - (flatN (ps.take (k + 1))).length) := by rw [← uh DL]; show _ = _; omega
     have HH := hide hh1
     have FIT : Hid (d.length * 3 + (rowC snC pl).length ≤ (rowC snC (d ++ List.replicate m sn0)).length) := by rw [rowC_len snC_len, rowC_len snC_len]; simp; show _ ≤ _; omega
     clear hh1
     have hik : (0 : Int) ≤ (k : Int) := by omega
     have hil : (k : Int) < (ps.length : Int) := by omega
     have b1 : IntKind.i64.wrap ((d.length : Int) + (pl.length : Int)) = (d.length : Int) + (pl.length : Int) := by rw [IntKind.wrap_i64]; omega
     have hwr : w.heap.size ≤ wr.heap.size := hb1.size
     by_cases hp0 : pl = []
     ·have DL0 : Hid (d.length = (flatN (ps.take (k + 1))).length) := by have := uh DL; rw [hp0] at this; show _ = _; simpa using this
      have hmin : Hid (∀ x, Nat.min 0 x = 0) := fun x => Nat.zero_min x
      have PL : Hid (pl.length = 0) := by rw [hp0]; rfl
      have T0 : Hid (flatN (ps.take (k + 1)) = d) := by have := uh T; rw [hp0, List.append_nil] at this; exact this
      have ML0 : Hid (m = F.length - d.length) := hm
      clear hm
      have p0 : pl.length = 0 := uh PL
      by_cases hz : d.length = F.length
      ·have hz2 : (d.length : Int) = (F.length : Int) := by omega
       have RUN := run_copy_noneK (P := Try.prog) wr 42 42 3 34 3 (some ⟨w.heap.size, 0, none⟩) a 0 0 0 cp Try.underlying42 hsz2 (Nat.zero_min _)
       go_wp2
       go_roundw
       case rel =>
        refine ⟨k + 1, by omega, by go_num, ?_, ?_, hb1⟩
        ·rw [← uh DL0]; simp; omega
        ·have e := uh HH
         rw [uh T0, ← uh ML0]
         exact e
       case measure => simp [intOf]; omega
      ·have hz2 : (d.length : Int) < (F.length : Int) := by omega
       have RUN := run_copy_noneK (P := Try.prog) wr 42 42 3 34 3 (some ⟨w.heap.size, d.length * 3, none⟩) a (F.length - d.length) (F.length - d.length) 0 cp Try.underlying42 hsz2 (Nat.zero_min _)
       go_wp2
       go_roundw
       case rel =>
        refine ⟨k + 1, by omega, by go_num, ?_, ?_, hb1⟩
        ·rw [← uh DL0]
        ·have e := uh HH
         rw [uh T0, ← uh ML0]
         exact e
       case measure => simp [intOf]; omega
     ·have hp1 := List.length_pos_iff.2 hp0
      have hdF : (d.length : Int) < (F.length : Int) := by omega
      obtain ⟨g, o, hga⟩ : ∃ g o, a = some ⟨g, o, none⟩ := by
       obtain ⟨_, _, hv, _, hc⟩ := uh RR
       cases hv
       obtain ⟨g, o, hg, _⟩ := hc 0 (pl[0]'hp1) (List.getElem?_eq_getElem _)
       exact ⟨g, o, hg⟩
      subst hga
      obtain ⟨w2, RUN, hh2, hg2⟩ := run_copyK (P := Try.prog) wr 42 42 3 34 3 pl.length w.heap.size (d.length * 3) (F.length - d.length) (F.length - d.length) ⟨g, o, none⟩ pl.length cp (rowC snC (d ++ List.replicate m sn0)) 34 (rowC snC pl) Try.underlying42 hsz2 (uh HH) (Nat.min_eq_left (by omega)) (rowC_len snC_len _) (readSn_cells (uh RR)) (uh FIT) (snC_one _)
      have H2 := hide hh2; clear hh2
      go_wp2
      go_roundw
      case rel =>
       refine ⟨k + 1, by omega, by go_num, ?_, ?_, hb1.trans (g_belowB hg2 (Nat.le_refl _) hwr)⟩
       ·rw [← uh DL]; go_num
       ·have e := uh H2
        rw [uh NX, ← uh T, uh ML] at e
        exact e
      case measure => simp [intOf]; omega
    ·obtain rfl : k = ps.length := by omega
     rw [List.take_length, ← uh HF, Nat.sub_self, List.replicate_zero, List.append_nil] at hh1
     have OWN : Hid (OwnSn w.heap.size wr (.slice (some ⟨w.heap.size, 0, none⟩) F.length F.length) (flatN ps)) := by
      rw [← uh HF]
      exact heap_own hh1 (Nat.le_refl _) (rowC_len snC_len _) (by unfold maxLen; omega)
     clear hh1
     go_wp2
     go_ret
     exact ⟨_, rfl, uh OWN, hb1, _, _, _, rfl⟩
theorem seen_moved_any (ps : List (Value × List Sn)) (b c : Nat) (w : World) (hn : ps.length ≤ 3) (hs : (flatN ps).length ≤ 8000000) (h : RowsN w b ps) :
  Calls Try.prog 18 #[.slice (some ⟨b, 0, none⟩) ps.length c] w fun e w' => ∃ v, e = .returned v ∧ OwnSn w.heap.size w' v (flatN ps) ∧ Below w.heap.size w w' :=
 (seen_moved_full ps b c w hn hs h).mono fun e w' ⟨v, h1, h2, h3, _⟩ => ⟨v, h1, h2, h3⟩
set_option maxHeartbeats 4000000 in
set_option maxRecDepth 100000 in
theorem seen_cut_any (s : List Sn) (v : Value) (f t : Nat) (w0 w : World) (hs : s.length ≤ 1048576) (h : ReadSn w0 v s) (hf : f ≤ t) (ht : t ≤ s.length) :
  Calls Try.prog 22 #[v, .int .i64 f, .int .i64 t] w fun e w' => (∃ v1 v2 v3, e = .returned (.tuple #[v1, v2, v3]) ∧ ReadSn w0 v1 (s.take f) ∧ ReadSn w0 v2 ((s.drop f).take (t - f)) ∧ ReadSn w0 v3 (s.drop t)) ∧ ∃ q, w' = w.drewN q := by
 have H := hide h
 obtain ⟨a, c, rfl, hcap, hc⟩ := h
 cases a with
 | none =>
  have h0 : s = [] := by
   cases s with
   | nil => rfl
   | cons x y => obtain ⟨g, o, hg, _⟩ := hc 0 x rfl; cases hg
  subst h0
  obtain rfl : t = 0 := by simpa using ht
  obtain rfl : f = 0 := by omega
  clear hc
  go_enter Try.func22, Try.ntmps22
  go_wp2
  go_quiet (fail)
  go_wp2
  go_returns
  exact ⟨⟨_, _, _, rfl, ReadSn.nil _ _ _, ReadSn.nil _ _ _, ReadSn.nil _ _ _⟩, _, rfl⟩
 | some ad =>
  by_cases h0 : s = []
  ·subst h0
   obtain rfl : t = 0 := by simpa using ht
   obtain rfl : f = 0 := by omega
   clear hc
   go_enter Try.func22, Try.ntmps22
   go_wp2
   go_quiet (fail)
   go_wp2
   go_returns
   exact ⟨⟨_, _, _, rfl, ReadSn.nil _ _ _, ReadSn.nil _ _ _, ReadSn.nil _ _ _⟩, _, rfl⟩
  ·obtain ⟨g, o, hg, _⟩ := hc 0 (s[0]'(List.length_pos_iff.2 h0)) (List.getElem?_eq_getElem _)
   cases hg
   have hpos := List.length_pos_iff.2 h0
   rename_i rr
   clear hc rr h0
   have P1 : Hid (ReadSn w0 (.slice (some ⟨g, o, none⟩) f f) (s.take f)) := by have := (uh H).piece 0 f f (by omega) (Nat.le_refl _) o (fun _ => by omega); show ReadSn _ _ _; simpa using this
   have P2 : Hid (ReadSn w0 (.slice (some ⟨g, o + f * 3, none⟩) (t - f) (t - f)) ((s.drop f).take (t - f))) := (uh H).piece f (t - f) (t - f) (by omega) (Nat.le_refl _) (o + f * 3) (fun _ => rfl)
   have P3 : Hid (ReadSn w0 (.slice (some ⟨g, o + t * 3, none⟩) (s.length - t) (s.length - t)) (s.drop t)) := by
    have := (uh H).piece t (s.length - t) (s.length - t) (by omega) (Nat.le_refl _) (o + t * 3) (fun _ => rfl)
    rw [List.take_of_length_le (by simp)] at this
    exact this
   have P4 : Hid (s.length = t → ReadSn w0 (.slice (some ⟨g, o, none⟩) 0 0) (s.drop t)) := fun h => by rw [List.drop_of_length_le (by omega)]; exact ReadSn.nil _ _ _
   have i1 : (0 : Int) ≤ (f : Int) := by omega
   have i2 : (f : Int) ≤ (t : Int) := by omega
   have i3 : (t : Int) ≤ (s.length : Int) := by omega
   have i4 : (s.length : Int) ≤ (c : Int) := by omega
   have i5 : (f : Int) ≤ (c : Int) := by omega
   have i6 : (t : Int) ≤ (c : Int) := by omega
   go_enter Try.func22, Try.ntmps22
   go_wp2
   go_quiet (fail)
   go_wp2
   all_goals go_returns
   all_goals refine ⟨⟨_, _, _, rfl, uh P1, ?_, ?_⟩, _, rfl⟩
   ·exact ReadSn.nil _ _ _
   ·have e : t = f := by assumption
    subst e
    exact uh P4 (by assumption)
   ·exact ReadSn.nil _ _ _
   ·have e : t = f := by assumption
    subst e
    exact uh P3
   ·exact uh P2
   ·exact uh P4 (by assumption)
   ·exact uh P2
   ·exact uh P3

theorem rowsN_one {W : World} {v : Value} {s : List Sn} (h : ReadSn W v s) : RowsN (W.alloc (.cells #[v] 42)) W.heap.size [(v, s)] := by
 have hb : Below W.heap.size W (W.alloc (.cells #[v] 42)) := (Below.refl _ _).alloc (Nat.le_refl _) _
 refine ⟨by simp, fun i p hp => ?_⟩
 match i with
 | 0 =>
  simp at hp
  subst hp
  exact ⟨by simp, h.up hb⟩
 | i + 1 => simp at hp
theorem seen_moved_one (v : Value) (s : List Sn) (W : World) (hs : s.length ≤ 8000000) (h : ReadSn W v s) :
  Calls Try.prog 18 #[.slice (some ⟨W.heap.size, 0, none⟩) 1 1] (W.alloc (.cells #[v] 42)) fun e w' => ∃ u, e = .returned u ∧ OwnSn W.heap.size w' u s ∧ Below W.heap.size W w' := by
 have hb : Below W.heap.size W (W.alloc (.cells #[v] 42)) := (Below.refl _ _).alloc (Nat.le_refl _) _
 refine (seen_moved_any [(v, s)] W.heap.size 1 _ (by simp) (by simpa [flatN] using hs) (rowsN_one h)).mono ?_
 rintro e w' ⟨u, rfl, ho, hb2⟩
 refine ⟨u, rfl, ?_, hb.trans (hb2.mono hb.size)⟩
 have : flatN [(v, s)] = s := by simp [flatN]
 rw [this] at ho
 exact g_based ho hb.size
theorem rowsN_three {W : World} {u v x : Value} {a b c : List Sn} (h1 : ReadSn W u a) (h2 : ReadSn W v b) (h3 : ReadSn W x c) : RowsN (W.alloc (.cells #[u, v, x] 42)) W.heap.size [(u, a), (v, b), (x, c)] := by
 have hb : Below W.heap.size W (W.alloc (.cells #[u, v, x] 42)) := (Below.refl _ _).alloc (Nat.le_refl _) _
 refine ⟨by simp, fun i p hp => ?_⟩
 match i with
 | 0 => simp at hp; subst hp; exact ⟨by simp, h1.up hb⟩
 | 1 => simp at hp; subst hp; exact ⟨by simp, h2.up hb⟩
 | 2 => simp at hp; subst hp; exact ⟨by simp, h3.up hb⟩
 | i + 3 => simp at hp
theorem seen_moved_three (u v x : Value) (a b c : List Sn) (W : World) (hs : a.length + (b.length + c.length) ≤ 8000000) (h1 : ReadSn W u a) (h2 : ReadSn W v b) (h3 : ReadSn W x c) :
  Calls Try.prog 18 #[.slice (some ⟨W.heap.size, 0, none⟩) 3 3] (W.alloc (.cells #[u, v, x] 42)) fun e w' => ∃ r, e = .returned r ∧ OwnSn W.heap.size w' r (a ++ (b ++ c)) ∧ Below W.heap.size W w' := by
 have hb : Below W.heap.size W (W.alloc (.cells #[u, v, x] 42)) := (Below.refl _ _).alloc (Nat.le_refl _) _
 have hf : flatN [(u, a), (v, b), (x, c)] = a ++ (b ++ c) := by simp [flatN]
 refine (seen_moved_any [(u, a), (v, b), (x, c)] W.heap.size 3 _ (by simp) (by rw [hf]; simpa using hs) (rowsN_three h1 h2 h3)).mono ?_
 rintro e w' ⟨r, rfl, ho, hb2⟩
 refine ⟨r, rfl, ?_, hb.trans (hb2.mono hb.size)⟩
 rw [hf] at ho
 exact g_based ho hb.size
theorem rowsN_two {W : World} {u v : Value} {a b : List Sn} (h1 : ReadSn W u a) (h2 : ReadSn W v b) : RowsN (W.alloc (.cells #[u, v] 42)) W.heap.size [(u, a), (v, b)] := by
 have hb : Below W.heap.size W (W.alloc (.cells #[u, v] 42)) := (Below.refl _ _).alloc (Nat.le_refl _) _
 refine ⟨by simp, fun i p hp => ?_⟩
 match i with
 | 0 => simp at hp; subst hp; exact ⟨by simp, h1.up hb⟩
 | 1 => simp at hp; subst hp; exact ⟨by simp, h2.up hb⟩
 | i + 2 => simp at hp
theorem seen_moved_two (u v : Value) (a b : List Sn) (W : World) (hs : a.length + b.length ≤ 8000000) (h1 : ReadSn W u a) (h2 : ReadSn W v b) :
  Calls Try.prog 18 #[.slice (some ⟨W.heap.size, 0, none⟩) 2 2] (W.alloc (.cells #[u, v] 42)) fun e w' => ∃ r, e = .returned r ∧ OwnSn W.heap.size w' r (a ++ b) ∧ Below W.heap.size W w' ∧ ∃ g n c, r = .slice (some ⟨g, 0, none⟩) n c := by
 have hb : Below W.heap.size W (W.alloc (.cells #[u, v] 42)) := (Below.refl _ _).alloc (Nat.le_refl _) _
 have hf : flatN [(u, a), (v, b)] = a ++ b := by simp [flatN]
 refine (seen_moved_full [(u, a), (v, b)] W.heap.size 2 _ (by simp) (by rw [hf]; simpa using hs) (rowsN_two h1 h2)).mono ?_
 rintro e w' ⟨r, rfl, ho, hb2, hr⟩
 refine ⟨r, rfl, ?_, hb.trans (hb2.mono hb.size), hr⟩
 rw [hf] at ho
 exact g_based ho hb.size
end Go.Proofs.Ytgdihceikhkddaa
