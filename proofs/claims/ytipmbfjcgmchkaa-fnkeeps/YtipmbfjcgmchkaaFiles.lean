/- Files as values: what the laws' own helpers do to them. -/
import Derived.Test.YtipmbfjcgmchkaaProg
import Derived.Test.YtipmbfjcgmchkaaPlain
import Derived.Test.YtipmbfjcgmchkaaFilesPlain
import Derived.WalkKit
import Derived.WalkSpells
import Derived.ProofKit
import Derived.Handy
import Derived.Below
import Derived.WalkSmall
import Derived.Laws.AppendOwn
import Derived.Deep.RegionHeld3
import Derived.Deep.QuietTactic
import Derived.BigQuiet
namespace Go.Proofs.Ytipmbfjcgmchkaa
open Go.RowKit
open Plain
set_option linter.unusedVariables false

theorem Try.infoFile : (Try.prog.info? 36).map (fun i => (i.zero, i.size, i.bytes)) = some (some (.agg #[.string ByteArray.empty, .string ByteArray.empty, .int .i64 0]), 3, 40) := by kernel_rfl

theorem add_blk (x : Addr) (j : Nat) : (x.add j).block = x.block := by
  unfold Addr.add; split <;> rfl
theorem grown_of_below {w w1 : World} (h : Below w.heap.size w w1) (row : Option Nat) : w.grownBy w1 row := ⟨h.os, h.tape, h.output, h.size, fun k hk _ => h.block k hk⟩
theorem below_of_grown {w w1 : World} (h : w.grownBy w1 none) : Below w.heap.size w w1 := ⟨h.os, h.tape, h.output, h.size, fun k hk => h.block k hk (by simp)⟩
theorem own_stays {w w1 : World} {B n : Nat} {e : TypeId} {size : Nat} {v : Value} {xs : List Value} (h : w.ownsRow B e size v n xs) (hb : Below w.heap.size w w1) : w1.ownsRow B e size v n xs :=
  h.kept (grown_of_below hb none) (Classical.em _)
theorem own_based {w : World} {B B' n : Nat} {e : TypeId} {size : Nat} {v : Value} {xs : List Value} (h : w.ownsRow B e size v n xs) (hB : B' ≤ B) : w.ownsRow B' e size v n xs := by
  refine ⟨h.1, ?_⟩
  rcases h.2 with h2 | ⟨g, cap, cur, h1, h2, h3⟩
  · exact .inl h2
  · exact .inr ⟨g, cap, cur, h1, by omega, h3⟩
theorem own_staysB {w w1 : World} {B B0 n : Nat} {e : TypeId} {size : Nat} {v : Value} {xs : List Value} (h : w.ownsRow B0 e size v n xs) (hb : Below B w w1) (hlt : ∀ k, v.ownBlock = some k → k < B) : w1.ownsRow B0 e size v n xs := by
  refine ⟨h.1, ?_⟩
  rcases h.2 with h2 | ⟨g, cap, cur, h1, h2, h3, h4⟩
  · exact .inl h2
  · exact .inr ⟨g, cap, cur, h1, h2, by rw [hb.block g (hlt g (by rw [h1]; rfl))]; exact h3, h4⟩
theorem below_draws {B : Nat} {w w1 : World} (h : Below B w w1) (z : Nat) : Below B w (w1.drewN z) := ⟨h.os, h.tape, h.output, h.size, h.block⟩

theorem file_cells {w : World} {B g n cap : Nat} {l : List Fl} (h : w.ownsRow B 36 3 (.slice (some ⟨g, 0, none⟩) n cap) n (fcs l)) {k : Nat} {f : Fl} (hx : l[k]? = some f) (hk : k < n) :
    w.cell? ⟨g, k * 3, none⟩ = some (.string f.name) ∧ w.cell? ⟨g, k * 3 + 1, none⟩ = some (.string f.text) ∧ w.cell? ⟨g, k * 3 + 2, none⟩ = some (.int .i64 f.kept) := by
  refine ⟨?_, ?_, ?_⟩
  · rw [h.cellAt _ (by omega), fcs_0 hx]
  · rw [h.cellAt _ (by omega), fcs_1 hx]
  · rw [h.cellAt _ (by omega), fcs_2 hx]

/-- Files that came in, below block B. -/
def ArgF (B : Nat) (w : World) (a : Option Addr) (l : List Fl) : Prop :=
  ∀ i f, l[i]? = some f → ∃ x, a = some x ∧ x.block < B ∧ f.name.size ≤ maxLen ∧ f.text.size ≤ maxLen ∧ w.cell? (x.add (i * 3)) = some (.string f.name) ∧
    w.cell? ⟨(x.add (i * 3)).block, (x.add (i * 3)).off + 1, none⟩ = some (.string f.text) ∧ w.cell? ⟨(x.add (i * 3)).block, (x.add (i * 3)).off + 2, none⟩ = some (.int .i64 f.kept)
theorem ArgF.below {B : Nat} {w w' : World} {a : Option Addr} {l : List Fl} (h : ArgF B w a l) (hb : Below B w w') : ArgF B w' a l := by
  intro i f hf
  obtain ⟨x, h1, h2, h3, h4, c0, c1, c2⟩ := h i f hf
  exact ⟨x, h1, h2, h3, h4, by rw [hb.cell (by rw [add_blk]; exact h2)]; exact c0, by rw [hb.cell (by show (x.add (i * 3)).block < B; rw [add_blk]; exact h2)]; exact c1, by rw [hb.cell (by show (x.add (i * 3)).block < B; rw [add_blk]; exact h2)]; exact c2⟩

theorem ArgF.up {w w' : World} {a : Option Addr} {l : List Fl} (h : ArgF w.heap.size w a l) (hb : Below w.heap.size w w') : ArgF w'.heap.size w' a l := by
  intro i f hf
  obtain ⟨x, h1, h2, h3⟩ := h.below hb i f hf
  exact ⟨x, h1, Nat.lt_of_lt_of_le h2 hb.size, h3⟩

/-- Files of which none is over L. -/
def SmallF (L : Nat) (l : List Fl) : Prop := l.length ≤ L ∧ ∀ f ∈ l, f.name.size ≤ L ∧ f.text.size ≤ L

set_option maxHeartbeats 1000000 in
theorem szFile_any (n t : ByteArray) (k : Int) (L : Nat) (w : World) (hL : L ≤ 1048576) (hn : n.size ≤ maxLen) (ht : t.size ≤ maxLen) :
    Calls Try.prog 80 #[.agg #[.string n, .string t, .int .i64 k], .int .i64 (L : Int)] w fun e w' =>
      (∃ m : Int, e = .returned (.int .i64 m) ∧ (m = -1 ∨ ∃ q : Nat, m = (q : Int) ∧ q ≤ L ∧ n.size ≤ L ∧ t.size ≤ L)) ∧ Below w.heap.size w w' := by
  unfold maxLen at hn ht
  by_cases h1 : n.size ≤ L
  · by_cases h2 : n.size + t.size ≤ L
    · have e0 : ((n.size : Int) + (t.size : Int)) ≤ (L : Int) := by omega
      go_enter Try.func80, Try.ntmps80
      go_wp2
      all_goals go_ret
      exact ⟨⟨_, rfl, .inr ⟨L - n.size - t.size, by omega, by omega, by omega, by omega⟩⟩, (Below.refl _ w).alloc (Nat.le_refl _) _⟩
    · have e0 : (L : Int) < ((n.size : Int) + (t.size : Int)) := by omega
      go_enter Try.func80, Try.ntmps80
      go_wp2
      go_ret
      exact ⟨⟨_, rfl, .inl rfl⟩, (Below.refl _ w).alloc (Nat.le_refl _) _⟩
  · go_enter Try.func80, Try.ntmps80
    go_wp2
    go_ret
    exact ⟨⟨_, rfl, .inl rfl⟩, (Below.refl _ w).alloc (Nat.le_refl _) _⟩

set_option maxHeartbeats 1000000 in
theorem toFile_any (n t : ByteArray) (k : Int) (w : World) :
    Calls Try.prog 81 #[.agg #[.string n, .string t, .int .i64 k]] w fun e w' =>
      e = .returned (.agg #[.string n, .string t, .int .i64 k]) ∧ Below w.heap.size w w' := by
  go_enter Try.func81, Try.ntmps81
  go_wp2
  go_returns
  refine ⟨rfl, ?_⟩
  go_grown

set_option maxHeartbeats 1000000 in
theorem eqFile_same (n t : ByteArray) (k : Int) (w : World) :
    Calls Try.prog 82 #[.agg #[.string n, .string t, .int .i64 k], .agg #[.string n, .string t, .int .i64 k]] w fun e w' =>
      e = .returned (.bool true) ∧ Below w.heap.size w w' := by
  go_enter Try.func82, Try.ntmps82
  go_wp2
  go_ret
  refine ⟨rfl, ?_⟩
  go_grown

set_option maxHeartbeats 1000000 in
theorem szFileS_any (a : Option Addr) (len cap : Nat) (l : List Fl) (w : World) (hl : l.length = len) (hm : len ≤ maxLen) (h : ArgF w.heap.size w a l) :
    Calls Try.prog 58 #[.slice a len cap, .int .i64 1048576] w fun e w' =>
      (∃ m : Int, e = .returned (.int .i64 m) ∧ (m = -1 ∨ ∃ q : Nat, m = (q : Int) ∧ q ≤ 1048576 ∧ SmallF 1048576 l)) ∧ Below w.heap.size w w' := by
  unfold maxLen at hm
  by_cases hs : len ≤ 1048576
  · have HA := hide h
    clear h
    go_enter Try.func58, Try.ntmps58
    go_wp2
    go_loopw [1, 5] (fun m i wr => ∃ k q : Nat, k ≤ len ∧ q ≤ 1048576 ∧ i = .int .i64 k ∧ m = .int .i64 q ∧ (∀ f ∈ l.take k, f.name.size ≤ 1048576 ∧ f.text.size ≤ 1048576) ∧ Below w.heap.size w wr) (fun _ i _ => len - (intOf i).toNat)
    case atStart => exact ⟨0, 1048576 - len, Nat.zero_le _, by omega, rfl, by go_num, by simp, Below.refl _ _⟩
    case round =>
      obtain ⟨k, q, hk, hq, rfl, rfl, hall, hbel⟩ := hrel
      by_cases hlt : k < len
      · have hkl : k < l.length := by omega
        obtain ⟨x, rfl, hxb, hs1, hs2, c0, c1, c2⟩ := (unhide HA).below hbel k l[k] (List.getElem?_eq_getElem hkl)
        have hsnoc := hide (show l.take (k + 1) = l.take k ++ [l[k]] from List.take_succ_eq_append_getElem hkl)
        have HC := hide hall
        clear hall
        generalize l[k] = f at *
        have cz := fun wx => szFile_any f.name f.text f.kept q wx hq hs1 hs2
        have HZ := hide cz
        clear cz hs1 hs2
        go_wp2_with fail
        refine (unhide HZ _).mono ?_
        rintro e w1 ⟨⟨m, rfl, hmm⟩, hb1⟩
        rcases hmm with rfl | ⟨q1, rfl, hq1, hq2, hq3⟩
        · go_wp2
          go_ret
          exact ⟨⟨_, rfl, .inl rfl⟩, below2 hbel hb1⟩
        · go_wp2
          go_roundw
          case rel =>
            refine ⟨k + 1, q1, by omega, by omega, by go_num, rfl, ?_, below2 hbel hb1⟩
            rw [unhide hsnoc]
            intro f' hf'
            rcases List.mem_append.1 hf' with h1 | h1
            · exact unhide HC f' h1
            · simp at h1; subst h1; exact ⟨by omega, by omega⟩
          case measure => simp [intOf]; omega
      · have e : k = len := by omega
        subst e
        rw [List.take_of_length_le (by omega)] at hall
        have HC := hide hall
        clear hall
        go_wp2
        go_ret
        exact ⟨⟨_, rfl, .inr ⟨q, rfl, hq, by unfold SmallF; exact ⟨by omega, unhide HC⟩⟩⟩, hbel⟩
  · go_enter Try.func58, Try.ntmps58
    go_wp2
    · go_ret
      exact ⟨⟨_, rfl, .inl rfl⟩, Below.refl _ _⟩

set_option maxHeartbeats 1000000 in
theorem szDisk_any (a : Option Addr) (len cap : Nat) (l : List Fl) (w : World) (hl : l.length = len) (hm : len ≤ maxLen) (h : ArgF w.heap.size w a l) :
    Calls Try.prog 25 #[.agg #[.slice a len cap], .int .i64 1048576] w fun e w' =>
      (∃ m : Int, e = .returned (.int .i64 m) ∧ (m = -1 ∨ ∃ q : Nat, m = (q : Int) ∧ q ≤ 1048576 ∧ SmallF 1048576 l)) ∧ Below w.heap.size w w' := by
  have HA := hide h
  clear h
  go_enter Try.func25, Try.ntmps25
  go_wp2_with fail
  have hb0 := (Below.refl w.heap.size w).alloc (Nat.le_refl _) (.cells #[.slice a len cap] 51)
  refine (szFileS_any a len cap l _ hl hm (fun i f hf => by
    obtain ⟨x, h1, h2, h3⟩ := (unhide HA).below hb0 i f hf
    exact ⟨x, h1, by simp; omega, h3⟩)).mono ?_
  rintro e w1 ⟨⟨m, rfl, hmm⟩, hb1⟩
  rcases hmm with rfl | ⟨q1, rfl, hq1, hq2⟩
  · go_wp2
    go_ret
    exact ⟨⟨_, rfl, .inl rfl⟩, below2 hb0 hb1⟩
  · have HQ := hide hq2
    clear hq2
    go_wp2
    go_ret
    exact ⟨⟨_, rfl, .inr ⟨q1, rfl, hq1, unhide HQ⟩⟩, below2 hb0 hb1⟩

theorem made_files (n : Nat) : (madeCells (Value.agg #[.string ByteArray.empty, .string ByteArray.empty, .int .i64 0]).cells (n * 3)).toList = fcs (List.replicate n fl0) := by
  apply List.ext_getElem?
  intro i
  obtain ⟨q, j, rfl, hj⟩ : ∃ q j, i = q * 3 + j ∧ j < 3 := ⟨i / 3, i % 3, by omega, Nat.mod_lt _ (by omega)⟩
  by_cases hq : q < n
  · rw [fcs_get _ q fl0 (by simp [hq]) j hj]
    have e1 : (q * 3 + j) % 3 = j := by omega
    have hm : q * 3 + j < n * 3 := by omega
    rw [Array.getElem?_toList, madeCells, Array.getElem?_map, Array.getElem?_eq_getElem (by simp; omega), Array.getElem_range, Option.map_some]
    show some (#[Value.string ByteArray.empty, .string ByteArray.empty, .int .i64 0][(q * 3 + j) % 3]!) = _
    rw [e1]
    match j, hj with
    | 0, _ => simp [fc, fl0]
    | 1, _ => simp [fc, fl0]
    | 2, _ => simp [fc, fl0]
  · rw [List.getElem?_eq_none (by simp [madeCells]; omega), List.getElem?_eq_none (by simp [fcs_length]; omega)]

/-- A row of files that is one's own: as it is read. -/
def OwnF (B : Nat) (w : World) (v : Value) (l : List Fl) : Prop := w.ownsRow B 36 3 v l.length (fcs l)

set_option maxHeartbeats 1000000 in
theorem toFileS_any (a : Option Addr) (cap : Nat) (l : List Fl) (w : World) (hs : l.length ≤ 1048576) (h : ArgF w.heap.size w a l) :
    Calls Try.prog 60 #[.slice a l.length cap] w fun e w' =>
      ∃ v, e = .returned v ∧ OwnF w.heap.size w' v l ∧ Below w.heap.size w w' := by
  obtain ⟨i0, hi, hz0, hz1, hz2⟩ := info_parts Try.infoFile
  have HA := hide h
  clear h
  go_enter Try.func60, Try.ntmps60
  go_wp2_with (refine wpList_make_full _ rfl _ _ 24 rfl w.heap.size 36 i0 _ 3 Try.underlying24 hi hz0 hz1 .i64 .i64 _ _ l.length rfl rfl rfl rfl (by rw [hz2]; omega) (by unfold maxLen; omega) (Nat.le_refl _) ?_; intro wm hown hgm)
  rw [made_files] at hown
  have hgl : w.heap.size < wm.heap.size := (hown.lt _ rfl).2
  go_loopw [4] (fun i wr => ∃ k : Nat, k ≤ l.length ∧ i = .int .i64 k ∧ wr.ownsRow w.heap.size 36 3 (.slice (some ⟨w.heap.size, 0, none⟩) l.length l.length) l.length (fcs (laidF l k)) ∧ Below w.heap.size w wr) (fun i _ => l.length - (intOf i).toNat)
  case atStart => exact ⟨0, Nat.zero_le _, rfl, by rw [laidF_zero]; exact hown, below_of_grown hgm⟩
  case round =>
    obtain ⟨k, hk, rfl, hownk, hbel⟩ := hrel
    clear hown
    by_cases hlt : k < l.length
    · obtain ⟨x, rfl, hxb, hs1, hs2, c0, c1, c2⟩ := (unhide HA).below hbel k l[k] (List.getElem?_eq_getElem hlt)
      have hset := hide (laidF_set l k hlt)
      have hll := hide (laidF_length l k hk)
      generalize l[k] = f at *
      have ct := fun wx => toFile_any f.name f.text f.kept wx
      have HT := hide ct
      clear ct hs1 hs2
      have hgr : w.heap.size < wr.heap.size := (hownk.lt _ rfl).2
      have OK := hide hownk
      clear hownk
      go_wp2_with fail
      refine (unhide HT _).mono ?_
      rintro e w1 ⟨rfl, hb1⟩
      have own1 : w1.ownsRow w.heap.size 36 3 (.slice (some ⟨w.heap.size, 0, none⟩) l.length l.length) l.length (fcs (laidF l k)) := own_stays (unhide OK) hb1
      have f0 := own1.frozenAt (k * 3)
      have f1 := own1.frozenAt (k * 3 + 1)
      have f2 := own1.frozenAt (k * 3 + 2)
      have hget : (laidF l k)[k]? = some ((laidF l k)[k]'(by rw [unhide hll]; exact hlt)) := List.getElem?_eq_getElem _
      obtain ⟨d0, d1, d2⟩ := file_cells own1 hget hlt
      have OL := hide own1
      generalize (laidF l k)[k]'(by rw [unhide hll]; exact hlt) = f' at *
      have hst0 := own1.stored (k * 3) (.string f.name)
      have hst1 := hst0.1.stored (k * 3 + 1) (.string f.text)
      have hst2 := hst1.1.stored (k * 3 + 2) (.int .i64 f.kept)
      rw [fcs_set _ _ _ (by rw [unhide hll]; exact hlt), unhide hset] at hst2
      have HST := hide hst2.1
      have hB := hide ((((below2 hbel hb1).setCell (p := ⟨w.heap.size, k * 3, none⟩) (Nat.le_refl _) (.string f.name)).setCell (p := ⟨w.heap.size, k * 3 + 1, none⟩) (Nat.le_refl _) (.string f.text)).setCell (p := ⟨w.heap.size, k * 3 + 2, none⟩) (Nat.le_refl _) (.int .i64 f.kept))
      clear own1 hst0 hst1 hst2
      go_wp2
      go_roundw
      case rel => exact ⟨k + 1, by omega, by go_num, unhide HST, unhide hB⟩
      case measure => simp [intOf]; omega
    · have e : k = l.length := by omega
      subst e
      rw [laidF_all] at hownk
      go_wp2
      go_ret
      exact ⟨_, rfl, hownk, hbel⟩

set_option maxHeartbeats 1000000 in
theorem toDisk_any (a : Option Addr) (cap : Nat) (l : List Fl) (w : World) (hs : l.length ≤ 1048576) (h : ArgF w.heap.size w a l) :
    Calls Try.prog 27 #[.agg #[.slice a l.length cap]] w fun e w' =>
      ∃ v, e = .returned (.agg #[v]) ∧ OwnF w.heap.size w' v l ∧ Below w.heap.size w w' := by
  have HA := hide h
  clear h
  go_enter Try.func27, Try.ntmps27
  go_wp2_with fail
  have hb0 := (((Below.refl w.heap.size w).alloc (Nat.le_refl _) (.cells #[.slice a l.length cap] 51)).alloc (by simp) (.cells #[.slice none 0 0] 26)).alloc (by simp; omega) (.cells #[.slice none 0 0] 26)
  have k1 : (((w.alloc (.cells #[.slice a l.length cap] 51)).alloc (.cells #[.slice none 0 0] 26)).alloc (.cells #[.slice none 0 0] 26)).cell? ⟨w.heap.size + 1, 0, none⟩ = some (.slice none 0 0) := by go_simp
  have k2 : (((w.alloc (.cells #[.slice a l.length cap] 51)).alloc (.cells #[.slice none 0 0] 26)).alloc (.cells #[.slice none 0 0] 26)).cell? ⟨w.heap.size + 1 + 1, 0, none⟩ = some (.slice none 0 0) := by go_simp
  have z1 : (((w.alloc (.cells #[.slice a l.length cap] 51)).alloc (.cells #[.slice none 0 0] 26)).alloc (.cells #[.slice none 0 0] 26)).frozen? ⟨w.heap.size + 1, 0, none⟩ = false := by go_simp
  have z2 : (((w.alloc (.cells #[.slice a l.length cap] 51)).alloc (.cells #[.slice none 0 0] 26)).alloc (.cells #[.slice none 0 0] 26)).frozen? ⟨w.heap.size + 1 + 1, 0, none⟩ = false := by go_simp
  have hsz : (((w.alloc (.cells #[.slice a l.length cap] 51)).alloc (.cells #[.slice none 0 0] 26)).alloc (.cells #[.slice none 0 0] 26)).heap.size = w.heap.size + 1 + 1 + 1 := by simp
  have HA1 := hide ((unhide HA).below hb0)
  generalize (((w.alloc (.cells #[.slice a l.length cap] 51)).alloc (.cells #[.slice none 0 0] 26)).alloc (.cells #[.slice none 0 0] 26)) = W at *
  refine (toFileS_any a cap l W hs (fun i f hf => by
    obtain ⟨x, h1, h2, h3⟩ := unhide HA1 i f hf
    exact ⟨x, h1, by omega, h3⟩)).mono ?_
  rintro e w1 ⟨v, rfl, hown, hb1⟩
  have k1' := (hb1.cell (p := ⟨w.heap.size + 1, 0, none⟩) (by show w.heap.size + 1 < _; omega)).trans k1
  have k2' := (hb1.cell (p := ⟨w.heap.size + 1 + 1, 0, none⟩) (by show w.heap.size + 1 + 1 < _; omega)).trans k2
  have z1' := (hb1.frozen (p := ⟨w.heap.size + 1, 0, none⟩) (by show w.heap.size + 1 < _; omega)).trans z1
  have z2' := (hb1.frozen (p := ⟨w.heap.size + 1 + 1, 0, none⟩) (by show w.heap.size + 1 + 1 < _; omega)).trans z2
  unfold OwnF at hown
  obtain ⟨va, vl, vc, hv⟩ : ∃ a n c, v = .slice a n c := by
    rcases hown.2 with ⟨rfl, _⟩ | ⟨_, _, _, rfl, _⟩
    · exact ⟨_, _, _, rfl⟩
    · exact ⟨_, _, _, rfl⟩
  have hlt := hide (fun k hk => (hown.lt k hk).1)
  have hownS := hide (fun (p : Addr) (hp : p.block < W.heap.size) u => ownsRow_setCell_below hown hp u)
  have HB := hide (hb0.trans (hb1.mono (by omega)))
  have HO := hide hown
  subst hv
  clear hown k1 k2 z1 z2
  have kk : ((w1.setCell ⟨w.heap.size + 1 + 1, 0, none⟩ (.slice va vl vc)).setCell ⟨w.heap.size + 1, 0, none⟩ (.slice va vl vc)).cell? ⟨w.heap.size + 1, 0, none⟩ = some (.slice va vl vc) :=
    World.cell?_setCell_same' _ _ _ (by rw [World.cell?_setCell_other _ _ _ _ (by simp), k1']; rfl)
  go_wp2
  refine bodyPost_ret (by simp [results, Try.results27, go_sem, kk]; try rfl) rfl ?_
  refine ⟨_, rfl, ?_, ?_⟩
  · refine own_based (B := W.heap.size) ?_ (by omega)
    refine ownsRow_setCell_below (ownsRow_setCell_below (unhide HO) ?_ _) ?_ _ <;> simp <;> omega
  · exact ((unhide HB).setCell (by simp <;> omega) _).setCell (by simp <;> omega) _

set_option maxHeartbeats 1000000 in
set_option maxRecDepth 100000 in
theorem eqFileS_same (l : List Fl) (v1 v2 : Value) (B1 B2 : Nat) (w : World) (hs : l.length ≤ 1048576)
    (h1 : OwnF B1 w v1 l) (h2 : OwnF B2 w v2 l) :
    Calls Try.prog 61 #[v1, v2] w fun e w' => e = .returned (.bool true) ∧ Below w.heap.size w w' := by
  unfold OwnF at h1 h2
  obtain ⟨n, hn⟩ : ∃ n, n = l.length := ⟨_, rfl⟩
  rw [← hn] at h1 h2 hs
  by_cases hz : n = 0
  · obtain ⟨a1, c1, rfl⟩ : ∃ a c, v1 = .slice a n c := by
      rcases h1.2 with ⟨rfl, h10⟩ | ⟨g1, c1, cur1, rfl, _⟩
      · exact ⟨none, 0, by rw [hz]⟩
      · exact ⟨_, _, rfl⟩
    obtain ⟨a2, c2, rfl⟩ : ∃ a c, v2 = .slice a n c := by
      rcases h2.2 with ⟨rfl, h10⟩ | ⟨g1, c1, cur1, rfl, _⟩
      · exact ⟨none, 0, by rw [hz]⟩
      · exact ⟨_, _, rfl⟩
    clear h1 h2 hn
    subst hz
    go_enter Try.func61, Try.ntmps61
    go_wp2
    refine wp_loop_rounds 1 ?_
    rw [rounds_succ]
    go_wp2
    go_ret
    exact ⟨rfl, Below.refl _ _⟩
  · rcases h1.2 with ⟨_, h10⟩ | ⟨g1, c1, cur1, rfl, hb1, hh1, _⟩
    · exact absurd h10 hz
    rcases h2.2 with ⟨_, h20⟩ | ⟨g2, c2, cur2, rfl, hb2, hh2, _⟩
    · exact absurd h20 hz
    have hl1 : g1 < w.heap.size := (h1.lt _ rfl).2
    have hl2 : g2 < w.heap.size := (h2.lt _ rfl).2
    have C1 := hide (fun (k : Nat) (f : Fl) (hx : l[k]? = some f) (hk : k < n) => file_cells h1 hx hk)
    have C2 := hide (fun (k : Nat) (f : Fl) (hx : l[k]? = some f) (hk : k < n) => file_cells h2 hx hk)
    have HN := hide hn
    clear h1 h2 hh1 hh2 hn
    go_enter Try.func61, Try.ntmps61
    go_wp2
    go_loopw [5] (fun i wr => ∃ k : Nat, k ≤ n ∧ i = .int .i64 k ∧ Below w.heap.size w wr) (fun i _ => n - (intOf i).toNat)
    case atStart => exact ⟨0, Nat.zero_le _, rfl, Below.refl _ _⟩
    case round =>
      obtain ⟨k, hk, rfl, hbel⟩ := hrel
      by_cases hlt : k < n
      · have hkl : k < l.length := by rw [← unhide HN]; exact hlt
        obtain ⟨c0, c1', c2'⟩ := unhide C1 k l[k] (List.getElem?_eq_getElem hkl) hlt
        obtain ⟨d0, d1, d2⟩ := unhide C2 k l[k] (List.getElem?_eq_getElem hkl) hlt
        generalize l[k] = f at *
        have HE := hide (fun wx => eqFile_same f.name f.text f.kept wx)
        rw [← hbel.cell (p := ⟨g1, _, none⟩) hl1] at c0 c1' c2'
        rw [← hbel.cell (p := ⟨g2, _, none⟩) hl2] at d0 d1 d2
        have hr1 : g1 < wr.heap.size := Nat.lt_of_lt_of_le hl1 hbel.size
        have hr2 : g2 < wr.heap.size := Nat.lt_of_lt_of_le hl2 hbel.size
        go_wp2
        go_region_held3 (fun w' => w'.cell? ⟨g1, k * 3, none⟩ = some (.string f.name) ∧ w'.cell? ⟨g1, k * 3 + 1, none⟩ = some (.string f.text) ∧ w'.cell? ⟨g1, k * 3 + 2, none⟩ = some (.int .i64 f.kept) ∧ w'.cell? ⟨g2, k * 3, none⟩ = some (.string f.name) ∧ w'.cell? ⟨g2, k * 3 + 1, none⟩ = some (.string f.text) ∧ w'.cell? ⟨g2, k * 3 + 2, none⟩ = some (.int .i64 f.kept)) (first | go_keep | (rw [hb1.cell (p := ⟨g1, _, none⟩) hr1, hb1.cell (p := ⟨g1, _, none⟩) hr1, hb1.cell (p := ⟨g1, _, none⟩) hr1, hb1.cell (p := ⟨g2, _, none⟩) hr2, hb1.cell (p := ⟨g2, _, none⟩) hr2, hb1.cell (p := ⟨g2, _, none⟩) hr2]; exact ⟨c0, c1', c2', d0, d1, d2⟩)) ((go_at_call 82; refine (unhide HE _).mono ?_; rintro e w1 ⟨rfl, hb1⟩))
        go_wp2
        go_roundw
        case rel => exact ⟨k + 1, by omega, by go_num, below2 hbel.drew hb1⟩
        case measure => simp [intOf]; omega
      · go_wp2
        go_ret
        exact ⟨rfl, hbel⟩

set_option maxHeartbeats 1000000 in
theorem eqDisk_same (l : List Fl) (v1 v2 : Value) (B1 B2 : Nat) (w : World) (hs : l.length ≤ 1048576)
    (h1 : OwnF B1 w v1 l) (h2 : OwnF B2 w v2 l) :
    Calls Try.prog 28 #[.agg #[v1], .agg #[v2]] w fun e w' => e = .returned (.bool true) ∧ Below w.heap.size w w' := by
  obtain ⟨a1, n1, c1, e1⟩ : ∃ a n c, v1 = .slice a n c := by
    unfold OwnF at h1
    rcases h1.2 with ⟨rfl, _⟩ | ⟨_, _, _, rfl, _⟩
    · exact ⟨_, _, _, rfl⟩
    · exact ⟨_, _, _, rfl⟩
  obtain ⟨a2, n2, c2, e2⟩ : ∃ a n c, v2 = .slice a n c := by
    unfold OwnF at h2
    rcases h2.2 with ⟨rfl, _⟩ | ⟨_, _, _, rfl, _⟩
    · exact ⟨_, _, _, rfl⟩
    · exact ⟨_, _, _, rfl⟩
  subst e1 e2
  have H1 := hide h1
  have H2 := hide h2
  clear h1 h2
  go_enter Try.func28, Try.ntmps28
  go_wp2_with fail
  have hb0 := ((Below.refl w.heap.size w).alloc (Nat.le_refl _) (.cells #[.slice a1 n1 c1] 26)).alloc (by simp) (.cells #[.slice a2 n2 c2] 26)
  refine (eqFileS_same l _ _ B1 B2 _ hs (own_stays (unhide H1) hb0) (own_stays (unhide H2) hb0)).mono ?_
  rintro e w1 ⟨rfl, hb1⟩
  go_wp2
  go_ret
  exact ⟨rfl, below2 hb0 hb1⟩
end Go.Proofs.Ytipmbfjcgmchkaa
