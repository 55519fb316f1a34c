/- Rows of acts: what the laws' own helpers do to them; one that came in, opened. -/
import Derived.Test.YtipmbfjcgmchkabAct1
import Derived.Test.YtipmbfjcgmchkabActsPlain
import Derived.Test.YtipmbfjcgmchkabLedger2
import Derived.Test.YtipmbfjcgmchkabMarks
namespace Go.Proofs.Ytipmbfjcgmchkab
open Go.ChangeShapes Go.WideShapes Go.ChangeAt Go.RowKit
open Plain
set_option linter.unusedVariables false

theorem Try.infoAct : (Try.prog.info? 62).map (fun i => (i.zero, i.size, i.bytes)) = some (some (.agg #[.int .i64 0, .string ByteArray.empty, .string ByteArray.empty, .string ByteArray.empty]), 4, 56) := by kernel_rfl

theorem act_cells {w : World} {B g n cap : Nat} {l : List Ac} (h : w.ownsRow B 62 4 (.slice (some ⟨g, 0, none⟩) n cap) n (acs l)) {k : Nat} {f : Ac} (hx : l[k]? = some f) (hk : k < n) :
    w.cell? ⟨g, k * 4, none⟩ = some (.int .i64 f.kind) ∧ w.cell? ⟨g, k * 4 + 1, none⟩ = some (.string f.name) ∧ w.cell? ⟨g, k * 4 + 2, none⟩ = some (.string f.text) ∧ w.cell? ⟨g, k * 4 + 3, none⟩ = some (.string f.to) := by
  refine ⟨?_, ?_, ?_, ?_⟩
  · rw [h.cellAt _ (by omega), acs_0 hx]
  · rw [h.cellAt _ (by omega), acs_1 hx]
  · rw [h.cellAt _ (by omega), acs_2 hx]
  · rw [h.cellAt _ (by omega), acs_3 hx]

/-- Acts that came in, below block B. -/
def ArgA (B : Nat) (w : World) (a : Option Addr) (l : List Ac) : Prop :=
  ∀ i f, l[i]? = some f → ∃ x, a = some x ∧ x.block < B ∧ ActIn f ∧ w.cell? (x.add (i * 4)) = some (.int .i64 f.kind) ∧ w.cell? ⟨(x.add (i * 4)).block, (x.add (i * 4)).off + 1, none⟩ = some (.string f.name) ∧
    w.cell? ⟨(x.add (i * 4)).block, (x.add (i * 4)).off + 2, none⟩ = some (.string f.text) ∧ w.cell? ⟨(x.add (i * 4)).block, (x.add (i * 4)).off + 3, none⟩ = some (.string f.to)
theorem ArgA.below {B : Nat} {w w' : World} {a : Option Addr} {l : List Ac} (h : ArgA B w a l) (hb : Below B w w') : ArgA B w' a l := by
  intro i f hf
  obtain ⟨x, h1, h2, h3, c0, c1, c2, c3⟩ := h i f hf
  have hb' : (x.add (i * 4)).block < B := by rw [add_blk]; exact h2
  exact ⟨x, h1, h2, h3, (hb.cell hb').trans c0, (hb.cell (p := ⟨(x.add (i * 4)).block, _, none⟩) hb').trans c1, (hb.cell (p := ⟨(x.add (i * 4)).block, _, none⟩) hb').trans c2, (hb.cell (p := ⟨(x.add (i * 4)).block, _, none⟩) hb').trans c3⟩
theorem ArgA.up {w w' : World} {a : Option Addr} {l : List Ac} (h : ArgA w.heap.size w a l) (hb : Below w.heap.size w w') : ArgA w'.heap.size w' a l := by
  intro i f hf
  obtain ⟨x, h1, h2, h3⟩ := h.below hb i f hf
  exact ⟨x, h1, Nat.lt_of_lt_of_le h2 hb.size, h3⟩
def SmallAs (L : Nat) (l : List Ac) : Prop := l.length ≤ L ∧ ∀ f ∈ l, SmallA L f
def OwnA (B : Nat) (w : World) (v : Value) (l : List Ac) : Prop := w.ownsRow B 62 4 v l.length (acs l)

set_option maxHeartbeats 1000000 in
theorem szActS_any (a : Option Addr) (cap : Nat) (l : List Ac) (L : Nat) (w : World) (hL : L ≤ 1048576) (hm : l.length ≤ maxLen) (h : ArgA w.heap.size w a l) :
    Calls Try.prog 16 #[.slice a l.length cap, .int .i64 (L : Int)] w fun e w' =>
      (∃ m : Int, e = .returned (.int .i64 m) ∧ (m = -1 ∨ ∃ q : Nat, m = (q : Int) ∧ q ≤ L ∧ SmallAs 1048576 l)) ∧ Below w.heap.size w w' := by
  unfold maxLen at hm
  obtain ⟨len, hl⟩ : ∃ n, n = l.length := ⟨_, rfl⟩
  rw [← hl] at hm ⊢
  have HLN := hide hl
  clear hl
  by_cases hs : len ≤ L
  · have HA := hide h
    clear h
    go_enter Try.func16, Try.ntmps16
    have hs' : (len : Int) ≤ (L : Int) := by omega
    go_wp2
    go_loopw [1, 5] (fun m i wr => ∃ k q : Nat, k ≤ len ∧ q ≤ L ∧ i = .int .i64 k ∧ m = .int .i64 q ∧ (∀ f ∈ l.take k, SmallA 1048576 f) ∧ Below w.heap.size w wr) (fun _ i _ => len - (intOf i).toNat)
    case atStart => exact ⟨0, L - len, Nat.zero_le _, by omega, rfl, by go_num, by simp, Below.refl _ _⟩
    case round =>
      obtain ⟨k, q, hk, hq, rfl, rfl, hall, hbel⟩ := hrel
      by_cases hlt : k < len
      · have hkl : k < l.length := by have := unhide HLN; omega
        obtain ⟨x, rfl, hxb, hin, c0, c1, c2, c3⟩ := (unhide HA).below hbel k l[k] (List.getElem?_eq_getElem hkl)
        have hsnoc := hide (show l.take (k + 1) = l.take k ++ [l[k]] from List.take_succ_eq_append_getElem hkl)
        have HC := hide hall
        clear hall
        generalize l[k] = f at *
        have HZ := hide (fun wx => szAct_any f q wx (by omega) hin)
        clear hin
        go_wp2_with fail
        refine (unhide HZ _).mono ?_
        rintro e w1 ⟨⟨m, rfl, hmm⟩, hb1⟩
        rcases hmm with rfl | ⟨q1, rfl, hq1, hq2⟩
        · go_wp2
          go_ret
          exact ⟨⟨_, rfl, .inl rfl⟩, below2 hbel hb1⟩
        · have HQ := hide hq2
          clear hq2
          go_wp2
          go_roundw
          case rel =>
            refine ⟨k + 1, q1, by omega, by omega, by go_num, rfl, ?_, below2 hbel hb1⟩
            rw [unhide hsnoc]
            intro f' hf'
            rcases List.mem_append.1 hf' with h1 | h1
            · exact unhide HC f' h1
            · simp at h1; subst h1; exact unhide HQ
          case measure => simp [intOf]; omega
      · have e : k = len := by omega
        subst e
        rw [List.take_of_length_le (by have := unhide HLN; omega)] at hall
        have HC := hide hall
        clear hall
        go_wp2
        go_ret
        exact ⟨⟨_, rfl, .inr ⟨q, rfl, hq, by unfold SmallAs; exact ⟨by have := unhide HLN; omega, unhide HC⟩⟩⟩, hbel⟩
  · have hs' : (L : Int) < (len : Int) := by omega
    go_enter Try.func16, Try.ntmps16
    go_wp2
    · go_ret
      exact ⟨⟨_, rfl, .inl rfl⟩, Below.refl _ _⟩

theorem made_acts (n : Nat) : (madeCells (Value.agg #[.int .i64 0, .string ByteArray.empty, .string ByteArray.empty, .string ByteArray.empty]).cells (n * 4)).toList = acs (List.replicate n ac0) := by
  apply List.ext_getElem?
  intro i
  obtain ⟨q, j, rfl, hj⟩ : ∃ q j, i = q * 4 + j ∧ j < 4 := ⟨i / 4, i % 4, by omega, Nat.mod_lt _ (by omega)⟩
  by_cases hq : q < n
  · rw [acs_get _ q ac0 (by simp [hq]) j hj]
    have e1 : (q * 4 + j) % 4 = j := by omega
    have hm : q * 4 + j < n * 4 := by omega
    rw [Array.getElem?_toList, madeCells, Array.getElem?_map, Array.getElem?_eq_getElem (by simp; omega), Array.getElem_range, Option.map_some]
    show some (#[Value.int .i64 0, .string ByteArray.empty, .string ByteArray.empty, .string ByteArray.empty][(q * 4 + j) % 4]!) = _
    rw [e1]
    match j, hj with
    | 0, _ => simp [acl, ac0]
    | 1, _ => simp [acl, ac0]
    | 2, _ => simp [acl, ac0]
    | 3, _ => simp [acl, ac0]
  · rw [List.getElem?_eq_none (by simp [madeCells]; omega), List.getElem?_eq_none (by simp [acs_length]; omega)]

set_option maxHeartbeats 1000000 in
theorem toActS_any (a : Option Addr) (cap : Nat) (l : List Ac) (w : World) (hs : l.length ≤ 1048576) (h : ArgA w.heap.size w a l) :
    Calls Try.prog 18 #[.slice a l.length cap] w fun e w' =>
      ∃ v, e = .returned v ∧ OwnA w.heap.size w' v l ∧ Below w.heap.size w w' := by
  obtain ⟨i0, hi, hz0, hz1, hz2⟩ := info_parts Try.infoAct
  have HA := hide h
  clear h
  go_enter Try.func18, Try.ntmps18
  go_wp2_with (refine wpList_make_full _ rfl _ _ 42 rfl w.heap.size 62 i0 _ 4 Try.underlying42 hi hz0 hz1 .i64 .i64 _ _ l.length rfl rfl rfl rfl (by rw [hz2]; omega) (by unfold maxLen; omega) (Nat.le_refl _) ?_; intro wm hown hgm)
  rw [made_acts] at hown
  have hgl : w.heap.size < wm.heap.size := (hown.lt _ rfl).2
  go_loopw [4] (fun i wr => ∃ k : Nat, k ≤ l.length ∧ i = .int .i64 k ∧ wr.ownsRow w.heap.size 62 4 (.slice (some ⟨w.heap.size, 0, none⟩) l.length l.length) l.length (acs (laidA l k)) ∧ Below w.heap.size w wr) (fun i _ => l.length - (intOf i).toNat)
  case atStart => exact ⟨0, Nat.zero_le _, rfl, by rw [laidA_zero]; exact hown, below_of_grown hgm⟩
  case round =>
    obtain ⟨k, hk, rfl, hownk, hbel⟩ := hrel
    clear hown
    by_cases hlt : k < l.length
    · obtain ⟨x, rfl, hxb, hin, c0, c1, c2, c3⟩ := (unhide HA).below hbel k l[k] (List.getElem?_eq_getElem hlt)
      have hset := hide (laidA_set l k hlt)
      have hll := hide (laidA_length l k hk)
      generalize l[k] = f at *
      have HT := hide (fun wx => toAct_any f wx)
      clear hin
      have hgr : w.heap.size < wr.heap.size := (hownk.lt _ rfl).2
      have OK := hide hownk
      clear hownk
      go_wp2_with fail
      refine (unhide HT _).mono ?_
      rintro e w1 ⟨rfl, hb1⟩
      have own1 : w1.ownsRow w.heap.size 62 4 (.slice (some ⟨w.heap.size, 0, none⟩) l.length l.length) l.length (acs (laidA l k)) := own_stays (unhide OK) hb1
      have f0 := own1.frozenAt (k * 4)
      have f1 := own1.frozenAt (k * 4 + 1)
      have f2 := own1.frozenAt (k * 4 + 2)
      have f3 := own1.frozenAt (k * 4 + 3)
      have hget : (laidA l k)[k]? = some ((laidA l k)[k]'(by rw [unhide hll]; exact hlt)) := List.getElem?_eq_getElem _
      obtain ⟨d0, d1, d2, d3⟩ := act_cells own1 hget hlt
      generalize (laidA l k)[k]'(by rw [unhide hll]; exact hlt) = f' at *
      have hst0 := own1.stored (k * 4) (.int .i64 f.kind)
      have hst1 := hst0.1.stored (k * 4 + 1) (.string f.name)
      have hst2 := hst1.1.stored (k * 4 + 2) (.string f.text)
      have hst3 := hst2.1.stored (k * 4 + 3) (.string f.to)
      rw [acs_set _ _ _ (by rw [unhide hll]; exact hlt), unhide hset] at hst3
      have HST := hide hst3.1
      have hB := hide (((((below2 hbel hb1).setCell (p := ⟨w.heap.size, k * 4, none⟩) (Nat.le_refl _) (.int .i64 f.kind)).setCell (p := ⟨w.heap.size, k * 4 + 1, none⟩) (Nat.le_refl _) (.string f.name)).setCell (p := ⟨w.heap.size, k * 4 + 2, none⟩) (Nat.le_refl _) (.string f.text)).setCell (p := ⟨w.heap.size, k * 4 + 3, none⟩) (Nat.le_refl _) (.string f.to))
      clear own1 hst0 hst1 hst2 hst3
      simp only [ac]
      go_wp2
      go_roundw
      case rel => exact ⟨k + 1, by omega, by go_num, unhide HST, unhide hB⟩
      case measure => simp [intOf]; omega
    · have e : k = l.length := by omega
      subst e
      rw [laidA_all] at hownk
      go_wp2
      go_ret
      exact ⟨_, rfl, hownk, hbel⟩

set_option maxHeartbeats 1000000 in
set_option maxRecDepth 100000 in
theorem eqActS_same (l : List Ac) (v1 v2 : Value) (B1 B2 : Nat) (w : World) (hs : l.length ≤ 1048576)
    (h1 : OwnA B1 w v1 l) (h2 : OwnA B2 w v2 l) :
    Calls Try.prog 20 #[v1, v2] w fun e w' => e = .returned (.bool true) ∧ Below w.heap.size w w' := by
  unfold OwnA at h1 h2
  obtain ⟨n, hn⟩ : ∃ n, n = l.length := ⟨_, rfl⟩
  rw [← hn] at h1 h2 hs
  by_cases hz : n = 0
  · obtain ⟨a1, c1, rfl⟩ : ∃ a c, v1 = .slice a n c := by
      rcases h1.2 with ⟨rfl, h10⟩ | ⟨g1, c1, cur1, rfl, _⟩
      · exact ⟨none, 0, by rw [hz]⟩
      · exact ⟨_, _, rfl⟩
    obtain ⟨a2, c2, rfl⟩ : ∃ a c, v2 = .slice a n c := by
      rcases h2.2 with ⟨rfl, h10⟩ | ⟨g1, c1, cur1, rfl, _⟩
      · exact ⟨none, 0, by rw [hz]⟩
      · exact ⟨_, _, rfl⟩
    clear h1 h2 hn
    subst hz
    go_enter Try.func20, Try.ntmps20
    go_wp2
    refine wp_loop_rounds 1 ?_
    rw [rounds_succ]
    go_wp2
    go_ret
    exact ⟨rfl, Below.refl _ _⟩
  · rcases h1.2 with ⟨_, h10⟩ | ⟨g1, c1, cur1, rfl, hb1, hh1, _⟩
    · exact absurd h10 hz
    rcases h2.2 with ⟨_, h20⟩ | ⟨g2, c2, cur2, rfl, hb2, hh2, _⟩
    · exact absurd h20 hz
    have hl1 : g1 < w.heap.size := (h1.lt _ rfl).2
    have hl2 : g2 < w.heap.size := (h2.lt _ rfl).2
    have C1 := hide (fun (k : Nat) (f : Ac) (hx : l[k]? = some f) (hk : k < n) => act_cells h1 hx hk)
    have C2 := hide (fun (k : Nat) (f : Ac) (hx : l[k]? = some f) (hk : k < n) => act_cells h2 hx hk)
    have HN := hide hn
    clear h1 h2 hh1 hh2 hn
    go_enter Try.func20, Try.ntmps20
    go_wp2
    go_loopw [5] (fun i wr => ∃ k : Nat, k ≤ n ∧ i = .int .i64 k ∧ Below w.heap.size w wr) (fun i _ => n - (intOf i).toNat)
    case atStart => exact ⟨0, Nat.zero_le _, rfl, Below.refl _ _⟩
    case round =>
      obtain ⟨k, hk, rfl, hbel⟩ := hrel
      by_cases hlt : k < n
      · have hkl : k < l.length := by rw [← unhide HN]; exact hlt
        obtain ⟨c0, c1', c2', c3'⟩ := unhide C1 k l[k] (List.getElem?_eq_getElem hkl) hlt
        obtain ⟨d0, d1, d2, d3⟩ := unhide C2 k l[k] (List.getElem?_eq_getElem hkl) hlt
        generalize l[k] = f at *
        obtain ⟨fk, fn, ft, fo⟩ := f
        simp only at c0 c1' c2' c3' d0 d1 d2 d3
        have HE := hide (fun wx => (eqAct_same ⟨fk, fn, ft, fo⟩ wx : Calls Try.prog 37 #[.agg #[.int .i64 fk, .string fn, .string ft, .string fo], .agg #[.int .i64 fk, .string fn, .string ft, .string fo]] wx fun e w' => e = .returned (.bool true) ∧ Below wx.heap.size wx w'))
        rw [← hbel.cell (p := ⟨g1, _, none⟩) hl1] at c0 c1' c2' c3'
        rw [← hbel.cell (p := ⟨g2, _, none⟩) hl2] at d0 d1 d2 d3
        have hr1 : g1 < wr.heap.size := Nat.lt_of_lt_of_le hl1 hbel.size
        have hr2 : g2 < wr.heap.size := Nat.lt_of_lt_of_le hl2 hbel.size
        have hik : (0 : Int) ≤ (k : Int) := by omega
        have hil : (k : Int) < (n : Int) := by omega
        go_wp2
        refine wp_region_held_drew (S := fun w' => w'.cell? ⟨g1, k * 4, none⟩ = some (.int .i64 fk) ∧ w'.cell? ⟨g1, k * 4 + 1, none⟩ = some (.string fn) ∧ w'.cell? ⟨g1, k * 4 + 2, none⟩ = some (.string ft) ∧ w'.cell? ⟨g1, k * 4 + 3, none⟩ = some (.string fo) ∧ w'.cell? ⟨g2, k * 4, none⟩ = some (.int .i64 fk) ∧ w'.cell? ⟨g2, k * 4 + 1, none⟩ = some (.string fn) ∧ w'.cell? ⟨g2, k * 4 + 2, none⟩ = some (.string ft) ∧ w'.cell? ⟨g2, k * 4 + 3, none⟩ = some (.string fo)) (by kernel_rfl) (⟨c0, c1', c2', c3', d0, d1, d2, d3⟩) (fun hHeld => ?_)
        refine takeVal 0 (some 17) ?_ rfl (by kernel_rfl) (by kernel_rfl) (by kernel_rfl) rfl (fun _ _ _ h => h) (by rfl) (by assumption) ?_ ?_
        rotate_left
        · (intro w hSw; (try dsimp only at hSw); go_simp <;> with_reducible rfl)
        simp only [Act.put, List.setIfInBounds_toArray, List.set_cons_zero, List.set_cons_succ]
        refine takeVal 1 (some 18) ?_ rfl (by kernel_rfl) (by kernel_rfl) (by kernel_rfl) rfl (fun _ _ _ h => h) (by rfl) (by assumption) ?_ ?_
        rotate_left
        · (intro w hSw; (try dsimp only at hSw); go_simp <;> with_reducible rfl)
        simp only [Act.put, List.setIfInBounds_toArray, List.set_cons_zero, List.set_cons_succ]
        refine takeVal 2 (some 19) ?_ rfl (by kernel_rfl) (by kernel_rfl) (by kernel_rfl) rfl (fun _ _ _ h => h) (by rfl) (by assumption) ?_ ?_
        rotate_left
        · (intro w hSw; (try dsimp only at hSw); go_simp <;> with_reducible rfl)
        simp only [Act.put, List.setIfInBounds_toArray, List.set_cons_zero, List.set_cons_succ]
        refine takeVal 3 (some 20) ?_ rfl (by kernel_rfl) (by kernel_rfl) (by kernel_rfl) rfl (fun _ _ _ h => h) (by rfl) (by assumption) ?_ ?_
        rotate_left
        · (intro w hSw; (try dsimp only at hSw); go_simp <;> with_reducible rfl)
        simp only [Act.put, List.setIfInBounds_toArray, List.set_cons_zero, List.set_cons_succ]
        refine takeVal 4 (some 21) ?_ rfl (by kernel_rfl) (by kernel_rfl) (by kernel_rfl) rfl (fun _ _ _ h => h) (by rfl) (by assumption) ?_ ?_
        rotate_left
        · (intro w hSw; (try dsimp only at hSw); go_simp <;> with_reducible rfl)
        simp only [Act.put, List.setIfInBounds_toArray, List.set_cons_zero, List.set_cons_succ]
        refine takeVal 5 (some 22) ?_ rfl (by kernel_rfl) (by kernel_rfl) (by kernel_rfl) rfl (fun _ _ _ h => h) (by rfl) (by assumption) ?_ ?_
        rotate_left
        · (intro w hSw; (try dsimp only at hSw); go_simp <;> with_reducible rfl)
        simp only [Act.put, List.setIfInBounds_toArray, List.set_cons_zero, List.set_cons_succ]
        refine takeVal 6 (some 23) ?_ rfl (by kernel_rfl) (by kernel_rfl) (by kernel_rfl) rfl (fun _ _ _ h => h) (by rfl) (by assumption) ?_ ?_
        rotate_left
        · (intro w hSw; (try dsimp only at hSw); go_simp <;> with_reducible rfl)
        simp only [Act.put, List.setIfInBounds_toArray, List.set_cons_zero, List.set_cons_succ]
        refine takeVal 7 (some 24) ?_ rfl (by kernel_rfl) (by kernel_rfl) (by kernel_rfl) rfl (fun _ _ _ h => h) (by rfl) (by assumption) ?_ ?_
        rotate_left
        · (intro w hSw; (try dsimp only at hSw); go_simp <;> with_reducible rfl)
        simp only [Act.put, List.setIfInBounds_toArray, List.set_cons_zero, List.set_cons_succ]
        refine wpAnyH_ready (rs := [8]) (by kernel_rfl) (by simp) ?_
        refine AllReadyH.cons rfl (fun K hK => ?_) AllReadyH.nil
        go_simp
        refine (unhide HE wr.drew).mono ?_
        rintro e w1 ⟨rfl, hb1⟩
        go_wp2_with fail
        refine hK.out _ _ (⟨cell_on (w := wr.drew) hb1 hHeld.1, cell_on (w := wr.drew) hb1 hHeld.2.1, cell_on (w := wr.drew) hb1 hHeld.2.2.1, cell_on (w := wr.drew) hb1 hHeld.2.2.2.1, cell_on (w := wr.drew) hb1 hHeld.2.2.2.2.1, cell_on (w := wr.drew) hb1 hHeld.2.2.2.2.2.1, cell_on (w := wr.drew) hb1 hHeld.2.2.2.2.2.2.1, cell_on (w := wr.drew) hb1 hHeld.2.2.2.2.2.2.2⟩) (fun hHeld2 => ?_)
        clear hK K hHeld
        have hHeld := hHeld2; clear hHeld2
        try simp only [Act.put, List.setIfInBounds_toArray, List.set_cons_zero, List.set_cons_succ]
        refine takeVal 9 (some 26) ?_ rfl (by kernel_rfl) (by kernel_rfl) (by kernel_rfl) rfl (fun _ _ _ h => h) (by rfl) (by assumption) ?_ ?_
        rotate_left
        · (intro w hSw; (try dsimp only at hSw); go_simp <;> with_reducible rfl)
        simp only [Act.put, List.setIfInBounds_toArray, List.set_cons_zero, List.set_cons_succ]
        refine wpAnyH_done (by kernel_rfl) ?_ _
        go_wp2
        go_roundw
        case rel => exact ⟨k + 1, by omega, by go_num, below2 hbel.drew hb1⟩
        case measure => simp [intOf]; omega
      · go_wp2
        go_ret
        exact ⟨rfl, hbel⟩
end Go.Proofs.Ytipmbfjcgmchkab
