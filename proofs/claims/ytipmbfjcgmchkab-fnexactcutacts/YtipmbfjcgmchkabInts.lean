/- Rows of ints: what the laws' own helpers do to them. -/
import Derived.Test.YtipmbfjcgmchkabFiles
import Derived.Deep.Strs
import Derived.Deep.Slices
import Derived.ChangeArms
import Derived.OpenShut
namespace Go.Proofs.Ytipmbfjcgmchkab
open Go.RowKit Go.ChangeShapes Go.WideShapes Go.Deep
open Plain
set_option linter.unusedVariables false

theorem Try.infoInt : (Try.prog.info? 3).map (fun i => (i.zero, i.size, i.bytes)) = some (some (.int .i64 0), 1, 8) := by kernel_rfl
theorem Try.cellsIntI : Try.prog.cellsOf 3 = 1 := by kernel_rfl

def iv (l : List Int) : List Value := l.map (Value.int .i64)
theorem iv_length (l : List Int) : (iv l).length = l.length := by simp [iv]
theorem iv_set (l : List Int) (k : Nat) (x : Int) : (iv l).set k (.int .i64 x) = iv (l.set k x) := by simp [iv, List.map_set]
theorem iv_get {l : List Int} {k : Nat} {x : Int} (h : l[k]? = some x) : (iv l)[k]? = some (.int .i64 x) := by simp [iv, h]
def laidI (l : List Int) (k : Nat) : List Int := l.take k ++ List.replicate (l.length - k) 0
theorem laidI_zero (l : List Int) : laidI l 0 = List.replicate l.length 0 := by simp [laidI]
theorem laidI_all (l : List Int) : laidI l l.length = l := by simp [laidI]
theorem laidI_length (l : List Int) (k : Nat) (h : k ≤ l.length) : (laidI l k).length = l.length := by simp [laidI]; omega
theorem laidI_set (l : List Int) (k : Nat) (h : k < l.length) : (laidI l k).set k l[k] = laidI l (k + 1) := by
  unfold laidI
  have e : l.length - k = (l.length - (k + 1)) + 1 := by omega
  rw [List.set_append_right _ _ (by simp; omega), e, List.replicate_succ]
  have : k - (l.take k).length = 0 := by simp; omega
  rw [this, List.set_cons_zero, List.take_succ_eq_append_getElem h, List.append_assoc]
  rfl

/-- Ints that came in, below block B. -/
def ArgI (B : Nat) (w : World) (a : Option Addr) (l : List Int) : Prop :=
  ∀ i x, l[i]? = some x → ∃ p, a = some p ∧ p.block < B ∧ w.cell? (p.add i) = some (.int .i64 x)
theorem ArgI.below {B : Nat} {w w' : World} {a : Option Addr} {l : List Int} (h : ArgI B w a l) (hb : Below B w w') : ArgI B w' a l := by
  intro i x hx
  obtain ⟨p, h1, h2, h3⟩ := h i x hx
  exact ⟨p, h1, h2, by rw [hb.cell (by rw [add_blk]; exact h2)]; exact h3⟩
theorem ArgI.up {w w' : World} {a : Option Addr} {l : List Int} (h : ArgI w.heap.size w a l) (hb : Below w.heap.size w w') : ArgI w'.heap.size w' a l := by
  intro i f hf
  obtain ⟨x, h1, h2, h3⟩ := h.below hb i f hf
  exact ⟨x, h1, Nat.lt_of_lt_of_le h2 hb.size, h3⟩
def OwnI (B : Nat) (w : World) (v : Value) (l : List Int) : Prop := w.ownsRow B 3 1 v l.length (iv l)
theorem OwnI.shape {B : Nat} {w : World} {v : Value} {l : List Int} (h : OwnI B w v l) : ∃ a c, v = .slice a l.length c ∧ ∀ (k : Nat) (x : Int), l[k]? = some x →
    ∃ g, a = some ⟨g, 0, none⟩ ∧ g < w.heap.size ∧ w.cell? ⟨g, k, none⟩ = some (.int .i64 x) := by
  unfold OwnI at h
  rcases h.2 with ⟨rfl, h0⟩ | ⟨g, c, cur, rfl, hb, hh, _⟩
  · refine ⟨none, 0, by rw [h0], fun k f hf => ?_⟩
    rw [List.eq_nil_of_length_eq_zero h0] at hf
    simp at hf
  · refine ⟨_, _, rfl, fun k x hf => ⟨g, rfl, (h.lt _ rfl).2, ?_⟩⟩
    have hk : k < l.length := by
      rcases Nat.lt_or_ge k l.length with h1 | h1
      · exact h1
      · rw [List.getElem?_eq_none h1] at hf; cases hf
    rw [h.cellAt _ (by omega), iv_get hf]

set_option maxHeartbeats 1000000 in
theorem toIntS_any (a : Option Addr) (cap : Nat) (l : List Int) (w : World) (hs : l.length ≤ 1048576) (h : ArgI w.heap.size w a l) :
    Calls Try.prog 9 #[.slice a l.length cap] w fun e w' =>
      ∃ v, e = .returned v ∧ OwnI w.heap.size w' v l ∧ Below w.heap.size w w' := by
  obtain ⟨i0, hi, hz0, hz1, hz2⟩ := info_parts Try.infoInt
  have HA := hide h
  clear h
  go_enter Try.func9, Try.ntmps9
  go_wp2_with (refine wpList_make_full _ rfl _ _ 25 rfl w.heap.size 3 i0 _ 1 Try.underlying25 hi hz0 hz1 .i64 .i64 _ _ l.length rfl rfl rfl rfl (by rw [hz2]; omega) (by unfold maxLen; omega) (Nat.le_refl _) ?_; intro wm hown hgm)
  have hmade : (madeCells (Value.int IntKind.i64 0).cells (l.length * 1)).toList = iv (List.replicate l.length 0) := by
    rw [Nat.mul_one]
    show (madeCells #[.int .i64 0] l.length).toList = _
    rw [toList_madeCells_one]
    simp [iv]
  rw [hmade] at hown
  clear hmade
  have hgl : w.heap.size < wm.heap.size := (hown.lt _ rfl).2
  go_loopw [4] (fun i wr => ∃ k : Nat, k ≤ l.length ∧ i = .int .i64 k ∧ wr.ownsRow w.heap.size 3 1 (.slice (some ⟨w.heap.size, 0, none⟩) l.length l.length) l.length (iv (laidI l k)) ∧ Below w.heap.size w wr) (fun i _ => l.length - (intOf i).toNat)
  case atStart => exact ⟨0, Nat.zero_le _, rfl, by rw [laidI_zero]; exact hown, below_of_grown hgm⟩
  case round =>
    obtain ⟨k, hk, rfl, hownk, hbel⟩ := hrel
    clear hown
    by_cases hlt : k < l.length
    · obtain ⟨x, rfl, hxb, c0⟩ := (unhide HA).below hbel k l[k] (List.getElem?_eq_getElem hlt)
      have hset := hide (laidI_set l k hlt)
      have hll := hide (laidI_length l k hk)
      generalize l[k] = f at c0 hset
      have hgr : w.heap.size < wr.heap.size := (hownk.lt _ rfl).2
      have f0 := hownk.frozenAt k
      have d0 : ∃ y, wr.cell? ⟨w.heap.size, k, none⟩ = some y := by
        rw [hownk.cellAt k (by omega)]
        exact ⟨_, List.getElem?_eq_getElem (by rw [iv_length, unhide hll]; exact hlt)⟩
      obtain ⟨y, d0⟩ := d0
      have hst := hownk.stored k (.int .i64 f)
      rw [iv_set, unhide hset] at hst
      have HST := hide hst.1
      have hB := hide (hbel.setCell (p := ⟨w.heap.size, k, none⟩) (Nat.le_refl _) (.int .i64 f))
      clear hst hownk
      go_wp2
      go_roundw
      case rel => exact ⟨k + 1, by omega, by go_num, unhide HST, unhide hB⟩
      case measure => simp [intOf]; omega
    · have e : k = l.length := by omega
      subst e
      rw [laidI_all] at hownk
      go_wp2
      go_ret
      exact ⟨_, rfl, hownk, hbel⟩

set_option maxHeartbeats 1000000 in
set_option maxRecDepth 100000 in
theorem eqIntS_same (l : List Int) (v1 v2 : Value) (B1 B2 : Nat) (w : World) (hs : l.length ≤ 1048576)
    (h1 : OwnI B1 w v1 l) (h2 : OwnI B2 w v2 l) :
    Calls Try.prog 12 #[v1, v2] w fun e w' => e = .returned (.bool true) ∧ Below w.heap.size w w' := by
  obtain ⟨a1, c1, rfl, k1⟩ := h1.shape
  obtain ⟨a2, c2, rfl, k2⟩ := h2.shape
  have C1 := hide k1
  have C2 := hide k2
  clear h1 h2 k1 k2
  go_enter Try.func12, Try.ntmps12
  go_wp2
  go_loopw [5] (fun i wr => ∃ k q : Nat, k ≤ l.length ∧ i = .int .i64 k ∧ wr = w.drewN q) (fun i _ => l.length - (intOf i).toNat)
  case atStart => exact ⟨0, 0, Nat.zero_le _, rfl, rfl⟩
  case round =>
    obtain ⟨k, q, hk, rfl, rfl⟩ := hrel
    by_cases hlt : k < l.length
    · obtain ⟨g1, rfl, _, e1⟩ := unhide C1 k l[k] (List.getElem?_eq_getElem hlt)
      obtain ⟨g2, rfl, _, e2⟩ := unhide C2 k l[k] (List.getElem?_eq_getElem hlt)
      generalize l[k] = x at e1 e2
      go_wp2
      go_quiet (fail)
      go_wp2
      go_roundw
      case rel => exact ⟨k + 1, _, by omega, by go_num, rfl⟩
      case measure => simp [intOf]; omega
    · go_wp2
      go_ret
      exact ⟨rfl, below_draws (Below.refl _ _) _⟩

set_option maxHeartbeats 1000000 in
set_option maxRecDepth 100000 in
theorem markIntS_any (l : List Int) (v : Value) (B k0 : Nat) (w : World) (hs : l.length ≤ 1048576) (hk1 : k0 ≤ 100000000) (h : OwnI B w v l) :
    Calls Try.prog 14 #[v, .int .i64 k0] w fun e w' => e = .returned (.int .i64 ((k0 + l.length : Nat) : Int)) ∧ w.grownBy w' v.ownBlock := by
  unfold OwnI at h
  rcases h.2 with ⟨rfl, hz⟩ | ⟨g, cap, cur, rfl, hbg, hh, hrest⟩
  · have e : l = [] := List.eq_nil_of_length_eq_zero hz
    subst e
    go_enter Try.func14, Try.ntmps14
    go_wp2
    refine wp_loop_rounds 1 ?_
    rw [rounds_succ]
    go_wp2
    go_ret
    exact ⟨by simp, ⟨rfl, rfl, rfl, Nat.le_refl _, fun _ _ _ => rfl⟩⟩
  · clear hh hrest
    obtain ⟨xs, hxs⟩ : ∃ xs, xs = iv l := ⟨_, rfl⟩
    rw [← hxs] at h
    have hxl : xs.length = l.length := by rw [hxs, iv_length]
    clear hxs
    go_enter Try.func14, Try.ntmps14
    have HX := hide hxl
    clear hxl
    go_wp2
    go_loopw [1, 5] (fun m i wr => ∃ (k : Nat) (xs : List Value), k ≤ l.length ∧ i = .int .i64 k ∧ m = .int .i64 ((k0 + k : Nat) : Int) ∧ xs.length = l.length ∧ wr.ownsRow B 3 1 (.slice (some ⟨g, 0, none⟩) l.length cap) l.length xs ∧ w.grownBy wr (some g)) (fun _ i _ => l.length - (intOf i).toNat)
    case atStart => exact ⟨0, xs, Nat.zero_le _, rfl, rfl, unhide HX, h, ⟨rfl, rfl, rfl, Nat.le_refl _, fun _ _ _ => rfl⟩⟩
    case round =>
      obtain ⟨k, ys, hk, rfl, rfl, hyl, hown, hbel⟩ := hrel
      clear h
      by_cases hlt : k < l.length
      · have f0 := hown.frozenAt k
        have d0 : ∃ y, wr.cell? ⟨g, k, none⟩ = some y := by
          rw [hown.cellAt k (by omega)]
          exact ⟨_, List.getElem?_eq_getElem (by omega)⟩
        obtain ⟨y, d0⟩ := d0
        have HST := hide (hown.stored k (.int .i64 ((k0 + k : Nat) : Int))).1
        have hB : Hid (w.grownBy (wr.setCell ⟨g, k, none⟩ (.int .i64 ((k0 + k : Nat) : Int))) (some g)) := ⟨hbel.os, hbel.tape, hbel.output, by simpa using hbel.size, fun q hq hne => (Below.heap_setCell _ _ _ q (fun e => hne (by rw [e]))).trans (hbel.block q hq hne)⟩
        have HY := hide hyl
        clear hown hyl
        go_wp2
        go_roundw
        case rel => exact ⟨k + 1, _, by omega, by go_num, by go_num, by rw [List.length_set]; exact unhide HY, unhide HST, unhide hB⟩
        case measure => simp [intOf]; omega
      · have e : k = l.length := by omega
        subst e
        go_wp2
        go_ret
        exact ⟨rfl, hbel⟩

set_option maxRecDepth 100000 in
theorem open_intS {H : Type} {enc : TypeId × Value → H} {W : World} {base : Nat} {v : Value} {d : DataW H} {ps : List MemPlace} (hval : Value.okWide Try.prog W .any base 25 v)
    (h : DataW.Trod enc Try.prog W 0 (fun _ => true) true 25 v d ps) :
    ∃ (a : Option Addr) (cap : Nat) (l : List Int), v = .slice a l.length cap ∧ l.length ≤ maxLen ∧ ArgI W.heap.size W a l := by
  obtain ⟨a, len, cap, rfl⟩ := okWide_slice Try.underlying25 hval
  obtain ⟨fuel, hf⟩ := h
  rcases open_slice1 Try.underlying25 Try.cellsIntI hf with ⟨hcs, _⟩ | ⟨x, len', cap', m, n, V, D, Pl, hcs, _, hlc, hcm, hm, _, hel⟩
  · simp [Value.cells] at hcs
    obtain ⟨rfl, rfl, rfl⟩ := hcs
    exact ⟨none, 0, [], rfl, Nat.zero_le _, fun i f hf => by simp at hf⟩
  · simp [Value.cells] at hcs
    obtain ⟨rfl, rfl, rfl⟩ := hcs
    have hm' : m = cap := by simpa using hm
    have each : ∀ i, i < len → ∃ z : Int, W.cell? (x.add i) = some (.int .i64 z) := by
      intro i hi
      obtain ⟨h1, h2⟩ := hel i (by omega)
      obtain ⟨z, e, _⟩ := DataW.trod_int Try.underlying3 h2
      simp at e
      exact ⟨z, by rw [h1, e]⟩
    obtain ⟨F, hF⟩ := choose_lt (α := Int) each
    refine ⟨some x, cap, (List.range len).map F, by simp, by simp; omega, fun i f hf => ?_⟩
    have hi : i < len := by
      rcases Nat.lt_or_ge i len with h1 | h1
      · exact h1
      · rw [List.getElem?_eq_none (by simpa using h1)] at hf; cases hf
    obtain rfl : F i = f := by simpa [hi] using hf
    refine ⟨x, rfl, ?_, hF i hi⟩
    have := World.block_lt_of_cell? W _ (hF i hi)
    rwa [add_blk] at this
end Go.Proofs.Ytipmbfjcgmchkab
