/- The draws of the laws: once in a while; one of a list; a long text (DrawNum without grown_below, which Marks has too: not beside DrawNum). -/
import Derived.Test.YtfemplekibpfoaaGreatDrawNew
import Derived.Test.YtfemplekibpfoaaGreatUnPlain
import Derived.WalkMore
import Derived.Laws.OwnMore
namespace Go.Proofs.YtfemplekibpfoaaGreat
open Go.RowKit
open Plain
set_option linter.unusedVariables false

theorem l01Once_any (B c n : Nat) (w : World) (hc : Cur B w c) (h0 : 0 < n) (h1 : n ≤ 4294967296) :
    Calls Tryz.prog 70 #[.pointer (some ⟨c, 0, none⟩), .int .i64 n] w fun e w' => ∃ b : Bool, e = .returned (.bool b) ∧ Cur B w' c ∧ w.grownBy w' (some c) := by
  have q := hide (l01Below_any B c n w hc h0 h1)
  go_enter Tryz.func70, Tryz.ntmps70
  go_wp2_with (go_at_call 72; refine (unhide q).mono ?_; rintro e w1 ⟨x, hx, rfl, hc1, hg1⟩)
  go_ret
  exact ⟨_, rfl, hc1, hg1⟩

/-- One of a list of numbers. -/
theorem l01PickInt_any (B c g m cp : Nat) (w : World) (hc : Cur B w c) (hm : 0 < m) (hm2 : m ≤ 1000) (hne : g ≠ c) (hg : g < w.heap.size)
    (hl : ∀ j, j < m → ∃ z : Int, -9223372036854775808 ≤ z ∧ z ≤ 9223372036854775807 ∧ w.cell? ⟨g, j, none⟩ = some (.int .i64 z)) :
    Calls Tryz.prog 71 #[.pointer (some ⟨c, 0, none⟩), .slice (some ⟨g, 0, none⟩) m cp] w fun e w' => ∃ z : Int, -9223372036854775808 ≤ z ∧ z ≤ 9223372036854775807 ∧ e = .returned (.int .i64 z) ∧ Cur B w' c ∧ w.grownBy w' (some c) := by
  have q := hide (l01Below_any B c m w hc hm (by omega))
  have HL := hide hl
  clear hl hc
  go_enter Tryz.func71, Tryz.ntmps71
  go_wp2_with (go_at_call 72; refine (unhide q).mono ?_; rintro e w1 ⟨x, hx, rfl, hc1, hg1⟩; obtain ⟨z, hz1, hz2, hz3⟩ := unhide HL x hx; have hz4 : w1.cell? ⟨g, x, none⟩ = some (.int .i64 z) := (World.cell?_of_block (w := w) (a := ⟨g, x, none⟩) (hg1.block g hg (fun e => hne (by cases e; rfl)))).trans hz3)
  go_ret
  exact ⟨z, hz1, hz2, rfl, hc1, hg1⟩

theorem bv_set (l : List UInt8) (j x : Nat) (hx : x < 256) : bv (l.set j (UInt8.ofNat x)) = (bv l).set j (.int .u8 (x : Int)) := by
  unfold bv
  rw [List.map_set]
  congr 2
  simp only [UInt8.toNat_ofNat', Nat.reducePow, Nat.mod_eq_of_lt hx]

set_option maxHeartbeats 1000000 in
set_option maxRecDepth 100000 in
/-- Some text of n bytes. -/
theorem l01Long_any (n x : Nat) (w : World) (hn : n ≤ 1000000) (hx : x < 256) :
    Calls Tryz.prog 112 #[.int .i64 n, .int .u8 x] w fun e w' => ∃ l : List UInt8, l.length = n ∧ e = .returned (.string ⟨l.toArray⟩) ∧ Below w.heap.size w w' := by
  obtain ⟨i0, hi, hz0, hz1, hz2⟩ := info_parts Tryz.infoU8
  go_enter Tryz.func112, Tryz.ntmps112
  go_wp2_with (at_make; refine wpList_make_full _ rfl _ _ 22 rfl w.heap.size 5 i0 (.int .u8 0) 1 Tryz.underlying22 hi hz0 hz1 _ _ _ _ n rfl rfl (by omega) (by omega) (by rw [hz2]; omega) (by unfold maxLen; omega) (Nat.le_refl _) ?_)
  intro w0 hown0 hgrow0
  rw [made_zero'] at hown0
  have hb0 : Below w.heap.size w w0 := (Below.refl _ _).grown hgrow0 (Nat.le_refl _) (fun j hj => by cases hj)
  clear hgrow0
  go_wp2
  go_loopw [6] (fun i wr => ∃ (k : Nat) (l : List UInt8), k ≤ n ∧ l.length = n ∧ i = .int .i64 (k : Int) ∧ wr.ownsRow w.heap.size 5 1 (.slice (some ⟨w.heap.size, 0, none⟩) n n) n (bv l) ∧ Below w.heap.size w wr)
    (fun i _ => n - (intOf i).toNat)
  case atStart => exact ⟨0, _, Nat.zero_le _, List.length_replicate .., rfl, hown0, hb0⟩
  case round =>
    obtain ⟨k, l, hk, hll, rfl, hown, hbel⟩ := hrel
    have hll' := hide hll
    clear hll hown0
    by_cases hlt : k < n
    · have hc : ∃ u, wr.cell? ⟨w.heap.size, k, none⟩ = some u := by
        rw [hown.cellAt k (by omega)]
        exact ⟨_, List.getElem?_eq_getElem (by simp [bv, unhide hll']; omega)⟩
      obtain ⟨u, hcell⟩ := hc
      have hfz : wr.frozen? ⟨w.heap.size, k, none⟩ = false := hown.frozenAt _
      go_wp2
      go_roundw
      case rel => exact ⟨k + 1, l.set k (UInt8.ofNat x), by omega, by rw [List.length_set]; exact unhide hll', by go_num, by rw [bv_set l k x hx]; exact (hown.stored k _).1, hbel.setCell (p := ⟨w.heap.size, k, none⟩) (Nat.le_refl _) _⟩
      case measure => simp [intOf]; omega
    · have hcv := own_str (unhide hll').symm hown
      go_wp2
      go_ret
      exact ⟨l, unhide hll', rfl, hbel⟩
end Go.Proofs.YtfemplekibpfoaaGreat
