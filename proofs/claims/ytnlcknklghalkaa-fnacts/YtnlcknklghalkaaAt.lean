/- The file of a name: where it stands, and its text. -/
import Derived.Test.YtnlcknklghalkaaDisk
import Derived.Test.YtnlcknklghalkaaShelf
namespace Go.Proofs.Ytnlcknklghalkaa
open Go.RowKit
open Plain
set_option linter.unusedVariables false

def posL (l : List Fl) (nm : List UInt8) : Option Nat := l.findIdx? (fun f => f.name.toList == nm)
theorem posL_hit {l : List Fl} {nm : List UInt8} {k : Nat} {f : Fl} (h : ∀ f ∈ l.take k, (f.name.toList == nm) = false) (hf : l[k]? = some f) (he : (f.name.toList == nm) = true) : posL l nm = some k := by
  unfold posL
  rw [List.findIdx?_eq_some_iff_getElem]
  have hk : k < l.length := by
    rcases Nat.lt_or_ge k l.length with h1 | h1
    · exact h1
    · rw [List.getElem?_eq_none h1] at hf; cases hf
  rw [List.getElem?_eq_getElem hk] at hf
  cases hf
  refine ⟨hk, he, fun j hj => ?_⟩
  have := h l[j] (List.mem_take_iff_getElem.2 ⟨j, by omega, rfl⟩)
  simp [this]
theorem posL_none {l : List Fl} {nm : List UInt8} (h : ∀ f ∈ l, (f.name.toList == nm) = false) : posL l nm = none := by
  unfold posL
  rw [List.findIdx?_eq_none_iff]
  exact h
theorem posL_some {l : List Fl} {nm : List UInt8} {k : Nat} (h : posL l nm = some k) : ∃ f, l[k]? = some f ∧ (f.name.toList == nm) = true := by
  unfold posL at h
  rw [List.findIdx?_eq_some_iff_getElem] at h
  obtain ⟨hk, he, _⟩ := h
  exact ⟨l[k], List.getElem?_eq_getElem hk, he⟩
def posI (l : List Fl) (nm : List UInt8) : Int := match posL l nm with | none => -1 | some k => (k : Int)
def fileAtV (l : List Fl) (nm : List UInt8) : Value := match posL l nm with | none => .tuple #[.string ByteArray.empty, .bool false] | some k => .tuple #[.string (l[k]?.getD fl0).text, .bool true]

theorem Clone_any (s : ByteArray) (w : World) (h : s.size ≤ 281474976710656) :
    Calls Try.prog 24 #[.string s] w fun e w' => e = .returned (.string s) ∧ Below w.heap.size w w' := by
  go_enter Try.func24, Try.ntmps24
  go_wp2_with (go_at_call 48; refine (Try.stringslite_Clone s _ h).mono ?_; rintro e w1 ⟨rfl, hb⟩)
  go_ret
  exact ⟨rfl, hb⟩

set_option maxHeartbeats 1000000 in
set_option maxRecDepth 100000 in
theorem l03At_any (l : List Fl) (nm : ByteArray) (v : Value) (B : Nat) (w : World) (hs : l.length ≤ 1048576) (h : OwnF B w v l) :
    Calls Try.prog 46 #[.agg #[v], .string nm] w fun e w' => e = .returned (.int .i64 (posI l nm.toList)) ∧ Below w.heap.size w w' := by
  obtain ⟨a, c, rfl, hcell⟩ := h.shape
  have HC := hide hcell
  clear h hcell
  go_enter Try.func46, Try.ntmps46
  go_wp2
  have hb0 := (Below.refl w.heap.size w).alloc (Nat.le_refl _) (.cells #[.slice a l.length c] 26)
  have e0 : (w.alloc (.cells #[.slice a l.length c] 26)).cell? ⟨w.heap.size, 0, none⟩ = some (.slice a l.length c) := by go_simp
  generalize w.alloc (.cells #[.slice a l.length c] 26) = W at *
  go_loopw [5] (fun i wr => ∃ k q : Nat, k ≤ l.length ∧ i = .int .i64 k ∧ (∀ f ∈ l.take k, (f.name.toList == nm.toList) = false) ∧ wr = W.drewN q) (fun i _ => l.length - (intOf i).toNat)
  case atStart => exact ⟨0, 0, Nat.zero_le _, rfl, by simp, rfl⟩
  case round =>
    obtain ⟨k, q, hk, rfl, hok, rfl⟩ := hrel
    by_cases hlt : k < l.length
    · have hgk : l[k]? = some l[k] := List.getElem?_eq_getElem hlt
      obtain ⟨g, rfl, hgl, c0, c1, c2⟩ := unhide HC k l[k] hgk
      rw [← hb0.cell (p := ⟨g, _, none⟩) hgl] at c0 c1 c2
      have hsnoc := hide (show l.take (k + 1) = l.take k ++ [l[k]] from List.take_succ_eq_append_getElem hlt)
      have HK := hide hok
      have HG := hide hgk
      generalize l[k] = f at *
      clear hgk hok
      cases he : (f.name.toList == nm.toList)
      · go_wp2
        try go_quiet (fail)
        try go_wp2
        go_roundw
        case rel =>
          refine ⟨k + 1, _, by omega, by go_num, ?_, rfl⟩
          rw [unhide hsnoc]
          intro f' hf'
          rcases List.mem_append.1 hf' with h1 | h1
          · exact unhide HK f' h1
          · simp at h1; subst h1; exact he
        case measure => simp [intOf]; omega
      · have HR := hide (show posI l nm.toList = (k : Int) by unfold posI; rw [posL_hit (unhide HK) (unhide HG) he])
        go_wp2
        try go_quiet (fail)
        try go_wp2
        go_ret
        exact ⟨by rw [unhide HR]; rfl, below_draws hb0 _⟩
    · obtain rfl : k = l.length := by omega
      rw [List.take_of_length_le (Nat.le_refl _)] at hok
      have HR := hide (show posI l nm.toList = -1 by unfold posI; rw [posL_none hok])
      clear hok
      go_wp2
      go_ret
      exact ⟨by rw [unhide HR]; rfl, below_draws hb0 _⟩

set_option maxHeartbeats 1000000 in
set_option maxRecDepth 100000 in
theorem impl_FileAt_any (l : List Fl) (nm : ByteArray) (v : Value) (B : Nat) (w : World) (hs : SmallF 1048576 l) (h : OwnF B w v l) :
    Calls Try.prog 10 #[.agg #[v], .string nm] w fun e w' => e = .returned (fileAtV l nm.toList) ∧ Below w.heap.size w w' := by
  obtain ⟨a, c, rfl, hcell⟩ := h.shape
  have hs0 := hs.1
  have HC := hide hcell
  have HS := hide hs.2
  clear h hcell hs
  go_enter Try.func10, Try.ntmps10
  go_wp2
  have hb0 := (Below.refl w.heap.size w).alloc (Nat.le_refl _) (.cells #[.slice a l.length c] 26)
  generalize w.alloc (.cells #[.slice a l.length c] 26) = W at *
  go_loopw [11] (fun i wr => ∃ k : Nat, k ≤ l.length ∧ i = .int .i64 k ∧ (∀ f ∈ l.take k, (f.name.toList == nm.toList) = false) ∧ Below w.heap.size w wr) (fun i _ => l.length - (intOf i).toNat)
  case atStart => exact ⟨0, Nat.zero_le _, rfl, by simp, hb0⟩
  case round =>
    obtain ⟨k, hk, rfl, hok, hbel⟩ := hrel
    by_cases hlt : k < l.length
    · have hgk : l[k]? = some l[k] := List.getElem?_eq_getElem hlt
      obtain ⟨g, rfl, hgl, c0, c1, c2⟩ := unhide HC k l[k] hgk
      obtain ⟨hn1, hn2⟩ := unhide HS l[k] (List.getElem_mem _)
      rw [← hbel.cell (p := ⟨g, _, none⟩) hgl] at c0 c1 c2
      have hsnoc := hide (show l.take (k + 1) = l.take k ++ [l[k]] from List.take_succ_eq_append_getElem hlt)
      have HK := hide hok
      have HG := hide hgk
      generalize l[k] = f at *
      clear hgk hok
      cases he : (f.name.toList == nm.toList)
      · go_wp2
        go_roundw
        case rel =>
          refine ⟨k + 1, by omega, by go_num, ?_, hbel.alloc hbel.size _⟩
          rw [unhide hsnoc]
          intro f' hf'
          rcases List.mem_append.1 hf' with h1 | h1
          · exact unhide HK f' h1
          · simp at h1; subst h1; exact he
        case measure => simp [intOf]; omega
      · have HR := hide (show fileAtV l nm.toList = .tuple #[.string f.text, .bool true] by unfold fileAtV; rw [posL_hit (unhide HK) (unhide HG) he]; simp only; rw [unhide HG]; rfl)
        go_wp2_with (go_at_call 24; refine (Clone_any f.text _ (by omega)).mono ?_; rintro e w1 ⟨rfl, hb1⟩)
        go_ret2
        exact ⟨by rw [unhide HR]; rfl, below2 (hbel.alloc hbel.size _) hb1⟩
    · obtain rfl : k = l.length := by omega
      rw [List.take_of_length_le (Nat.le_refl _)] at hok
      have HR := hide (show fileAtV l nm.toList = .tuple #[.string ByteArray.empty, .bool false] by unfold fileAtV; rw [posL_none hok])
      clear hok
      go_wp2
      go_ret2
      exact ⟨by rw [unhide HR]; rfl, hbel⟩
end Go.Proofs.Ytnlcknklghalkaa
