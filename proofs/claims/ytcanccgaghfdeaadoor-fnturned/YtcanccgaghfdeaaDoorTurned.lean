/- FnTurned's walk. -/
import Derived.Test.YtcanccgaghfdeaaDoorTurnPlain
import Derived.Test.YtcanccgaghfdeaaDoorDrawPlaces
import Derived.Lib.ConvBytes
import Derived.RegionTactic
import Derived.ChangeAlike
namespace Go.Proofs.YtcanccgaghfdeaaDoor
open Go.RowKit
open Plain
set_option linter.unusedVariables false

theorem big_any (len cap : Nat) (a : Option Addr) (w : World) (hl : len ≤ 9223372036854775807) :
    Calls Tryd.prog 8 #[.slice a len cap] w fun e w' => e = .returned (.bool (decide ((1048576 : Int) < len))) ∧ w = w' := by
  go_enter Tryd.func8, Tryd.ntmps8
  go_wp2
  go_ret
  exact ⟨rfl, rfl⟩

theorem DrawSumOf_flat (B len cap : Nat) (a : Option Addr) (w : World) (ha : Arg B w a len) (hB : B ≤ w.heap.size) :
    Calls Tryd.prog 9 #[.slice a len cap] w fun e w' => ∃ S : ByteArray, S.size < 40 ∧ e = .returned (.string S) ∧ Below w.heap.size w w' :=
  (DrawSumOf_any B len cap a w ha hB).mono fun e w' ⟨l, h1, h2, h3⟩ => ⟨⟨l.toArray⟩, h1, h2, h3⟩
theorem DrawPlaces_flat (B len cap : Nat) (a : Option Addr) (w : World) (ha : Arg B w a len) (hB : B ≤ w.heap.size) :
    Calls Tryd.prog 10 #[.slice a len cap] w fun e w' => ∃ g pc p0 p1 : Nat, p0 < 10000 ∧ p1 < 10000 ∧ e = .returned (.slice (some ⟨g, 0, none⟩) 12 pc) ∧ 12 ≤ pc ∧ g < w'.heap.size ∧
      w'.cell? ⟨g, 0, none⟩ = some (.int .i64 (p0 : Int)) ∧ w'.cell? ⟨g, 1, none⟩ = some (.int .i64 (p1 : Int)) ∧ Below w.heap.size w w' :=
  (DrawPlaces_any B len cap a w ha hB).mono fun e w' ⟨v, l, h1, h2, h3, h4, h5⟩ => by
    rcases h4.2 with ⟨rfl, h⟩ | ⟨g, pc, cur, rfl, hg, hh, hnc, hcp, hcs, htake⟩
    · cases h
    · match l, h1 with
      | p0 :: p1 :: r, h1 =>
        exact ⟨g, pc, p0, p1, h2 _ (by simp), h2 _ (by simp), h3, hnc, (h4.lt g rfl).2, h4.cellAt 0 (by decide), h4.cellAt 1 (by decide), h5⟩

theorem open_sealed (S : ByteArray) (h : S.size ≤ 20000) : unsV ⟨(sealedL S.data.toList).toArray⟩ = .tuple #[.string S, .bool true] := by
  rw [unsV_yes (uns_sealed _ h)]
  have e : (⟨(sealedL S.data.toList).toArray⟩ : ByteArray).size = S.size + 4 := sealed_len _
  rw [e, Nat.add_sub_cancel]
  have : (⟨(sealedL S.data.toList).toArray⟩ : ByteArray).extract 0 S.size = S := by
    apply ByteArray.ext
    apply Array.ext'
    rw [ext_take]
    show (sealedL S.data.toList).take S.data.toList.length = _
    rw [sealedL, List.take_left]
  rw [this]

/-- A text as bytes: a new row. -/
theorem bytes_of (w : World) (T : ByteArray) (n : Nat) (hn : T.size = n) : ∃ (C : Nat) (w5 : World), (convert 9 22 (.string T)).run Tryd.prog w = .ok (.slice (some ⟨w.heap.size, 0, none⟩) n C) w5 ∧
    (∀ j, j < n → w5.cell? ⟨w.heap.size, j, none⟩ = some (.int .u8 ((T.data.toList.getD j 0).toNat : Int))) ∧ (∀ j, j < n → w5.frozen? ⟨w.heap.size, j, none⟩ = false) ∧ Below w.heap.size w w5 ∧ w5.heap.size = w.heap.size + 1 := by
  subst hn
  have hnew := Lib.bytesWorld_at_new w 5 T
  refine ⟨grownCap w T.size 0 5, Lib.bytesWorld w 5 T, Lib.run_convert_string_bytes (P := Tryd.prog) w 9 22 5 T Tryd.underlying9 Tryd.underlying22 Tryd.underlying5, ?_, ?_, ?_, ?_⟩
  · intro j hj; exact Lib.bytesWorld_cell w 5 T j hj
  · intro j hj
    have : T.size ≤ (Lib.bytesCells w 5 T).size := by simp [Lib.bytesCells]
    simp [World.frozen?, hnew]
    omega
  · exact ⟨rfl, rfl, rfl, by rw [Lib.bytesWorld_size]; omega, fun k hk => Lib.bytesWorld_at_old w _ T k hk⟩
  · exact Lib.bytesWorld_size w _ T

theorem bytes_back (w5 : World) (T : ByteArray) (b n i v C : Nat) (hn : T.size = n) (hi : i < n) (hv : v < 256) (hcell : ∀ j, j < n → w5.cell? ⟨b, j, none⟩ = some (.int .u8 ((T.data.toList.getD j 0).toNat : Int))) :
    (convert 22 9 (.slice (some ⟨b, 0, none⟩) n C)).run Tryd.prog (w5.setCell ⟨b, i, none⟩ (.int .u8 (v : Int))).drew = .ok (.string ⟨(T.data.toList.set i (UInt8.ofNat v)).toArray⟩) (w5.setCell ⟨b, i, none⟩ (.int .u8 (v : Int))).drew := by
  have hl : (T.data.toList.set i (UInt8.ofNat v)).length = n := by rw [List.length_set]; exact hn
  have := run_convert_bytes_back (P := Tryd.prog) (w5.setCell ⟨b, i, none⟩ (.int .u8 (v : Int))).drew 22 9 5 ⟨b, 0, none⟩ C (T.data.toList.set i (UInt8.ofNat v)) Tryd.underlying22 Tryd.underlying5 Tryd.underlying9 ?_
  · rw [hl] at this; exact this
  · intro j hj
    rw [Addr.add_lit, Nat.zero_add, World.cell?_drew]
    by_cases e : i = j
    · subst e
      rw [World.cell?_setCell_same (w := w5) (a := ⟨b, i, none⟩) (v := .int .u8 (v : Int)) (hcell i hi)]
      simp
      omega
    · rw [World.cell?_setCell_other (w := w5) (a := ⟨b, i, none⟩) (b := ⟨b, j, none⟩) (v := .int .u8 (v : Int)) (by intro h; cases h; exact e rfl), hcell j (by omega), List.getElem_set_ne e]
      have hj' : j < T.data.toList.length := by rw [List.length_set] at hj; exact hj
      rw [List.getD_eq_getElem?_getD, List.getElem?_eq_getElem hj']
      rfl
theorem sums_on (S : ByteArray) (h : S.size ≤ 1000) : ∃ (x y : Nat) (S' : ByteArray),
    (∀ W, Tabbed W → Calls Tryd.prog 14 #[.string S] W fun e w' => e = .returned (.int .u32 (x : Int)) ∧ Below W.heap.size W w') ∧
    (∀ W, Tabbed W → Calls Tryd.prog 13 #[.int .u32 (x : Int), .string ⟨#[120]⟩] W fun e w' => e = .returned (.int .u32 (y : Int)) ∧ Below W.heap.size W w') ∧
    (∀ W, Tabbed W → Calls Tryd.prog 14 #[.string S'] W fun e w' => e = .returned (.int .u32 (y : Int)) ∧ Below W.heap.size W w') ∧ S ++ (⟨#[120]⟩ : ByteArray) = S' := by
  refine ⟨sumOf S.data.toList, sumL (sumOf S.data.toList) [120], S ++ ⟨#[120]⟩, fun W hW => impl_SumOf_any S W (by omega) hW, fun W hW => impl_SumMore_any (sumOf S.data.toList) ⟨#[120]⟩ W (sumOf_lt _) (by decide) hW, fun W hW => ?_, rfl⟩
  have e : sumL (sumOf S.data.toList) [120] = sumOf (S ++ (⟨#[120]⟩ : ByteArray)).data.toList := by
    rw [ByteArray.data_append, Array.toList_append, sumOf, sumOf, sumL_append]
  rw [e]
  exact impl_SumOf_any (S ++ ⟨#[120]⟩) W (by rw [ByteArray.size_append, show (⟨#[120]⟩ : ByteArray).size = 1 from rfl]; omega) hW
theorem turned_no' (S T : ByteArray) (i v : Nat) (hS : S.size ≤ 20000) (hT : T = ⟨(sealedL S.data.toList).toArray⟩) (hi : i < S.size + 4) (hv : v < 256) (hne : v ≠ (T.data.toList.getD i 0).toNat) :
    unsV ⟨(T.data.toList.set i (UInt8.ofNat v)).toArray⟩ = .tuple #[.string ⟨#[]⟩, .bool false] := by
  subst hT
  refine unsV_no (turned_no S.data.toList hS i hi _ ?_)
  intro e
  apply hne
  show v = ((sealedL S.data.toList).getD i 0).toNat
  rw [List.getD_eq_getElem?_getD, e]
  simp
  omega

set_option maxHeartbeats 2000000 in
set_option maxRecDepth 100000 in
theorem turned_any (len cap : Nat) (a : Option Addr) (w : World) (ha : Arg w.heap.size w a len) (ht : Tabbed w) :
    Calls Tryd.prog 3 #[.slice a len cap] w fun e w' => e = .returned (.bool true) ∧ Below w.heap.size w w' := by
  have hl := ha.1
  have d0 : decide ((1048576 : Int) < (len : Int)) = false := by simp; omega
  have q0 := big_any len cap a w (by omega)
  rw [d0] at q0
  have q1 := hide (DrawSumOf_flat w.heap.size len cap a w ha (Nat.le_refl _))
  have q2 := hide (fun W (hb : Below w.heap.size w W) => DrawPlaces_flat w.heap.size len cap a W (ha.below hb) hb.size)
  have HT := hide ht
  clear ha ht d0
  go_enter Tryd.func3, Tryd.ntmps3
  go_wp2_with (first
    | (go_at_call 8; refine q0.mono ?_; rintro e w0 ⟨rfl, rfl⟩)
    | (go_at_call 9; refine (unhide q1).mono ?_; rintro e w1 ⟨S, hS, rfl, hb⟩; (obtain ⟨T, hT⟩ : ∃ T : ByteArray, T = ⟨(sealedL S.data.toList).toArray⟩ := ⟨_, rfl⟩); have hT' := hide hT; have hTs : T.size = S.size + 4 := by { rw [hT]; exact sealed_len _ }; clear hT)
    | (go_at_call 10; refine (unhide q2 _ (by assumption)).mono ?_; rintro e w2 ⟨g, pc, p0, p1, hp0, hp1, rfl, hpc, hgl, c0, c1, hb2⟩; have hb := below2 hb hb2; clear hb2)
    | (go_at_call 11; refine (impl_Sealed_yes S _ (by omega) ((unhide HT).below hb)).mono ?_; rw [← unhide hT']; rintro e w3 ⟨rfl, hb3⟩; have hb := below2 hb hb3; have c0 := (hb3.cell (p := ⟨g, 0, none⟩) hgl).trans c0; have c1 := (hb3.cell (p := ⟨g, 1, none⟩) hgl).trans c1; have hgl := Nat.lt_of_lt_of_le hgl hb3.size; clear hb3)
    | (go_at_call 12; refine (impl_Unsealed_any T _ (by omega) ((unhide HT).below hb)).mono ?_; rw [unhide hT', open_sealed S (by omega), ← unhide hT']; rintro e w4 ⟨rfl, hb4⟩; have hb := below2 hb hb4; have c0 := (hb4.cell (p := ⟨g, 0, none⟩) hgl).trans c0; have c1 := (hb4.cell (p := ⟨g, 1, none⟩) hgl).trans c1; have hgl := Nat.lt_of_lt_of_le hgl hb4.size; clear hb4; obtain ⟨C, w5, hconv, hcell, hfz, hb5, hs5⟩ := bytes_of w4 T (S.size + 4) hTs; have c0 := (hb5.cell (p := ⟨g, 0, none⟩) hgl).trans c0; have c1 := (hb5.cell (p := ⟨g, 1, none⟩) hgl).trans c1; (obtain ⟨i, hi⟩ : ∃ i, i = p0 % (S.size + 4) := ⟨_, rfl⟩); have hil : i < S.size + 4 := by { rw [hi]; exact Nat.mod_lt _ (by omega) }; have hie : (p0 : Int) % ((S.size : Int) + 4) = (i : Int) := by { rw [hi]; simp }; clear hi; have HC := hide hcell; (obtain ⟨u, hu⟩ : ∃ u, u = (T.data.toList.getD i 0).toNat := ⟨_, rfl⟩); have ci := hcell i hil; rw [← hu] at ci; have hu8 : u < 256 := by { rw [hu]; exact UInt8.toNat_lt _ }; have hu' := hide hu; clear hu; have fi := hfz i hil; clear hcell hfz; (obtain ⟨v, hv⟩ : ∃ v, v = u ^^^ (1 + p1 % 255) := ⟨_, rfl⟩); have hvv := turned_byte hu8 (show 1 + p1 % 255 < 256 by omega) (by omega); rw [← hv] at hvv; have hv8 := hvv.1; have hvn := hide hvv.2; have hvx : bits .xor .u8 (u : Int) (1 + (p1 : Int) % 255) = (v : Int) := by { rw [show 1 + (p1 : Int) % 255 = ((1 + p1 % 255 : Nat) : Int) from by omega, u8_xor_nat _ _ hu8 (by omega), hv] }; clear hv hvv))
  go_region
  have hback := bytes_back w5 T w4.heap.size (S.size + 4) i v C hTs hil hv8 (unhide HC)
  have hno := hide (turned_no' S T i v (by omega) (unhide hT') hil hv8 (by rw [← unhide hu']; exact unhide hvn))
  obtain ⟨T', hT2⟩ : ∃ T' : ByteArray, T' = ⟨(T.data.toList.set i (UInt8.ofNat v)).toArray⟩ := ⟨_, rfl⟩
  rw [← hT2] at hback hno
  have hT2s : T'.size = S.size + 4 := by
    rw [hT2]
    show (T.data.toList.set i (UInt8.ofNat v)).length = _
    rw [List.length_set]; exact hTs
  have hb6 : Below w.heap.size w (w5.setCell ⟨w4.heap.size, i, none⟩ (.int .u8 (v : Int))).drew := ((below2 hb hb5).setCell (p := ⟨w4.heap.size, i, none⟩) hb.size _).drew
  obtain ⟨x, y, S', qa, qb, qc, hS'⟩ := sums_on S (by omega)
  have qa := hide qa
  have qb := hide qb
  have qc := hide qc
  clear hb hb5 hT2 c0 c1 hconv HC
  go_wp2_with (first
    | (go_at_call 12; refine (impl_Unsealed_any T' _ (by omega) ((unhide HT).below hb6)).mono ?_; rw [unhide hno]; rintro e w7 ⟨rfl, hb7⟩; have hb := below2 hb6 hb7; clear hb7)
    | (go_at_call 13; refine (unhide qb _ ((unhide HT).below hb)).mono ?_; rintro e w8 ⟨rfl, hb8⟩; have hb := below2 hb hb8; clear hb8)
    | (go_at_call 14; refine (unhide qa _ ((unhide HT).below hb)).mono ?_; rintro e w9 ⟨rfl, hb9⟩; have hb := below2 hb hb9; clear hb9)
    | (go_at_call 14; refine (unhide qc _ ((unhide HT).below hb)).mono ?_; rintro e w9 ⟨rfl, hb9⟩; have hb := below2 hb hb9; clear hb9))
  go_ret
  exact ⟨rfl, by assumption⟩

theorem turned_big (len cap : Nat) (a : Option Addr) (w : World) (hl : 1048576 < len) (hl2 : len ≤ 9223372036854775807) :
    Calls Tryd.prog 3 #[.slice a len cap] w fun e w' => e = .returned (.bool true) ∧ Below w.heap.size w w' := by
  have d0 : decide ((1048576 : Int) < (len : Int)) = true := by simp; omega
  have q0 := big_any len cap a w hl2
  rw [d0] at q0
  clear d0
  go_enter Tryd.func3, Tryd.ntmps3
  go_wp2_with (go_at_call 8; refine q0.mono ?_; rintro e w0 ⟨rfl, rfl⟩)
  go_ret
  exact ⟨rfl, Below.refl _ _⟩
end Go.Proofs.YtcanccgaghfdeaaDoor
