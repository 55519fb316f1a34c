/- The program's rows of ranges, sorted by their lower ends (slices.SortFunc). -/
import Derived.Test.YthnofckkehephaaGreatDoorImplSet
import Derived.Test.YthnofckkehephaaGreatDoorSortF
import Derived.Test.YthnofckkehephaaGreatDoorShelf
import Derived.Shelf.SlSortCmp.WholeK
namespace Go.Proofs.YthnofckkehephaaGreatDoor
open Go.RowKit Go.Sort Go.Shelf
open Plain
set_option linter.unusedVariables false

def loCmp (x y : Rg) : Int := Lib.compareInt x.lo y.lo
theorem ltLo (x y : Rg) : ltOf loCmp x y = decide (x.lo < y.lo) := by
  unfold ltOf loCmp Lib.compareInt
  by_cases h1 : x.lo < y.lo
  · simp [h1]
  · by_cases h2 : y.lo < x.lo <;> simp [h1, h2]
theorem swoLo : SWO (ltOf loCmp) where
  irrefl x := by rw [ltLo]; simp
  trans x y z h1 h2 := by rw [ltLo] at *; simp at *; omega
  ntrans x y z h1 h2 := by rw [ltLo] at *; simp at *; omega

set_option maxHeartbeats 1000000 in
theorem united1_any (x y : Rg) (W : World) : Calls Tryz.prog 48 #[.agg #[.int .i64 x.lo, .int .i64 x.hi], .agg #[.int .i64 y.lo, .int .i64 y.hi]] W fun e w' => e = .returned (.int .i64 (loCmp x y)) ∧ ∃ q os', w' = grow (W.drewN q) os' := by
  have hcon := hide (fun W' => Tryz.cmp_Compare_int x.lo y.lo W')
  unfold loCmp
  generalize Lib.compareInt x.lo y.lo = r at hcon ⊢
  go_enter Tryz.func48, Tryz.ntmps48
  go_wp2_with fail
  refine (unhide hcon _).mono ?_
  rintro e w' ⟨rfl, rfl⟩
  go_wp2
  go_ret
  exact ⟨rfl, 0, _, by rw [alloc_eq_grow, alloc_eq_grow, grow_grow]; rfl⟩

theorem grow_below {B : Nat} {w : World} {os : Array Obj} (hB : B ≤ w.heap.size) : Below B w (grow w os) := by
  refine ⟨rfl, rfl, rfl, by simp [grow], fun k hk => heap_grow_old w os (by omega)⟩
theorem putRow_below {g off : Nat} {w : World} {F : Array Value} : Below g w (putRow id w g off F) := by
  refine ⟨rfl, rfl, rfl, by simp, fun k hk => ?_⟩
  unfold putRow mapBlock
  simp only [Array.getElem?_modify]
  rw [if_neg (by omega)]
theorem flat_rgs (l : List Rg) (I : Inhabited Rg) : ∀ j, j < l.length * 2 → (rgs l)[j]? = some ((flatK rgl 2 l.toArray)[j]!) := by
  intro j hj
  rw [get_flatK rgl 2 l.toArray j (by simpa using hj)]
  obtain ⟨q, r, rfl, hr⟩ : ∃ q r, j = q * 2 + r ∧ r < 2 := ⟨j / 2, j % 2, by omega, Nat.mod_lt _ (by omega)⟩
  have hq : q < l.length := by omega
  have e1 : (q * 2 + r) / 2 = q := by omega
  have e2 : (q * 2 + r) % 2 = r := by omega
  have e3 : l.toArray[q]! = l[q] := by rw [getElem!_pos l.toArray q (by simpa using hq)]; simp
  rw [e1, e2, e3, rgs_get l q l[q] (List.getElem?_eq_getElem hq) r hr]
  match r, hr with
  | 0, _ => simp [rgl]
  | 1, _ => simp [rgl]

/-- A row of ranges, sorted where it stands. -/
theorem sorted_any (s : List Rg) (g c B : Nat) (w : World) (hs : s.length ≤ 4000000) (h : OwnR B w (.slice (some ⟨g, 0, none⟩) s.length c) s) :
    Calls Tryz.prog 57 #[.slice (some ⟨g, 0, none⟩) s.length c, .int .i64 0, .int .i64 s.length, .int .i64 (Lib.bitLen s.length), .func (.func 48) #[] #[]] w fun e w' =>
      e = .returned (.tuple #[]) ∧ (∃ t : List Rg, t.Perm s ∧ t.Pairwise (fun x y => x.lo ≤ y.lo) ∧ ReadO w' (.slice (some ⟨g, 0, none⟩) s.length c) t) ∧ RowKit.Below g w w' ∧ w.grownBy w' (some g) := by
  letI I : Inhabited Rg := ⟨rg0⟩
  have hlt := (h.lt g rfl).2
  have hcap : s.length ≤ c := by
    rcases h.2 with ⟨h1, _⟩ | ⟨_, _, _, h1, _, _, h2, _⟩
    · cases h1
    · cases h1; exact h2
  have HH : HoldsK rgl 2 w g 0 s.toArray := by
    intro j hj
    have hj2 : j < s.length * 2 := by simpa using hj
    refine ⟨?_, h.frozenAt _⟩
    rw [Nat.zero_add, h.cellAt j (by omega)]
    exact flat_rgs s I j hj2
  have eg : ∀ args w, (callFunc 48 args).run Tryz.prog w = .ok (.enter 48 args) w := enters_of Tryz.func48 (by kernel_rfl) rfl
  have hl : rgl = rgl := rfl
  have hlim : Lib.bitLen s.length < 4611686018427387904 := Nat.lt_of_le_of_lt (Lib.bitLen_le s.length 62 (by omega) (by omega)) (by omega)
  have hcmp : CmpLays Tryz.prog 48 #[] rgl 2 loCmp g 0 s.toArray.size w := fun _ _ _ _ x y => united1_any x y _
  have R : RowK rgl 2 w g 0 s.toArray := ⟨fun _ => rfl, fun x v hv => by simp [rgl] at hv; rcases hv with rfl | rfl <;> rfl, HH, hlt⟩
  have hp := AnyQ.pdqsortCmpFunc_all Tryz.laysPdq 2 Tryz.isAgg56 Tryz.sizeOf56 rgl loCmp 48 #[] swoLo g 0 c s.toArray w eg hcmp R (s.length + 1) 0 s.length (Lib.bitLen s.length) s.toArray w (by omega) rfl (SWK.start HH) (Nat.zero_le _) (by simp) (by simp; omega) hlim (Or.inl rfl)
  have hps := pdq_sorts (ltOf loCmp) swoLo s.toArray 0 s.length (Lib.bitLen s.length) true true (Nat.zero_le _) (by simp) (Or.inl rfl)
  have hsz : s.toArray.size = s.length := by simp
  rw [hsz] at hp
  refine Calls.mono hp ?_
  rintro e w' ⟨rfl, n, os, rfl⟩
  obtain ⟨⟨p1, p2, p3⟩, p4⟩ := hps
  generalize pdq (ltOf loCmp) s.toArray 0 s.length (Lib.bitLen s.length) true true = d at *
  rw [hsz] at p1
  have hd : d.toList.length = s.length := by simpa using p1
  refine ⟨rfl, ⟨d.toList, ?_, ?_, ?_⟩, ?_⟩
  · have e1 : (d.extract 0 s.length).toList = d.toList := by rw [← p1]; simp
    have e2 : (s.toArray.extract 0 s.length).toList = s := by rw [← hsz]; simp
    rw [e1, e2] at p3
    exact p3
  · rw [List.pairwise_iff_getElem]
    intro i j hi hj hij
    have := p4 i j (Nat.zero_le _) hij (by omega)
    rw [ltLo, decide_eq_false_iff_not] at this
    rw [getElem!_pos d i (by simpa using hi), getElem!_pos d j (by simpa using hj)] at this
    simp
    omega
  · have h1 : HoldsK rgl 2 (putRowK rgl 2 (Sort.ahead w n) g 0 d) g 0 d := holdsK_putRowK rgl 2 (Sort.ahead w n) g 0 s.toArray d HH (by rw [p1, hsz])
    have h2 : HoldsK rgl 2 (sortWorldK rgl 2 w g 0 n d os) g 0 d := holdsK_grow rgl 2 _ os g 0 d (by simpa [putRowK] using hlt) h1
    refine ⟨_, _, by rw [hd], by omega, fun k x hx => ⟨g, 0, rfl, ?_, ?_, ?_⟩⟩
    · show g < (grow _ os).heap.size
      simp [grow, putRowK]
      omega
    · have hk : k < d.size := by have := (List.getElem?_eq_some_iff.1 hx).1; simpa using this
      have e := (h2.cell hk (show 0 < 2 by omega)).1
      rw [Nat.add_zero] at e
      rw [e, getElem!_pos d k hk]
      have ex : d[k] = x := by have := (List.getElem?_eq_some_iff.1 hx).2; simpa using this
      rw [ex]
      rfl
    · have hk : k < d.size := by have := (List.getElem?_eq_some_iff.1 hx).1; simpa using this
      have e := (h2.cell hk (show 1 < 2 by omega)).1
      rw [e, getElem!_pos d k hk]
      have ex : d[k] = x := by have := (List.getElem?_eq_some_iff.1 hx).2; simpa using this
      rw [ex]
      rfl
  · have b1 : RowKit.Below g w (Sort.ahead w n) := ⟨rfl, rfl, rfl, Nat.le_refl _, fun k hk => rfl⟩
    have b2 : RowKit.Below g (Sort.ahead w n) (putRowK rgl 2 (Sort.ahead w n) g 0 d) := putRow_below
    have b3 : RowKit.Below g (putRowK rgl 2 (Sort.ahead w n) g 0 d) (sortWorldK rgl 2 w g 0 n d os) := grow_below (by simp [putRowK]; omega)
    refine ⟨(b1.trans b2).trans b3, rfl, rfl, rfl, ((b1.trans b2).trans b3).size, fun k hk hne => ?_⟩
    show (grow (putRowK rgl 2 (Sort.ahead w n) g 0 d) os).heap[k]? = w.heap[k]?
    rw [heap_grow_old _ os (by simpa [putRowK] using hk)]
    unfold putRowK putRow mapBlock
    simp only [Array.getElem?_modify]
    rw [if_neg (fun e => hne (by rw [e]))]
    rfl

set_option maxHeartbeats 1000000 in
theorem sortFunc_any (s : List Rg) (g c B : Nat) (w : World) (hs : s.length ≤ 4000000) (h : OwnR B w (.slice (some ⟨g, 0, none⟩) s.length c) s) :
    Calls Tryz.prog 47 #[.slice (some ⟨g, 0, none⟩) s.length c, .func (.func 48) #[] #[]] w fun e w' =>
      e = .returned (.tuple #[]) ∧ (∃ t : List Rg, t.Perm s ∧ t.Pairwise (fun x y => x.lo ≤ y.lo) ∧ ReadO w' (.slice (some ⟨g, 0, none⟩) s.length c) t) ∧ RowKit.Below g w w' ∧ w.grownBy w' (some g) := by
  have hp := hide (sorted_any s g c B w hs h)
  have hl : Hid (Calls Tryz.prog 58 #[.int .u64 (s.length : Int)] w fun e w' => e = .returned (.int .i64 (Lib.bitLen s.length : Nat)) ∧ w' = w) := by
    have h := Tryz.bits_Len (s.length : Int) w (by omega) (by omega)
    rwa [Int.toNat_natCast] at h
  have wr : IntKind.u64.wrap (s.length : Int) = s.length := by simp [IntKind.wrap, IntKind.bits, IntKind.signed]; omega
  clear h
  go_enter Tryz.func47, Tryz.ntmps47
  go_wp2_with fail
  refine (unhide hl).mono ?_
  rintro e w1 ⟨rfl, hw⟩
  subst w1
  go_wp2_with fail
  refine (unhide hp).mono ?_
  rintro e w2 ⟨rfl, ht, hb, hgr⟩
  have HT := hide ht
  clear ht
  go_wp2
  go_end0
  exact ⟨rfl, unhide HT, hb, hgr⟩
end Go.Proofs.YthnofckkehephaaGreatDoor
