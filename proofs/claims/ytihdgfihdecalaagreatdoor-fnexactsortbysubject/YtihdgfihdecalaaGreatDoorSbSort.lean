/- The program's numbers with their subjects, sorted (slices.SortFunc). -/
import Derived.Test.YtihdgfihdecalaaGreatDoorSbPlain
import Derived.Test.YtihdgfihdecalaaGreatDoorMemB
import Derived.Test.YtihdgfihdecalaaGreatDoorSortT
import Derived.Test.YtihdgfihdecalaaGreatDoorShelf
import Derived.Shelf.SlSortCmp.WholeK
import Derived.Laws.Cover1
namespace Go.Proofs.YtihdgfihdecalaaGreatDoor
open Go.RowKit Go.Sort Go.Shelf
open Plain
set_option linter.unusedVariables false

def ttC (x : Tt) : List Value := [.string ⟨x.base.toArray⟩, .int .i64 x.uid]
def OwnTt (B : Nat) (w : World) (v : Value) (l : List Tt) : Prop := w.ownsRow B 66 2 v l.length (rowC ttC l)
def SeeTt (w : World) (a : Option Addr) (l : List Tt) : Prop := ∀ (k : Nat) (x : Tt), l[k]? = some x → ∃ g, a = some ⟨g, 0, none⟩ ∧ HasCell w g (k * 2) (.string ⟨x.base.toArray⟩) ∧ HasCell w g (k * 2 + 1) (.int .i64 x.uid)
def cmpTt (x y : Tt) : Int := if bl x.base y.base = true then -1 else if bl y.base x.base = true then 1 else Lib.compareInt x.uid y.uid
theorem cmpInt_neg {a b : Int} : Lib.compareInt a b < 0 ↔ a < b := by
  unfold Lib.compareInt
  by_cases h1 : a < b
  · simp [h1]
  · by_cases h2 : b < a <;> simp [h1, h2]
theorem cmpTt_neg (x y : Tt) : cmpTt x y < 0 ↔ ltT x y := by
  unfold cmpTt ltT
  by_cases h1 : bl x.base y.base = true
  · rw [if_pos h1]; exact ⟨fun _ => .inl h1, fun _ => by decide⟩
  · rw [if_neg h1]
    by_cases h2 : bl y.base x.base = true
    · rw [if_pos h2]
      refine ⟨fun h => by omega, ?_⟩
      rintro (h | ⟨e, _⟩)
      · exact absurd h h1
      · rw [e, bl_irrefl] at h2; cases h2
    · rw [if_neg h2, cmpInt_neg]
      exact ⟨fun h => .inr ⟨bl_tri _ _ h1 h2, h⟩, fun h => by rcases h with h | ⟨_, h⟩; exact absurd h h1; exact h⟩
theorem ltTt (x y : Tt) : ltOf cmpTt x y = true ↔ ltT x y := by
  unfold ltOf
  rw [decide_eq_true_iff]
  exact cmpTt_neg x y
theorem ltT_n {x y z : Tt} (h1 : ¬ ltT x y) (h2 : ¬ ltT y z) : ¬ ltT x z := by
  intro h
  have T : ∀ p q : Tt, ltT p q ∨ ltT q p ∨ (p.base = q.base ∧ p.uid = q.uid) := fun p q => by
    by_cases a : bl p.base q.base = true
    · exact .inl (.inl a)
    · by_cases b : bl q.base p.base = true
      · exact .inr (.inl (.inl b))
      · have e := bl_tri _ _ a b
        rcases Int.lt_trichotomy p.uid q.uid with u | u | u
        · exact .inl (.inr ⟨e, u⟩)
        · exact .inr (.inr ⟨e, u⟩)
        · exact .inr (.inl (.inr ⟨e.symm, u⟩))
  rcases T y z with a | a | ⟨a, b⟩
  · exact h2 a
  · exact h1 (ltT_trans h a)
  · refine h1 ?_
    unfold ltT at h ⊢
    rw [a, b]
    exact h
theorem swoTt : SWO (ltOf cmpTt) where
  irrefl x := by cases h : ltOf cmpTt x x with | false => rfl | true => exact absurd ((ltTt x x).1 h) (ltT_irrefl x)
  trans x y z h1 h2 := (ltTt x z).2 (ltT_trans ((ltTt x y).1 h1) ((ltTt y z).1 h2))
  ntrans x y z h1 h2 := by
    cases h : ltOf cmpTt x z with
    | false => rfl
    | true => exact absurd ((ltTt x z).1 h) (ltT_n (fun q => by rw [(ltTt x y).2 q] at h1; cases h1) (fun q => by rw [(ltTt y z).2 q] at h2; cases h2))

set_option maxHeartbeats 1000000 in
theorem isNaNS_any (x : ByteArray) (w : World) : Calls Tryz.prog 74 #[.string x] w fun e w' => e = .returned (.bool false) ∧ w' = w := by
  go_enter Tryz.func74, Tryz.ntmps74
  go_wp2
  go_ret
  exact ⟨by simp, rfl⟩
set_option maxHeartbeats 1000000 in
theorem cmpS_any (x y : List UInt8) (w : World) : Calls Tryz.prog 55 #[.string ⟨x.toArray⟩, .string ⟨y.toArray⟩] w fun e w' => e = .returned (.int .i64 (if bl x y = true then -1 else if bl y x = true then 1 else 0)) ∧ w' = w := by
  have H := hide (fun z => isNaNS_any z w)
  cases h1 : bl x y with
  | true =>
    go_enter Tryz.func55, Tryz.ntmps55
    go_wp2_with fail
    refine (unhide H _).mono ?_
    rintro e w1 ⟨rfl, rfl⟩
    go_wp2_with fail
    refine (unhide H _).mono ?_
    rintro e w1 ⟨rfl, rfl⟩
    go_wp2
    go_ret
    exact ⟨rfl, rfl⟩
  | false =>
    cases h2 : bl y x with
    | true =>
      have e : (x == y) = false := by rw [beq_eq_false_iff_ne]; rintro rfl; rw [bl_irrefl] at h2; cases h2
      go_enter Tryz.func55, Tryz.ntmps55
      go_wp2_with fail
      refine (unhide H _).mono ?_
      rintro e w1 ⟨rfl, rfl⟩
      go_wp2_with fail
      refine (unhide H _).mono ?_
      rintro e w1 ⟨rfl, rfl⟩
      go_wp2
      go_ret
      exact ⟨rfl, rfl⟩
    | false =>
      obtain rfl : x = y := bl_tri _ _ (by rw [h1]; decide) (by rw [h2]; decide)
      go_enter Tryz.func55, Tryz.ntmps55
      go_wp2_with fail
      refine (unhide H _).mono ?_
      rintro e w1 ⟨rfl, rfl⟩
      go_wp2_with fail
      refine (unhide H _).mono ?_
      rintro e w1 ⟨rfl, rfl⟩
      go_wp2
      go_ret
      exact ⟨rfl, rfl⟩
set_option maxHeartbeats 1000000 in
theorem order1_any (x y : Tt) (W : World) : Calls Tryz.prog 54 #[.agg #[.string ⟨x.base.toArray⟩, .int .i64 x.uid], .agg #[.string ⟨y.base.toArray⟩, .int .i64 y.uid]] W fun e w' => e = .returned (.int .i64 (cmpTt x y)) ∧ ∃ q os', w' = grow (W.drewN q) os' := by
  have hcon := hide (fun W' => Tryz.cmp_Compare_int x.uid y.uid W')
  have hstr := hide (fun W' => cmpS_any x.base y.base W')
  unfold cmpTt
  generalize Lib.compareInt x.uid y.uid = r at hcon ⊢
  cases h1 : bl x.base y.base with
  | true =>
    rw [h1] at hstr
    go_enter Tryz.func54, Tryz.ntmps54
    go_wp2_with fail
    refine (unhide hstr _).mono ?_
    rintro e w' ⟨rfl, rfl⟩
    go_wp2
    go_ret
    exact ⟨rfl, 0, _, by rw [alloc_eq_grow, alloc_eq_grow, grow_grow]; rfl⟩
  | false =>
    cases h2 : bl y.base x.base with
    | true =>
      rw [h1, h2] at hstr
      go_enter Tryz.func54, Tryz.ntmps54
      go_wp2_with fail
      refine (unhide hstr _).mono ?_
      rintro e w' ⟨rfl, rfl⟩
      go_wp2
      go_ret
      exact ⟨rfl, 0, _, by rw [alloc_eq_grow, alloc_eq_grow, grow_grow]; rfl⟩
    | false =>
      rw [h1, h2] at hstr
      go_enter Tryz.func54, Tryz.ntmps54
      go_wp2_with fail
      refine (unhide hstr _).mono ?_
      rintro e w' ⟨rfl, rfl⟩
      go_wp2_with fail
      refine (unhide hcon _).mono ?_
      rintro e w' ⟨rfl, rfl⟩
      go_wp2
      go_ret
      exact ⟨rfl, 0, _, by rw [alloc_eq_grow, alloc_eq_grow, grow_grow]; rfl⟩

theorem grow_below {B : Nat} {w : World} {os : Array Obj} (hB : B ≤ w.heap.size) : Below B w (grow w os) := by
  refine ⟨rfl, rfl, rfl, by simp [grow], fun k hk => heap_grow_old w os (by omega)⟩
theorem putRow_below {g off : Nat} {w : World} {F : Array Value} : Below g w (putRow id w g off F) := by
  refine ⟨rfl, rfl, rfl, by simp, fun k hk => ?_⟩
  unfold putRow mapBlock
  simp only [Array.getElem?_modify]
  rw [if_neg (by omega)]
theorem flat_tt (l : List Tt) (I : Inhabited Tt) : ∀ j, j < l.length * 2 → (rowC ttC l)[j]? = some ((flatK ttC 2 l.toArray)[j]!) := by
  intro j hj
  rw [get_flatK ttC 2 l.toArray j (by simpa using hj)]
  obtain ⟨q, r, rfl, hr⟩ : ∃ q r, j = q * 2 + r ∧ r < 2 := ⟨j / 2, j % 2, by omega, Nat.mod_lt _ (by omega)⟩
  have hq : q < l.length := by omega
  have e1 : (q * 2 + r) / 2 = q := by omega
  have e2 : (q * 2 + r) % 2 = r := by omega
  have e3 : l.toArray[q]! = l[q] := by rw [getElem!_pos l.toArray q (by simpa using hq)]; simp
  rw [e1, e2, e3, rowC_get (k := 2) (enc := ttC) (fun _ => rfl) (List.getElem?_eq_getElem hq) hr]
  match r, hr with
  | 0, _ => simp [ttC]
  | 1, _ => simp [ttC]

/-- A row of numbers with their subjects, sorted where it stands. -/
theorem sorted_any (s : List Tt) (g c B : Nat) (w : World) (hs : s.length ≤ 4000000) (h : OwnTt B w (.slice (some ⟨g, 0, none⟩) s.length c) s) :
    Calls Tryz.prog 73 #[.slice (some ⟨g, 0, none⟩) s.length c, .int .i64 0, .int .i64 s.length, .int .i64 (Lib.bitLen s.length), .func (.func 54) #[] #[]] w fun e w' =>
      e = .returned (.tuple #[]) ∧ (∃ t : List Tt, t.Perm s ∧ t.Pairwise (fun x y => ¬ ltT y x) ∧ SeeTt w' (some ⟨g, 0, none⟩) t) ∧ RowKit.Below g w w' ∧ w.grownBy w' (some g) := by
  letI I : Inhabited Tt := ⟨⟨[], 0⟩⟩
  have hlt := (h.lt g rfl).2
  have hcap : s.length ≤ c := by
    rcases h.2 with ⟨h1, _⟩ | ⟨_, _, _, h1, _, _, h2, _⟩
    · cases h1
    · cases h1; exact h2
  have HH : HoldsK ttC 2 w g 0 s.toArray := by
    intro j hj
    have hj2 : j < s.length * 2 := by simpa using hj
    refine ⟨?_, h.frozenAt _⟩
    rw [Nat.zero_add, h.cellAt j (by omega)]
    exact flat_tt s I j hj2
  have eg : ∀ args w, (callFunc 54 args).run Tryz.prog w = .ok (.enter 54 args) w := enters_of Tryz.func54 (by kernel_rfl) rfl
  have hl : ttC = ttC := rfl
  have hlim : Lib.bitLen s.length < 4611686018427387904 := Nat.lt_of_le_of_lt (Lib.bitLen_le s.length 62 (by omega) (by omega)) (by omega)
  have hcmp : CmpLays Tryz.prog 54 #[] ttC 2 cmpTt g 0 s.toArray.size w := fun _ _ _ _ x y => order1_any x y _
  have R : RowK ttC 2 w g 0 s.toArray := ⟨fun _ => rfl, fun x v hv => by simp [ttC] at hv; rcases hv with rfl | rfl <;> rfl, HH, hlt⟩
  have hp := AnyQ.pdqsortCmpFunc_all Tryz.laysPdq 2 Tryz.isAgg66 Tryz.sizeOf66 ttC cmpTt 54 #[] swoTt g 0 c s.toArray w eg hcmp R (s.length + 1) 0 s.length (Lib.bitLen s.length) s.toArray w (by omega) rfl (SWK.start HH) (Nat.zero_le _) (by simp) (by simp; omega) hlim (Or.inl rfl)
  have hps := pdq_sorts (ltOf cmpTt) swoTt s.toArray 0 s.length (Lib.bitLen s.length) true true (Nat.zero_le _) (by simp) (Or.inl rfl)
  have hsz : s.toArray.size = s.length := by simp
  rw [hsz] at hp
  refine Calls.mono hp ?_
  rintro e w' ⟨rfl, n, os, rfl⟩
  obtain ⟨⟨p1, p2, p3⟩, p4⟩ := hps
  generalize pdq (ltOf cmpTt) s.toArray 0 s.length (Lib.bitLen s.length) true true = d at *
  rw [hsz] at p1
  have hd : d.toList.length = s.length := by simpa using p1
  refine ⟨rfl, ⟨d.toList, ?_, ?_, ?_⟩, ?_⟩
  · have e1 : (d.extract 0 s.length).toList = d.toList := by rw [← p1]; simp
    have e2 : (s.toArray.extract 0 s.length).toList = s := by rw [← hsz]; simp
    rw [e1, e2] at p3
    exact p3
  · rw [List.pairwise_iff_getElem]
    intro i j hi hj hij
    have q4 := p4 i j (Nat.zero_le _) hij (by omega)
    rw [getElem!_pos d i (by simpa using hi), getElem!_pos d j (by simpa using hj)] at q4
    intro e
    rw [(ltTt _ _).2 (by simpa using e)] at q4
    cases q4
  · have h1 : HoldsK ttC 2 (putRowK ttC 2 (Sort.ahead w n) g 0 d) g 0 d := holdsK_putRowK ttC 2 (Sort.ahead w n) g 0 s.toArray d HH (by rw [p1, hsz])
    have h2 : HoldsK ttC 2 (sortWorldK ttC 2 w g 0 n d os) g 0 d := holdsK_grow ttC 2 _ os g 0 d (by simpa [putRowK] using hlt) h1
    refine fun k x hx => ⟨g, rfl, ⟨?_⟩, ⟨?_⟩⟩
    · have hk : k < d.size := by have := (List.getElem?_eq_some_iff.1 hx).1; simpa using this
      have e := (h2.cell hk (show 0 < 2 by omega)).1
      simp only [Nat.add_zero, Nat.zero_add] at e
      rw [e, getElem!_pos d k hk]
      have ex : d[k] = x := by have := (List.getElem?_eq_some_iff.1 hx).2; simpa using this
      rw [ex]
      rfl
    · have hk : k < d.size := by have := (List.getElem?_eq_some_iff.1 hx).1; simpa using this
      have e := (h2.cell hk (show 1 < 2 by omega)).1
      simp only [Nat.zero_add] at e
      rw [e, getElem!_pos d k hk]
      have ex : d[k] = x := by have := (List.getElem?_eq_some_iff.1 hx).2; simpa using this
      rw [ex]
      rfl
  · have b1 : RowKit.Below g w (Sort.ahead w n) := ⟨rfl, rfl, rfl, Nat.le_refl _, fun k hk => rfl⟩
    have b2 : RowKit.Below g (Sort.ahead w n) (putRowK ttC 2 (Sort.ahead w n) g 0 d) := putRow_below
    have b3 : RowKit.Below g (putRowK ttC 2 (Sort.ahead w n) g 0 d) (sortWorldK ttC 2 w g 0 n d os) := grow_below (by simp [putRowK]; omega)
    refine ⟨(b1.trans b2).trans b3, rfl, rfl, rfl, ((b1.trans b2).trans b3).size, fun k hk hne => ?_⟩
    show (grow (putRowK ttC 2 (Sort.ahead w n) g 0 d) os).heap[k]? = w.heap[k]?
    rw [heap_grow_old _ os (by simpa [putRowK] using hk)]
    unfold putRowK putRow mapBlock
    simp only [Array.getElem?_modify]
    rw [if_neg (fun e => hne (by rw [e]))]
    rfl

set_option maxHeartbeats 1000000 in
theorem sortFunc_any (s : List Tt) (g c B : Nat) (w : World) (hs : s.length ≤ 4000000) (h : OwnTt B w (.slice (some ⟨g, 0, none⟩) s.length c) s) :
    Calls Tryz.prog 53 #[.slice (some ⟨g, 0, none⟩) s.length c, .func (.func 54) #[] #[]] w fun e w' =>
      e = .returned (.tuple #[]) ∧ (∃ t : List Tt, t.Perm s ∧ t.Pairwise (fun x y => ¬ ltT y x) ∧ SeeTt w' (some ⟨g, 0, none⟩) t) ∧ RowKit.Below g w w' ∧ w.grownBy w' (some g) := by
  have hp := hide (sorted_any s g c B w hs h)
  have hl : Hid (Calls Tryz.prog 60 #[.int .u64 (s.length : Int)] w fun e w' => e = .returned (.int .i64 (Lib.bitLen s.length : Nat)) ∧ w' = w) := by
    have h := Tryz.bits_Len (s.length : Int) w (by omega) (by omega)
    rwa [Int.toNat_natCast] at h
  have wr : IntKind.u64.wrap (s.length : Int) = s.length := by simp [IntKind.wrap, IntKind.bits, IntKind.signed]; omega
  clear h
  go_enter Tryz.func53, Tryz.ntmps53
  go_wp2_with fail
  refine (unhide hl).mono ?_
  rintro e w1 ⟨rfl, hw⟩
  subst w1
  go_wp2_with fail
  refine (unhide hp).mono ?_
  rintro e w2 ⟨rfl, ht, hb, hgr⟩
  have HT := hide ht
  clear ht
  go_wp2
  go_end0
  exact ⟨rfl, unhide HT, hb, hgr⟩
end Go.Proofs.YtihdgfihdecalaaGreatDoor
