/- Several texts in one. -/
import Derived.Deep.RegionHeld3
import Derived.Test.YtihdgfihdecalaaGreatDoorMem
import Derived.Test.YtihdgfihdecalaaGreatDoorTv
import Derived.Deep.AppendLies
import Derived.Maps.AppendAt
namespace Go.Proofs.YtihdgfihdecalaaGreatDoor
open Go
set_option linter.unusedVariables false

section
variable {P : Program} {ops : Array Oper} {Q : Exit → Act → World → Prop} {S : World → Prop}

/-- Whatever order is picked from here on; S is kept by each operation whose number is below z. -/
def wpLat2 (P : Program) (ops : Array Oper) (Q : Exit → Act → World → Prop) (S : World → Prop) (z : Nat) : Nat → Array Bool → Act → World → Prop
  | 0, listed, a, w => Region.ready .any ops listed = [] ∧ Q .normal a w
  | fuel + 1, listed, a, w => (Region.ready .any ops listed = [] → Q .normal a w) ∧
      ∀ i ∈ Region.ready .any ops listed, wpOp P ops Q i (fun a' w' => (i < z → S w → S w') ∧ wpLat2 P ops Q S z fuel (listed.setIfInBounds i true) a' w') a w

theorem any_of_lat2 {z : Nat} : ∀ (fuel : Nat) (listed : Array Bool) (a : Act) (w : World), wpLat2 P ops Q S z fuel listed a w → wpAny P .any ops Q fuel listed a w
  | 0, _, _, _, h => h
  | fuel + 1, _, _, _, h => ⟨h.1, fun i hi => wpOp_mono (fun a' w' hh => any_of_lat2 fuel _ a' w' hh.2) (h.2 i hi)⟩

/-- Those from z on that have not come up wait for number i. -/
def lat2Ok (ops : Array Oper) (listed : Array Bool) (z i : Nat) : Bool :=
  (List.range ops.size).all fun j => decide (j < z) || j == i || listed.getD j true || match ops[j]? with
    | some oj => oj.after.any fun e => Region.binds .any e && e.on == i
    | none => true
theorem lat2Ok_spec {listed : Array Bool} {z i j : Nat} {oj : Oper} (h : lat2Ok ops listed z i = true) (hj : ops[j]? = some oj) (hz : z ≤ j) (hne : j ≠ i) (hun : listed.getD j true = false) :
    ∃ e ∈ oj.after, Region.binds .any e = true ∧ e.on = i := by
  unfold lat2Ok at h
  rw [List.all_eq_true] at h
  have h1 := h j (List.mem_range.2 (Array.getElem?_eq_some_iff.1 hj).1)
  have h2 : decide (j < z) = false := by simp; omega
  have h3 : (j == i) = false := by simp [hne]
  rw [h2, h3, hun, hj] at h1
  simp only [Bool.false_or] at h1
  obtain ⟨e, he, hb⟩ := Array.any_eq_true'.1 h1
  rw [Bool.and_eq_true, beq_iff_eq] at hb
  exact ⟨e, he, hb.1, hb.2⟩

theorem getD_self2 (listed : Array Bool) (k : Nat) : (listed.setIfInBounds k true).getD k true = true := by
  by_cases h : k < listed.size <;> simp [Array.getD, h]
theorem lat2Ok_more {listed : Array Bool} {z i k : Nat} (h : lat2Ok ops listed z i = true) : lat2Ok ops (listed.setIfInBounds k true) z i = true := by
  unfold lat2Ok at *
  rw [List.all_eq_true] at *
  intro j hj
  have h1 := h j hj
  by_cases e : k = j
  · subst e
    have h2 := getD_self2 listed k
    simp only [h2, Bool.or_true, Bool.true_or]
  · rw [getD_set_ne true e]
    exact h1

/-- A ready operation does not wait for one that has not come up. -/
theorem ready_waits2 {i j : Nat} {listed : Array Bool} (hi : i ∈ Region.ready .any ops listed) (hj : j ∈ Region.ready .any ops listed) : ∃ oj, ops[j]? = some oj ∧ ∀ e ∈ oj.after, Region.binds .any e = true → e.on ≠ i := by
  obtain ⟨_, oj, hoj, hall⟩ := mem_ready.1 hj
  refine ⟨oj, hoj, fun e he hb heq => ?_⟩
  have h1 := hall e he hb
  have h0 := (mem_ready.1 hi).1
  rw [heq] at h1
  rcases Nat.lt_or_ge i listed.size with h' | h'
  · simp [Array.getD, h'] at h0 h1
    rw [h0] at h1; cases h1
  · simp [Array.getD] at h0
    obtain ⟨h2, _⟩ := h0
    omega

theorem lat2_first {z i : Nat} {oi : Oper} {v : Value} (hi : ops[i]? = some oi) (hsel : ∀ (j : Nat) (o : Oper) cs b, ops[j]? = some o → o.op ≠ .select cs b)
    (hQ : ∀ c a w, Q (.panic c) (a.put oi.dst v) w → Q (.panic c) a w) (fuel : Nat) :
    ∀ (listed : Array Bool) (a : Act) (w : World), Region.free .any ops listed i = true → lat2Ok ops listed z i = true → i ∈ Region.ready .any ops listed → YieldsIf P ops S oi v a → S w →
      wpLat2 P ops Q S z fuel (listed.setIfInBounds i true) (a.put oi.dst v) w → wpLat2 P ops Q S z (fuel + 1) listed a w := by
  induction fuel with
  | zero =>
    intro listed a w hf hl hr hy hS H
    refine ⟨fun h => (by rw [h] at hr; cases hr), fun j hj => ?_⟩
    by_cases hji : j = i
    · subst hji
      exact hy.wpOp hi hS ⟨fun _ _ => hS, H⟩
    · have := ready_mono hj hji
      rw [H.1] at this
      cases this
  | succ fuel ih =>
    intro listed a w hf hl hr hy hS H
    refine ⟨fun h => (by rw [h] at hr; cases hr), fun j hj => ?_⟩
    by_cases hji : j = i
    · subst hji
      exact hy.wpOp hi hS ⟨fun _ _ => hS, H⟩
    · obtain ⟨oj, hoj, hnot⟩ := ready_waits2 hr hj
      have hun := (mem_ready.1 hj).1
      have hjz : j < z := by
        rcases Nat.lt_or_ge j z with h | h
        · exact h
        · obtain ⟨e, he, hb, heq⟩ := lat2Ok_spec hl hoj h hji hun
          exact absurd heq (hnot e he hb)
      have hap := Region.free_spec hi hf j oj hoj hji hun hnot
      have h2 := wpOp_putIf hoj hap (fun cs b => hsel i oi cs b hi) (fun cs b => hsel j oj cs b hoj) hQ hy (H.2 j (ready_mono hj hji))
      have hf' : Region.free .any ops (listed.setIfInBounds j true) i = true := by
        unfold Region.free at hf ⊢
        rw [hi] at hf ⊢
        simp only [List.all_eq_true] at hf ⊢
        intro k hk
        have h1 := hf k hk
        by_cases e : j = k
        · subst e
          have h2 := getD_self2 listed j
          simp only [h2, Bool.or_true, Bool.true_or]
        · rw [getD_set_ne true e]
          exact h1
      refine wpOp_mono (fun a' w' h3 => ⟨h3.2.1, ?_⟩) h2
      refine ih _ a' w' hf' (lat2Ok_more hl) (ready_mono hr (Ne.symm hji)) h3.1 (h3.2.1 hjz hS) ?_
      rw [Array.setIfInBounds_comm _ _ hji]
      exact h3.2.2

/-- The beginning. -/
theorem lat2Begin {id : Nat} {a : Act} {w : World} (z : Nat) (hm : P.follows .mixedOrders = true) (hS : S w.drew)
    (h : S w.drew → wpLat2 P ops Q S z ops.size (Array.replicate ops.size false) a w.drew) : (Code.region id ops true).wp P Q a w :=
  wp_region_any hm (any_of_lat2 _ _ _ _ (h hS))
/-- An operation that yields its value in every world that meets S is taken first. -/
theorem lat2Take (i : Nat) (d : Option Tmp) (v : Value) {z : Nat} {oi : Oper} {fuel : Nat} {listed : Array Bool} {a : Act} {w : World} (hi : ops[i]? = some oi)
    (hs : Region.noSelect ops = true) (hf : Region.free .any ops listed i = true) (hl : lat2Ok ops listed z i = true) (hr : (Region.ready .any ops listed).contains i = true) (hd : oi.dst = d)
    (hQ : ∀ c a w, Q (.panic c) (a.put d v) w → Q (.panic c) a w) (hw : Region.wanted oi (yielded ops a.tmps) = true) (hS : S w)
    (hy : ∀ w, S w → (execOp a.eval oi).run P w = .ok (.value v) w)
    (h : wpLat2 P ops Q S z fuel (listed.setIfInBounds i true) (a.put d v) w) : wpLat2 P ops Q S z (fuel + 1) listed a w := by
  subst hd
  exact lat2_first hi (Region.noSelect_spec hs) hQ fuel listed a w hf hl (by simpa using hr) (Or.inl ⟨hw, hy⟩) hS h
/-- The one operation that may come up comes up; behind it S is shown anew. -/
theorem lat2Step (i : Nat) {z : Nat} {o : Oper} {fuel : Nat} {listed : Array Bool} {a : Act} {w : World} (hr : Region.ready .any ops listed = [i]) (ho : ops[i]? = some o) (hw : Region.wanted o (yielded ops a.tmps) = true)
    (h : ∀ K : Act → World → Prop, Shut (∀ a w, S w → (S w → wpLat2 P ops Q S z fuel (listed.setIfInBounds i true) a w) → K a w) → Oper.wp P o a w K Q) : wpLat2 P ops Q S z (fuel + 1) listed a w := by
  refine ⟨fun h0 => (by rw [hr] at h0; cases h0), fun j hj => ?_⟩
  rw [hr] at hj
  obtain rfl : j = i := by simpa using hj
  exact wpOp_step ho (fun K' hK => by rw [if_pos hw]; exact h K' (fun a w hS hW => hK a w ⟨fun _ _ => hS, hW hS⟩))
/-- The one operation that may come up is a late one: S need not be shown. -/
theorem lat2Last (i : Nat) {z : Nat} {o : Oper} {fuel : Nat} {listed : Array Bool} {a : Act} {w : World} (hz : z ≤ i) (hr : Region.ready .any ops listed = [i]) (ho : ops[i]? = some o) (hw : Region.wanted o (yielded ops a.tmps) = true)
    (h : ∀ K : Act → World → Prop, Shut (∀ a w, wpLat2 P ops Q S z fuel (listed.setIfInBounds i true) a w → K a w) → Oper.wp P o a w K Q) : wpLat2 P ops Q S z (fuel + 1) listed a w := by
  refine ⟨fun h0 => (by rw [hr] at h0; cases h0), fun j hj => ?_⟩
  rw [hr] at hj
  obtain rfl : j = i := by simpa using hj
  exact wpOp_step ho (fun K' hK => by rw [if_pos hw]; exact h K' (fun a w hW => hK a w ⟨fun hlt _ => by omega, hW⟩))
theorem lat2Done {z : Nat} {listed : Array Bool} {a : Act} {w : World} (hr : Region.ready .any ops listed = []) (h : Q .normal a w) : ∀ fuel, wpLat2 P ops Q S z fuel listed a w
  | 0 => ⟨hr, h⟩
  | _ + 1 => ⟨fun _ => h, by rw [hr]; simp⟩
end
end Go.Proofs.YtihdgfihdecalaaGreatDoor

namespace Go.Proofs.YtihdgfihdecalaaGreatDoor
open Go Go.RowKit
set_option linter.unusedVariables false

instance (priority := 50) HasCell.elder {w W : World} {L : List Pc} {b j : Nat} {v : Value} [M : Mem w W L] [h : HasCell w b j v] : HasCell W b j v :=
  ⟨(M.below.cell (p := ⟨b, j, none⟩) (World.block_lt_of_cell? w _ h.out)).trans h.out⟩
theorem Mem.perm {w W : World} {L K : List Pc} (M : Mem w W L) (h : L.Perm K) : Mem w W K :=
  ⟨M.below, fun p hp => M.lies p (h.mem_iff.2 hp), (h.pairwise_iff (fun {x y} hxy k hk e => hxy k e hk)).1 M.apart⟩
theorem Mem.nil {w W : World} {L : List Pc} (t : TypeId) (m : Nat) [M : Mem w W L] : Mem w W (.row none 0 0 t m [] :: L) :=
  ⟨M.below, fun p hp => by
    rcases List.mem_cons.1 hp with rfl | hp
    · exact ⟨by simp, .inl ⟨rfl, rfl⟩⟩
    · exact M.lies p hp, List.pairwise_cons.2 ⟨fun q _ k hk => (by cases hk), M.apart⟩⟩

class Rem (L : List Pc) (p : Pc) (K : outParam (List Pc)) : Prop where out : L.Perm (p :: K)
instance (priority := 2000) Rem.p0 {L : List Pc} {p : Pc} : Rem (p :: L) p (L) := ⟨List.Perm.refl _⟩
instance (priority := 1999) Rem.p1 {L : List Pc} {p : Pc} {x0 : Pc} : Rem (x0 :: p :: L) p (x0 :: L) := ⟨List.perm_middle (l₁ := [x0])⟩
instance (priority := 1998) Rem.p2 {L : List Pc} {p : Pc} {x0 x1 : Pc} : Rem (x0 :: x1 :: p :: L) p (x0 :: x1 :: L) := ⟨List.perm_middle (l₁ := [x0, x1])⟩
instance (priority := 1997) Rem.p3 {L : List Pc} {p : Pc} {x0 x1 x2 : Pc} : Rem (x0 :: x1 :: x2 :: p :: L) p (x0 :: x1 :: x2 :: L) := ⟨List.perm_middle (l₁ := [x0, x1, x2])⟩
instance (priority := 1996) Rem.p4 {L : List Pc} {p : Pc} {x0 x1 x2 x3 : Pc} : Rem (x0 :: x1 :: x2 :: x3 :: p :: L) p (x0 :: x1 :: x2 :: x3 :: L) := ⟨List.perm_middle (l₁ := [x0, x1, x2, x3])⟩
instance (priority := 1995) Rem.p5 {L : List Pc} {p : Pc} {x0 x1 x2 x3 x4 : Pc} : Rem (x0 :: x1 :: x2 :: x3 :: x4 :: p :: L) p (x0 :: x1 :: x2 :: x3 :: x4 :: L) := ⟨List.perm_middle (l₁ := [x0, x1, x2, x3, x4])⟩
instance (priority := 1994) Rem.p6 {L : List Pc} {p : Pc} {x0 x1 x2 x3 x4 x5 : Pc} : Rem (x0 :: x1 :: x2 :: x3 :: x4 :: x5 :: p :: L) p (x0 :: x1 :: x2 :: x3 :: x4 :: x5 :: L) := ⟨List.perm_middle (l₁ := [x0, x1, x2, x3, x4, x5])⟩
instance (priority := 1993) Rem.p7 {L : List Pc} {p : Pc} {x0 x1 x2 x3 x4 x5 x6 : Pc} : Rem (x0 :: x1 :: x2 :: x3 :: x4 :: x5 :: x6 :: p :: L) p (x0 :: x1 :: x2 :: x3 :: x4 :: x5 :: x6 :: L) := ⟨List.perm_middle (l₁ := [x0, x1, x2, x3, x4, x5, x6])⟩
instance (priority := 1000) Rem.tail {L K : List Pc} {p x0 x1 x2 x3 x4 x5 x6 x7 : Pc} [h : Rem L p K] : Rem (x0 :: x1 :: x2 :: x3 :: x4 :: x5 :: x6 :: x7 :: L) p (x0 :: x1 :: x2 :: x3 :: x4 :: x5 :: x6 :: x7 :: K) :=
  ⟨(List.Perm.append_left [x0, x1, x2, x3, x4, x5, x6, x7] h.out).trans (List.perm_middle (l₁ := [x0, x1, x2, x3, x4, x5, x6, x7]))⟩
/-- These pieces are among those, in whatever order. -/
class Pick (L K : List Pc) : Prop where out : ∃ R, L.Perm (K ++ R)
instance Pick.nil {L : List Pc} : Pick L [] := ⟨L, List.Perm.refl _⟩
instance (priority := 3000) Pick.refl {L : List Pc} : Pick L L := ⟨[], by simp⟩
instance Pick.cons {L K L2 : List Pc} {p : Pc} [h : Rem L p L2] [k : Pick L2 K] : Pick L (p :: K) := by
  obtain ⟨R, hR⟩ := k.out
  exact ⟨R, h.out.trans (hR.cons p)⟩
instance (priority := 100) Pick.skip {L K : List Pc} {x : Pc} [k : Pick L K] : Pick (x :: L) K := by
  obtain ⟨R, hR⟩ := k.out
  exact ⟨x :: R, (hR.cons x).trans List.perm_middle.symm⟩
theorem Mem.fin {w W : World} {L K : List Pc} [M : Mem w W L] [h : Pick L K] : Mem w W K := by
  obtain ⟨R, hR⟩ := h.out
  exact (M.perm hR).part (List.sublist_append_left _ _)
/-- A row with elements has a block. -/
theorem Mem.addr {w W : World} {L : List Pc} {a : Option Addr} {n c m : Nat} {t : TypeId} {xs : List Value} {f : Pc → List Pc} (M : Mem w W L) (p : Pc) (hp : p = .row a n c t m xs) [h : InL L p f] (hn : 0 < n) : ∃ g, a = some ⟨g, 0, none⟩ := by
  subst hp
  rcases (M.get (.row a n c t m xs)).2 with ⟨_, h0⟩ | ⟨g, _, _, e, _⟩
  · omega
  · cases e; exact ⟨g, rfl⟩
/-- The row of a block. -/
class Rw (L : List Pc) (g : Nat) (n c : outParam Nat) (t : outParam TypeId) (m : outParam Nat) (xs : outParam (List Value)) (f : outParam (Pc → List Pc)) : Prop where out : ∃ A B, L = A ++ .row (some ⟨g, 0, none⟩) n c t m xs :: B ∧ f = fun q => A ++ q :: B
instance (priority := 2000) Rw.p0 {L : List Pc} {g n c m : Nat} {t : TypeId} {xs : List Value} : Rw (.row (some ⟨g, 0, none⟩) n c t m xs :: L) g n c t m xs (fun q => q :: L) := ⟨[], L, rfl, rfl⟩
instance (priority := 1999) Rw.p1 {L : List Pc} {g n c m : Nat} {t : TypeId} {xs : List Value} {x0 : Pc} : Rw (x0 :: .row (some ⟨g, 0, none⟩) n c t m xs :: L) g n c t m xs (fun q => x0 :: q :: L) := ⟨[x0], L, rfl, rfl⟩
instance (priority := 1998) Rw.p2 {L : List Pc} {g n c m : Nat} {t : TypeId} {xs : List Value} {x0 x1 : Pc} : Rw (x0 :: x1 :: .row (some ⟨g, 0, none⟩) n c t m xs :: L) g n c t m xs (fun q => x0 :: x1 :: q :: L) := ⟨[x0, x1], L, rfl, rfl⟩
instance (priority := 1997) Rw.p3 {L : List Pc} {g n c m : Nat} {t : TypeId} {xs : List Value} {x0 x1 x2 : Pc} : Rw (x0 :: x1 :: x2 :: .row (some ⟨g, 0, none⟩) n c t m xs :: L) g n c t m xs (fun q => x0 :: x1 :: x2 :: q :: L) := ⟨[x0, x1, x2], L, rfl, rfl⟩
instance (priority := 1996) Rw.p4 {L : List Pc} {g n c m : Nat} {t : TypeId} {xs : List Value} {x0 x1 x2 x3 : Pc} : Rw (x0 :: x1 :: x2 :: x3 :: .row (some ⟨g, 0, none⟩) n c t m xs :: L) g n c t m xs (fun q => x0 :: x1 :: x2 :: x3 :: q :: L) := ⟨[x0, x1, x2, x3], L, rfl, rfl⟩
instance (priority := 1995) Rw.p5 {L : List Pc} {g n c m : Nat} {t : TypeId} {xs : List Value} {x0 x1 x2 x3 x4 : Pc} : Rw (x0 :: x1 :: x2 :: x3 :: x4 :: .row (some ⟨g, 0, none⟩) n c t m xs :: L) g n c t m xs (fun q => x0 :: x1 :: x2 :: x3 :: x4 :: q :: L) := ⟨[x0, x1, x2, x3, x4], L, rfl, rfl⟩
instance (priority := 1994) Rw.p6 {L : List Pc} {g n c m : Nat} {t : TypeId} {xs : List Value} {x0 x1 x2 x3 x4 x5 : Pc} : Rw (x0 :: x1 :: x2 :: x3 :: x4 :: x5 :: .row (some ⟨g, 0, none⟩) n c t m xs :: L) g n c t m xs (fun q => x0 :: x1 :: x2 :: x3 :: x4 :: x5 :: q :: L) := ⟨[x0, x1, x2, x3, x4, x5], L, rfl, rfl⟩
instance (priority := 1993) Rw.p7 {L : List Pc} {g n c m : Nat} {t : TypeId} {xs : List Value} {x0 x1 x2 x3 x4 x5 x6 : Pc} : Rw (x0 :: x1 :: x2 :: x3 :: x4 :: x5 :: x6 :: .row (some ⟨g, 0, none⟩) n c t m xs :: L) g n c t m xs (fun q => x0 :: x1 :: x2 :: x3 :: x4 :: x5 :: x6 :: q :: L) := ⟨[x0, x1, x2, x3, x4, x5, x6], L, rfl, rfl⟩
instance (priority := 1000) Rw.tail {L : List Pc} {g n c m : Nat} {t : TypeId} {xs : List Value} {x0 x1 x2 x3 x4 x5 x6 x7 : Pc} {f : Pc → List Pc} [h : Rw L g n c t m xs f] : Rw (x0 :: x1 :: x2 :: x3 :: x4 :: x5 :: x6 :: x7 :: L) g n c t m xs (fun q => x0 :: x1 :: x2 :: x3 :: x4 :: x5 :: x6 :: x7 :: f q) := by
  obtain ⟨A, B, rfl, rfl⟩ := h.out
  exact ⟨x0 :: x1 :: x2 :: x3 :: x4 :: x5 :: x6 :: x7 :: A, B, rfl, rfl⟩
instance (priority := 500) Rw.tail1 {L : List Pc} {g n c m : Nat} {t : TypeId} {xs : List Value} {x : Pc} {f : Pc → List Pc} [h : Rw L g n c t m xs f] : Rw (x :: L) g n c t m xs (fun q => x :: f q) := by
  obtain ⟨A, B, rfl, rfl⟩ := h.out
  exact ⟨x :: A, B, rfl, rfl⟩
theorem Rw.inl {L : List Pc} {g n c m : Nat} {t : TypeId} {xs : List Value} {f : Pc → List Pc} (h : Rw L g n c t m xs f) : InL L (.row (some ⟨g, 0, none⟩) n c t m xs) f := ⟨h.out⟩
section
variable {w W : World} {L : List Pc} {g n c m : Nat} {t : TypeId} {xs : List Value} {f : Pc → List Pc}
theorem Mem.row (g : Nat) [M : Mem w W L] [h : Rw L g n c t m xs f] : W.ownsRow w.heap.size t m (.slice (some ⟨g, 0, none⟩) n c) n xs := by
  have := h.inl
  exact M.get (.row (some ⟨g, 0, none⟩) n c t m xs)
instance Thawed.row [M : Mem w W L] [h : Rw L g n c t m xs f] : Thawed W g := ⟨fun j => World.ownsRow.frozenAt (Mem.row (W := W) g) j⟩
/-- A store into a row of one-cell elements. -/
instance (priority := 1500) Mem.setRow {k : Nat} {u : Value} [M : Mem w W L] [h : Rw L g n c t m xs f] : Mem w (W.setCell ⟨g, k, none⟩ u) (f (.row (some ⟨g, 0, none⟩) n c t m (xs.set k u))) := by
  have := h.inl
  exact M.turn (p := .row (some ⟨g, 0, none⟩) n c t m xs) (g_store (g_self W (some g)) u) (World.ownsRow.stored (Mem.row (W := W) g) k u).1 (.inl rfl)
/-- An object without cells is a row without elements. -/
theorem Mem.asRow {b : Nat} {t : TypeId} (m : Nat) [M : Mem w W L] [h : InL L (.obj b t []) f] : Mem w W (f (.row (some ⟨b, 0, none⟩) 0 0 t m [])) := by
  have hp := M.get (.obj b t [])
  exact M.turn (p := .obj b t []) (g_self W _) ⟨by simp, .inr ⟨b, 0, #[], rfl, hp.1, hp.2, by simp⟩⟩ (.inl rfl)
theorem Mem.fin1 (b1 : Nat) (t : TypeId) (m : Nat) {K : List Pc} {f1 : Pc → List Pc} [M : Mem w W L] [h1 : InL L (.obj b1 t []) f1] [k : Pick (f1 (.row (some ⟨b1, 0, none⟩) 0 0 t m [])) K] : Mem w W K := by
  have := Mem.asRow (W := W) (b := b1) (t := t) m
  exact Mem.fin
/-- What stands at a place. -/
class Elt (xs : List Value) (j : Nat) (v : outParam Value) : Prop where out : xs[j]? = some v
theorem Elt.some {xs : List Value} {j : Nat} (h : j < xs.length) : ∃ v, Elt xs j v := ⟨xs[j], ⟨List.getElem?_eq_getElem h⟩⟩
class NeN (i j : Nat) : Prop where out : i ≠ j
instance Elt.set {xs : List Value} {i j : Nat} {u v : Value} [h : NeN i j] [e : Elt xs j v] : Elt (xs.set i u) j v := ⟨by rw [List.getElem?_set_ne h.out]; exact e.out⟩
instance NeN.s1 {x : Nat} : NeN x (x + 1) := ⟨by omega⟩
instance NeN.s2 {x : Nat} : NeN x (x + 2) := ⟨by omega⟩
instance NeN.s3 {x : Nat} : NeN x (x + 3) := ⟨by omega⟩
instance NeN.s12 {x : Nat} : NeN (x + 1) (x + 2) := ⟨by omega⟩
instance NeN.s13 {x : Nat} : NeN (x + 1) (x + 3) := ⟨by omega⟩
instance NeN.s23 {x : Nat} : NeN (x + 2) (x + 3) := ⟨by omega⟩
instance (priority := 60) HasCell.row {j : Nat} {v : Value} [M : Mem w W L] [h : Rw L g n c t m xs f] [e : Elt xs j v] : HasCell W g j v := by
  refine ⟨?_⟩
  have hr := Mem.row (W := W) g
  have hj : j < xs.length := (List.getElem?_eq_some_iff.1 e.out).1
  rw [World.ownsRow.cellAt hr j (by rw [← hr.1]; exact hj), e.out]
end
section
variable {P : Program} {ops : Array Oper} {Q : Exit → Act → World → Prop} {w0 : World} {L : List Pc}
/-- The beginning of a region: what is known is kept by all operations below z; those from z on wait for the others. -/
theorem mb {id : Nat} {a : Act} {W : World} (z : Nat) [M : Mem w0 W L] (h : Mem w0 W.drew L → wpLat2 P ops Q (fun w' => Mem w0 w' L) z ops.size (Array.replicate ops.size false) a W.drew) (hm : P.follows .mixedOrders = true := by kernel_rfl) : (Code.region id ops true).wp P Q a W :=
  lat2Begin (S := fun w' => Mem w0 w' L) z hm (show Mem w0 W.drew L from inferInstance) h
class ObjL (K : List Pc) (L : outParam (List Pc)) : Prop where out : L.Sublist K
instance ObjL.nil : ObjL [] [] := ⟨List.Sublist.slnil⟩
instance ObjL.obj {b : Nat} {t : TypeId} {vs : List Value} {K L : List Pc} [h : ObjL K L] : ObjL (.obj b t vs :: K) (.obj b t vs :: L) := ⟨h.out.cons_cons _⟩
instance ObjL.row {a : Option Addr} {n c m : Nat} {t : TypeId} {xs : List Value} {K L : List Pc} [h : ObjL K L] : ObjL (.row a n c t m xs :: K) L := ⟨h.out.cons _⟩
/-- An operation that yields its value. -/
theorem tm (i : Nat) (d : Tmp) {K : List Pc} {v : Value} {z : Nat} {oi : Oper} {fuel : Nat} {listed : Array Bool} {a a2 : Act} {w : World} [M : Mem w0 w K] [hk : SubL L K]
    (h : wpLat2 P ops Q (fun w' => Mem w0 w' L) z fuel (listed.setIfInBounds i true) a2 w) (hi : ops[i]? = some oi := by exact rfl) (hd : oi.dst = some d := by exact rfl)
    (hs : Region.noSelect ops = true := by kernel_rfl) (hf : Region.free .any ops listed i = true := by kernel_rfl) (hl : lat2Ok ops listed z i = true := by kernel_rfl) (hr : (Region.ready .any ops listed).contains i = true := by kernel_rfl)
    (hw : Region.wanted oi (yielded ops a.tmps) = true := by rfl)
    (hy : ∀ w, Mem w0 w L → (execOp a.eval oi).run P w = .ok (.value v) w := by (intro w hM; refine Eq.trans (b := ?_) ?_ ?_; rotate_left; (go_simp <;> with_reducible rfl); with_reducible rfl))
    (he : a.put (some d) v = a2 := by (simp only [Act.put, p1, p2, p3]; (try with_reducible rfl)))
    (hQ : ∀ c a w, Q (.panic c) (a.put (some d) v) w → Q (.panic c) a w := by exact fun _ _ _ h => h) : wpLat2 P ops Q (fun w' => Mem w0 w' L) z (fuel + 1) listed a w :=
  lat2Take i (some d) v hi hs hf hl hr hd hQ hw (M.part hk.out) hy (he ▸ h)
/-- A call that is the one operation to come up. -/
theorem tc (i : Nat) (d : Tmp) {z : Nat} {oi : Oper} {fuel : Nat} {listed : Array Bool} {a : Act} {w : World} {f : FuncId} {args : Array Value} {R : Ending → World → Prop} (C : Calls P f args w R)
    (h : ∀ e w', R e w' → ∃ u, e = .returned u ∧ Mem w0 w' L ∧ ∀ a2, a.put (some d) u = a2 → wpLat2 P ops Q (fun w' => Mem w0 w' L) z fuel (listed.setIfInBounds i true) a2 w')
    (hr : Region.ready .any ops listed = [i] := by kernel_rfl) (hi : ops[i]? = some oi := by exact rfl) (hd : oi.dst = some d := by exact rfl) (hw : Region.wanted oi (yielded ops a.tmps) = true := by rfl)
    (he : (execOp a.eval oi).run P w = .ok (.enter f args) w := by (refine Eq.trans (b := ?_) ?_ ?_; rotate_left; (go_simp <;> with_reducible rfl); first | with_reducible rfl | rfl)) : wpLat2 P ops Q (fun w' => Mem w0 w' L) z (fuel + 1) listed a w := by
  refine lat2Step i hr hi hw fun K hK => ?_
  unfold Oper.wp
  rw [he, Oper.upon_enter]
  refine Calls.mono C fun e w' hR => ?_
  obtain ⟨u, rfl, hM, hw'⟩ := h e w' hR
  rw [hd]
  exact hK.out _ _ hM fun _ => hw' _ rfl
theorem tce {z fuel : Nat} {listed : Array Bool} {a a2 : Act} {d : Tmp} {u : Value} {w : World} {K : List Pc} [M : Mem w0 w K] [hk : SubL L K] (h : wpLat2 P ops Q (fun w' => Mem w0 w' L) z fuel listed a2 w)
    (he : a.put (some d) u = a2 := by (simp only [Act.put, p1, p2, p3]; (try with_reducible rfl))) : ∃ u', Ending.returned u = .returned u' ∧ Mem w0 w L ∧ ∀ a2, a.put (some d) u' = a2 → wpLat2 P ops Q (fun w' => Mem w0 w' L) z fuel listed a2 w :=
  ⟨u, rfl, M.part hk.out, fun a3 h3 => by rw [← h3, he]; exact h⟩
/-- Another operation that is the one to come up: it changes the world. -/
theorem to_ (i : Nat) {z : Nat} {oi : Oper} {fuel : Nat} {listed : Array Bool} {a : Act} {w : World}
    (h : ∀ K : Act → World → Prop, Shut (∀ a w', Mem w0 w' L → wpLat2 P ops Q (fun w' => Mem w0 w' L) z fuel (listed.setIfInBounds i true) a w' → K a w') → Oper.wp P oi a w K Q)
    (hr : Region.ready .any ops listed = [i] := by kernel_rfl) (hi : ops[i]? = some oi := by exact rfl) (hw : Region.wanted oi (yielded ops a.tmps) = true := by rfl) : wpLat2 P ops Q (fun w' => Mem w0 w' L) z (fuel + 1) listed a w :=
  lat2Step i hr hi hw fun K hK => h K fun a w' hM h2 => hK.out _ _ hM fun _ => h2
/-- A late operation. -/
theorem tl (i : Nat) {z : Nat} {oi : Oper} {fuel : Nat} {listed : Array Bool} {a : Act} {w : World}
    (h : ∀ K : Act → World → Prop, Shut (∀ a w', wpLat2 P ops Q (fun w' => Mem w0 w' L) z fuel (listed.setIfInBounds i true) a w' → K a w') → Oper.wp P oi a w K Q)
    (hz : z ≤ i := by decide) (hr : Region.ready .any ops listed = [i] := by kernel_rfl) (hi : ops[i]? = some oi := by exact rfl) (hw : Region.wanted oi (yielded ops a.tmps) = true := by rfl) : wpLat2 P ops Q (fun w' => Mem w0 w' L) z (fuel + 1) listed a w :=
  lat2Last i hz hr hi hw h
theorem td {z fuel : Nat} {listed : Array Bool} {a : Act} {w : World} (h : Q .normal a w) (hr : Region.ready .any ops listed = [] := by kernel_rfl) : wpLat2 P ops Q (fun w' => Mem w0 w' L) z fuel listed a w := lat2Done hr h fuel
end

/-! ### append -/
/-- What the program knows of a slice's type: its element, how many cells and bytes it has. -/
class Elem (P : Program) (t : TypeId) (e : outParam TypeId) (size bytes : outParam Nat) : Prop where
  out : P.underlying t = some (.slice e) ∧ ∃ i z, P.info? e = some i ∧ i.zero = some z ∧ i.size = size ∧ i.bytes = bytes ∧ z.cells.size = size ∧ 0 < size
/-- append of one element that was made just now, to a row of one's own, within a region. -/
theorem mem_append {P : Program} {o : Oper} {a : Act} {K : Act → World → Prop} {Q : Exit → Act → World → Prop} {w w0 : World} {L : List Pc} (s x : Operand) (t : TypeId) (xs : List Value) (b : Nat) (news : List Value) {c1 : Nat}
    {e : TypeId} {size bytes n c : Nat} {av : Option Addr} {f g2 : Pc → List Pc} [E : Elem P t e size bytes] [M : Mem w0 w L] [hin : InL L (.row av n c e size xs) f] [hob : Ob L b e news g2]
    (ho : o.op = .call { callee := .builtin .append, args := #[s, x], argTypes := #[t, t] }) (hs : a.eval s = .slice av n c) (hx : a.eval x = .slice (some ⟨b, 0, none⟩) 1 c1)
    (h1 : ∀ u ∈ news, u.oneCell' = true) (hl : news.length = size) (hn : n < 4000000) (hbytes : bytes ≤ 1000)
    (h : ∀ g cap w', Mem w0 w' (f (.row (some ⟨g, 0, none⟩) (n + 1) cap e size (xs ++ news))) → K (a.put o.dst (.slice (some ⟨g, 0, none⟩) (n + 1) cap)) w') : o.wp P a w K Q := by
  obtain ⟨hu, i, z, hi, hz, h2, h3, h4, h5⟩ := E.out
  have hown : w.ownsRow w0.heap.size e size (.slice av n c) n xs := M.get (.row av n c e size xs)
  have hO := (M.lies _ hob.out).2
  refine wp_append_lies w s x t ho w0.heap.size e i z size bytes hu hi hz h2 h3 h4 h5 _ n xs hs hown ⟨b, 0, none⟩ 1 c1 news hx (by rw [hl, Nat.one_mul]) (fun j u hj => ?_) h1 (by decide) (by unfold maxLen; omega) ?_ M.size w.heap.size rfl fun g cap w' ho' hg hb hlt => ?_
  · rw [Addr.add_lit, Nat.zero_add]
    exact hO.cell j hj
  · have : (n + 1) * bytes ≤ 4000000 * 1000 := Nat.mul_le_mul (by omega) hbytes
    omega
  · refine h g cap w' (M.turn (p := .row av n c e size xs) hg ho' ?_)
    rcases hb with hb | rfl
    · exact .inl hb.symm
    · exact .inr rfl
theorem mem_append_l {P : Program} {ops : Array Oper} {rest : List Oper} {o : Oper} {a : Act} {Q : Exit → Act → World → Prop} {w w0 : World} {L : List Pc} (hgd : o.guard = none) (s x : Operand) (t : TypeId) (xs : List Value) (b : Nat) (news : List Value) {c1 : Nat}
    {e : TypeId} {size bytes n c : Nat} {av : Option Addr} {f g2 : Pc → List Pc} [E : Elem P t e size bytes] [M : Mem w0 w L] [hin : InL L (.row av n c e size xs) f] [hob : Ob L b e news g2]
    (ho : o.op = .call { callee := .builtin .append, args := #[s, x], argTypes := #[t, t] }) (hs : a.eval s = .slice av n c) (hx : a.eval x = .slice (some ⟨b, 0, none⟩) 1 c1)
    (h1 : ∀ u ∈ news, u.oneCell' = true) (hl : news.length = size) (hn : n < 4000000) (hbytes : bytes ≤ 1000)
    (h : ∀ g cap w', Mem w0 w' (f (.row (some ⟨g, 0, none⟩) (n + 1) cap e size (xs ++ news))) → wpList P ops Q rest (a.put o.dst (.slice (some ⟨g, 0, none⟩) (n + 1) cap)) w') : wpList P ops Q (o :: rest) a w :=
  wpList_plain hgd fun _ hK => mem_append s x t xs b news ho hs hx h1 hl hn hbytes fun g cap w' hM => hK _ _ (h g cap w' hM)
theorem Mem.now {w W : World} {L : List Pc} [M : Mem w W L] : Mem w W L := M
end Go.Proofs.YtihdgfihdecalaaGreatDoor

namespace Go.Proofs.YtihdgfihdecalaaGreatDoor
open Go Go.RowKit
set_option linter.unusedVariables false
variable {P : Program} {ops : Array Oper} {Q : Exit → Act → World → Prop} {w0 : World} {L : List Pc}
theorem tt (i j : Nat) {z : Nat} {oi oj : Oper} {fuel : Nat} {listed : Array Bool} {a : Act} {w : World}
    (h1 : ∀ K : Act → World → Prop, Shut (∀ a w', Mem w0 w' L → wpLat2 P ops Q (fun w' => Mem w0 w' L) z fuel (listed.setIfInBounds i true) a w' → K a w') → Oper.wp P oi a w K Q)
    (h2 : ∀ K : Act → World → Prop, Shut (∀ a w', Mem w0 w' L → wpLat2 P ops Q (fun w' => Mem w0 w' L) z fuel (listed.setIfInBounds j true) a w' → K a w') → Oper.wp P oj a w K Q)
    (hr : Region.ready .any ops listed = [i, j] := by kernel_rfl) (hi : ops[i]? = some oi := by exact rfl) (hj : ops[j]? = some oj := by exact rfl) (hwi : Region.wanted oi (yielded ops a.tmps) = true := by rfl) (hwj : Region.wanted oj (yielded ops a.tmps) = true := by rfl) : wpLat2 P ops Q (fun w' => Mem w0 w' L) z (fuel + 1) listed a w := by
  refine ⟨fun h0 => (by rw [hr] at h0; cases h0), fun q hq => ?_⟩
  rw [hr] at hq
  rcases List.mem_cons.1 hq with rfl | hq
  · refine wpOp_step hi fun K' hK => ?_
    rw [if_pos hwi]
    exact h1 K' fun a w' hM hw => hK a w' ⟨fun _ _ => hM, hw⟩
  · obtain rfl := List.mem_singleton.1 hq
    refine wpOp_step hj fun K' hK => ?_
    rw [if_pos hwj]
    exact h2 K' fun a w' hM hw => hK a w' ⟨fun _ _ => hM, hw⟩
end Go.Proofs.YtihdgfihdecalaaGreatDoor

namespace Go.Proofs.YtihdgfihdecalaaGreatDoor
open Go.RowKit
set_option linter.unusedVariables false
set_option linter.unusedSimpArgs false
end Go.Proofs.YtihdgfihdecalaaGreatDoor
