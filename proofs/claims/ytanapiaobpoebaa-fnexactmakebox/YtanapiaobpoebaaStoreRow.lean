/- Rows of boxes: of one's own, and such as came in; what the laws' own helpers do to them. Made by gen_storerow.py. -/
import Derived.Test.YtanapiaobpoebaaBoxA
import Derived.Test.YtanapiaobpoebaaRowsA
import Derived.Test.YtanapiaobpoebaaIntRow
namespace Go.Proofs.Ytanapiaobpoebaa
open Go.RowKit Go.ChangeShapes Go.WideShapes Go.ChangeAt Go.Deep
open Plain
set_option linter.unusedVariables false
set_option linter.unusedSimpArgs false

namespace Plain
/-- A box with the values of its rows. -/
structure Lb where
 b : Bx
 m : Value
 t : Value
def lbC (x : Lb) : List Value := [.string x.b.name, .int .i64 x.b.valid, .int .i64 x.b.next, .int .i64 x.b.mod, x.m, x.t, .int .i64 x.b.hor]
theorem lbC_len : ∀ x, (lbC x).length = 7 := fun _ => rfl
def bx0 : Bx := ⟨ByteArray.empty, 0, 0, 0, [], [], 0⟩
def lb0 : Lb := ⟨bx0, .slice none 0 0, .slice none 0 0⟩
/-- How many elements there are in all. -/
def sizeBs (l : List Bx) : Nat := (l.map fun b => 1 + b.mails.length + b.tombs.length).sum
theorem sizeBs_snoc (l : List Bx) (b : Bx) : sizeBs (l ++ [b]) = sizeBs l + (1 + b.mails.length + b.tombs.length) := by simp [sizeBs]
theorem sizeBs_len (l : List Bx) : l.length ≤ sizeBs l := by
 induction l with
 | nil => exact Nat.le_refl _
 | cons b l ih => simp only [sizeBs, List.map_cons, List.sum_cons, List.length_cons] at *; omega
theorem sizeBs_take {l : List Bx} {k : Nat} {b : Bx} (h : l[k]? = some b) : sizeBs (l.take (k + 1)) = sizeBs (l.take k) + (1 + b.mails.length + b.tombs.length) := by rw [List.take_add_one, h]; exact sizeBs_snoc _ _
structure SmallBs (L : Nat) (l : List Bx) : Prop where
 sum : sizeBs l ≤ L
 each : ∀ b ∈ l, SmallBx L b
/-- Two boxes have no row in common. -/
def ApartB (x y : Lb) : Prop := (∀ g, x.m.ownBlock = some g → y.m.ownBlock ≠ some g) ∧ (∀ g, x.t.ownBlock = some g → y.t.ownBlock ≠ some g)
theorem ApartB.symm {x y : Lb} (h : ApartB x y) : ApartB y x := ⟨fun g h1 h2 => h.1 g h2 h1, fun g h1 h2 => h.2 g h2 h1⟩
/-- A store. -/
structure Sx where
 boxes : List Bx
 valid : Int
end Plain
theorem Try.infoBox : (Try.prog.info? 42).map (fun i => (i.zero, i.size, i.bytes)) = some (some (.agg #[.string ByteArray.empty, .int .i64 0, .int .i64 0, .int .i64 0, .slice none 0 0, .slice none 0 0, .int .i64 0]), 7, 96) := by kernel_rfl
def OwnBr (B : Nat) (w : World) (v : Value) (l : List Lb) : Prop := w.ownsRow B 42 7 v l.length (rowC lbC l)
theorem OwnBr.up {B : Nat} {w w' : World} {v : Value} {l : List Lb} (h : OwnBr B w v l) (hb : Below w.heap.size w w') : OwnBr B w' v l := g_stays h hb
theorem OwnBr.based {B B' : Nat} {w : World} {v : Value} {l : List Lb} (h : OwnBr B w v l) (hB : B' ≤ B) : OwnBr B' w v l := g_based h hB
theorem OwnBr.drew {B : Nat} {w : World} {v : Value} {l : List Lb} (h : OwnBr B w v l) : OwnBr B w.drew v l := h
theorem OwnBr.snoc {B : Nat} {w : World} {v : Value} {l : List Lb} {x : Lb} (h : w.ownsRow B 42 7 v (l.length + 1) (rowC lbC l ++ lbC x)) : OwnBr B w v (l ++ [x]) := by
 unfold OwnBr
 rw [rowC_snoc, List.length_append]
 exact h
theorem br_cells {w : World} {B g n cap : Nat} {l : List Lb} (h : w.ownsRow B 42 7 (.slice (some ⟨g, 0, none⟩) n cap) n (rowC lbC l)) {k : Nat} {x : Lb} (hx : l[k]? = some x) (hk : k < n) :
  w.cell? ⟨g, k * 7, none⟩ = some (.string x.b.name) ∧ w.cell? ⟨g, k * 7 + 1, none⟩ = some (.int .i64 x.b.valid) ∧ w.cell? ⟨g, k * 7 + 2, none⟩ = some (.int .i64 x.b.next) ∧ w.cell? ⟨g, k * 7 + 3, none⟩ = some (.int .i64 x.b.mod) ∧ w.cell? ⟨g, k * 7 + 4, none⟩ = some (x.m) ∧ w.cell? ⟨g, k * 7 + 5, none⟩ = some (x.t) ∧ w.cell? ⟨g, k * 7 + 6, none⟩ = some (.int .i64 x.b.hor) := by
 refine ⟨?_, ?_, ?_, ?_, ?_, ?_, ?_⟩
 ·rw [h.cellAt _ (by omega)]; exact rowC_get lbC_len hx (j := 0) (by decide)
 ·rw [h.cellAt _ (by omega)]; exact rowC_get lbC_len hx (j := 1) (by decide)
 ·rw [h.cellAt _ (by omega)]; exact rowC_get lbC_len hx (j := 2) (by decide)
 ·rw [h.cellAt _ (by omega)]; exact rowC_get lbC_len hx (j := 3) (by decide)
 ·rw [h.cellAt _ (by omega)]; exact rowC_get lbC_len hx (j := 4) (by decide)
 ·rw [h.cellAt _ (by omega)]; exact rowC_get lbC_len hx (j := 5) (by decide)
 ·rw [h.cellAt _ (by omega)]; exact rowC_get lbC_len hx (j := 6) (by decide)
theorem br_read {B : Nat} {w : World} {v : Value} {l : List Lb} (h : OwnBr B w v l) {k : Nat} {x : Lb} (hx : l[k]? = some x) :
  ∃ g c, v = .slice (some ⟨g, 0, none⟩) l.length c ∧ B ≤ g ∧ g < w.heap.size ∧ w.cell? ⟨g, k * 7, none⟩ = some (.string x.b.name) ∧ w.cell? ⟨g, k * 7 + 1, none⟩ = some (.int .i64 x.b.valid) ∧ w.cell? ⟨g, k * 7 + 2, none⟩ = some (.int .i64 x.b.next) ∧ w.cell? ⟨g, k * 7 + 3, none⟩ = some (.int .i64 x.b.mod) ∧ w.cell? ⟨g, k * 7 + 4, none⟩ = some (x.m) ∧ w.cell? ⟨g, k * 7 + 5, none⟩ = some (x.t) ∧ w.cell? ⟨g, k * 7 + 6, none⟩ = some (.int .i64 x.b.hor) := by
 have hk : k < l.length := (List.getElem?_eq_some_iff.1 hx).1
 unfold OwnBr at h
 rcases h.2 with ⟨_, h0⟩ | ⟨g, c, cur, rfl, _, hh, _⟩
 ·omega
 ·exact ⟨g, c, rfl, (h.lt _ rfl).1, (h.lt _ rfl).2, br_cells h hx hk⟩
/-- Each box's rows are one's own. -/
def EachB (B : Nat) (w : World) (l : List Lb) : Prop := ∀ x ∈ l, OwnBx B w x.m x.t x.b
theorem EachB.up {B : Nat} {w w' : World} {l : List Lb} (h : EachB B w l) (hb : Below w.heap.size w w') : EachB B w' l := fun x hx => (h x hx).up hb
theorem EachB.drew {B : Nat} {w : World} {l : List Lb} (h : EachB B w l) : EachB B w.drew l := fun x hx => ⟨(h x hx).1, (h x hx).2⟩
theorem EachB.based {B B' : Nat} {w : World} {l : List Lb} (h : EachB B w l) (hB : B' ≤ B) : EachB B' w l := fun x hx => (h x hx).based hB
theorem EachB.nil (B : Nat) (w : World) : EachB B w [] := fun x hx => by cases hx
theorem EachB.snoc {B : Nat} {w : World} {l : List Lb} {x : Lb} (h : EachB B w l) (hx : OwnBx B w x.m x.t x.b) : EachB B w (l ++ [x]) := fun y hy => by
 rcases List.mem_append.1 hy with hy | hy
 ·exact h y hy
 ·simp at hy; subst hy; exact hx
theorem EachB.sub {B : Nat} {w : World} {l l' : List Lb} (h : EachB B w l) (hs : ∀ x ∈ l', x ∈ l) : EachB B w l' := fun x hx => h x (hs x hx)
/-- A store into an object that is neither a mail nor a tomb. -/
theorem EachB.set {B : Nat} {W : World} {l : List Lb} {b j : Nat} {t : TypeId} {vs : List Value} (h : EachB B W l) (ho : HasObj W b t vs) (h1 : t ≠ 76) (h2 : t ≠ 79) (u : Value) : EachB B (W.setCell ⟨b, j, none⟩ u) l :=
 fun x hx => ⟨ho.row h1 (h x hx).1 u, ho.row h2 (h x hx).2 u⟩
/-- A growth of a row of neither mails nor tombs. -/
theorem EachB.aside {B B2 n size : Nat} {W W' : World} {l : List Lb} {e : TypeId} {v : Value} {xs : List Value} (h : EachB B W l) (hr : W.ownsRow B2 e size v n xs) (hg : W.grownBy W' v.ownBlock) (h1 : e ≠ 76) (h2 : e ≠ 79) : EachB B W' l :=
 fun x hx => ⟨g_aside (h x hx).1 hg (fun k hk => rows_apart hr (h x hx).1 h1 k hk), g_aside (h x hx).2 hg (fun k hk => rows_apart hr (h x hx).2 h2 k hk)⟩
theorem EachB.kept {B : Nat} {W W' : World} {l : List Lb} {b : Nat} {t : TypeId} {vs : List Value} (h : EachB B W l) (ho : HasObj W b t vs) (hg : W.grownBy W' (some b)) (h1 : t ≠ 76) (h2 : t ≠ 79) : EachB B W' l :=
 fun x hx => ⟨g_aside (h x hx).1 hg (fun k hk e => by cases hk; exact ho.not_row h1 (h x hx).1 e), g_aside (h x hx).2 hg (fun k hk e => by cases hk; exact ho.not_row h2 (h x hx).2 e)⟩
/-- A row of boxes of one's own. -/
structure OwnBs (B : Nat) (w : World) (v : Value) (l : List Lb) : Prop where
 row : OwnBr B w v l
 each : EachB B w l
theorem OwnBs.up {B : Nat} {w w' : World} {v : Value} {l : List Lb} (h : OwnBs B w v l) (hb : Below w.heap.size w w') : OwnBs B w' v l := ⟨h.row.up hb, h.each.up hb⟩
theorem OwnBs.based {B B' : Nat} {w : World} {v : Value} {l : List Lb} (h : OwnBs B w v l) (hB : B' ≤ B) : OwnBs B' w v l := ⟨h.row.based hB, h.each.based hB⟩
theorem OwnBs.drew {B : Nat} {w : World} {v : Value} {l : List Lb} (h : OwnBs B w v l) : OwnBs B w.drew v l := ⟨h.row.drew, h.each.drew⟩
theorem OwnBs.but {B : Nat} {w w' : World} {S : Nat → Prop} {v : Value} {l : List Lb} (h : OwnBs B w v l) (hg : GrownBut w w' S) (h1 : ∀ g, v.ownBlock = some g → ¬ S g) (h2 : ∀ x ∈ l, ∀ g, (x.m.ownBlock = some g ∨ x.t.ownBlock = some g) → ¬ S g) : OwnBs B w' v l :=
 ⟨hg.row h.row h1, fun x hx => (h.each x hx).but hg (h2 x hx)⟩
/-- The blocks of a row of boxes. -/
def BlkBs (v : Value) (l : List Lb) (g : Nat) : Prop := v.ownBlock = some g ∨ ∃ x ∈ l, x.m.ownBlock = some g ∨ x.t.ownBlock = some g
theorem OwnBs.base {B : Nat} {w : World} {v : Value} {l : List Lb} (h : OwnBs B w v l) : ∀ g, BlkBs v l g → B ≤ g ∧ g < w.heap.size := by
 rintro g (hg | ⟨x, hx, hg⟩)
 ·exact World.ownsRow.lt h.row g hg
 ·exact (h.each x hx).base g hg
theorem OwnBs.butB {B : Nat} {w w' : World} {S : Nat → Prop} {v : Value} {l : List Lb} (h : OwnBs B w v l) (hg : GrownBut w w' S) (hS : ∀ g, BlkBs v l g → ¬ S g) : OwnBs B w' v l :=
 h.but hg (fun g hh => hS g (.inl hh)) (fun x hx g hh => hS g (.inr ⟨x, hx, hh⟩))
/-- Boxes that came in, below block B. -/
def ArgBs (B : Nat) (w : World) (a : Option Addr) (l : List Bx) : Prop :=
 ∀ i b, l[i]? = some b → ∃ x a1 a2 c1 c2, a = some x ∧ x.block < B ∧ ArgBx B w a1 a2 b ∧ w.cell? (x.add (i * 7)) = some (.string b.name) ∧ w.cell? ⟨(x.add (i * 7)).block, (x.add (i * 7)).off + 1, none⟩ = some (.int .i64 b.valid) ∧ w.cell? ⟨(x.add (i * 7)).block, (x.add (i * 7)).off + 2, none⟩ = some (.int .i64 b.next) ∧ w.cell? ⟨(x.add (i * 7)).block, (x.add (i * 7)).off + 3, none⟩ = some (.int .i64 b.mod) ∧ w.cell? ⟨(x.add (i * 7)).block, (x.add (i * 7)).off + 4, none⟩ = some (.slice a1 b.mails.length c1) ∧ w.cell? ⟨(x.add (i * 7)).block, (x.add (i * 7)).off + 5, none⟩ = some (.slice a2 b.tombs.length c2) ∧ w.cell? ⟨(x.add (i * 7)).block, (x.add (i * 7)).off + 6, none⟩ = some (.int .i64 b.hor)
theorem ArgBs.below {B : Nat} {w w' : World} {a : Option Addr} {l : List Bx} (h : ArgBs B w a l) (hb : Below B w w') : ArgBs B w' a l := by
 intro i f hf
 obtain ⟨x, a1, a2, c1, c2, h1, h2, h3, k0, k1, k2, k3, k4, k5, k6⟩ := h i f hf
 have hb2 : (x.add (i * 7)).block < B := by rw [g_add]; exact h2
 exact ⟨x, a1, a2, c1, c2, h1, h2, h3.below hb, (hb.cell hb2).trans k0, (hb.cell (p := ⟨(x.add (i * 7)).block, _, none⟩) hb2).trans k1, (hb.cell (p := ⟨(x.add (i * 7)).block, _, none⟩) hb2).trans k2, (hb.cell (p := ⟨(x.add (i * 7)).block, _, none⟩) hb2).trans k3, (hb.cell (p := ⟨(x.add (i * 7)).block, _, none⟩) hb2).trans k4, (hb.cell (p := ⟨(x.add (i * 7)).block, _, none⟩) hb2).trans k5, (hb.cell (p := ⟨(x.add (i * 7)).block, _, none⟩) hb2).trans k6⟩
theorem ArgBs.up {w w' : World} {a : Option Addr} {l : List Bx} (h : ArgBs w.heap.size w a l) (hb : Below w.heap.size w w') : ArgBs w'.heap.size w' a l := by
 intro i f hf
 obtain ⟨x, a1, a2, c1, c2, h1, h2, h3, hr⟩ := h i f hf
 obtain ⟨x2, b1, b2, d1, d2, h12, h22, h32, hr2⟩ := h.below hb i f hf
 exact ⟨x2, b1, b2, d1, d2, h12, Nat.lt_of_lt_of_le h22 hb.size, ⟨h32.name, h32.m1, h32.m2, fun i f hf => by obtain ⟨x, p1, p2, p3⟩ := h32.mails i f hf; exact ⟨x, p1, Nat.lt_of_lt_of_le p2 hb.size, p3⟩, fun i f hf => by obtain ⟨x, p1, p2, p3⟩ := h32.tombs i f hf; exact ⟨x, p1, Nat.lt_of_lt_of_le p2 hb.size, p3⟩⟩, hr2⟩
set_option maxHeartbeats 1000000 in
theorem szMailS_sum (a : Option Addr) (cap L : Nat) (l : List Ml) (w : World) (hL : L ≤ 1048576) (hm : l.length ≤ maxLen) (h : ArgMl w.heap.size w a l) :
  Calls Try.prog 44 #[.slice a l.length cap, .int .i64 (L : Int)] w fun e w' =>
   (∃ m : Int, e = .returned (.int .i64 m) ∧ (m = -1 ∨ ∃ q : Nat, m = (q : Int) ∧ q + l.length ≤ L ∧ SmallMl L l)) ∧ Below w.heap.size w w' := by
 unfold maxLen at hm
 obtain ⟨len, hl⟩ : ∃ len, len = l.length := ⟨_, rfl⟩
 rw [← hl] at hm ⊢
 have HL := hide hl; clear hl
 by_cases hs : len ≤ L
 ·have HA := hide h
  have hs' : (len : Int) ≤ (L : Int) := by omega
  clear h
  go_enter Try.func44, Try.ntmps44
  go_wp2
  go_loopw [1, 5] (fun m i wr => ∃ k q : Nat, k ≤ len ∧ q + len ≤ L ∧ i = .int .i64 k ∧ m = .int .i64 q ∧ (∀ f ∈ l.take k, f.text.size ≤ L) ∧ Below w.heap.size w wr) (fun _ i _ => len - (intOf i).toNat)
  case atStart => exact ⟨0, L - len, Nat.zero_le _, by omega, rfl, by go_num, by simp, Below.refl _ _⟩
  case round =>
   obtain ⟨k, q, hk, hq, rfl, rfl, hall, hbel⟩ := hrel
   by_cases hlt : k < len
   ·have hkl : k < l.length := by have := uh HL; omega
    obtain ⟨x, rfl, hxb, hz, c0, c1, c2, c3⟩ := (uh HA).below hbel k l[k] (List.getElem?_eq_getElem hkl)
    have hsnoc := hide (show l.take (k + 1) = l.take k ++ [l[k]] from List.take_succ_eq_append_getElem hkl); have HC := hide hall; clear hall
    generalize l[k] = f at *
    have HZ := hide (fun wx => szMail_any f.uid f.flags f.mod f.text q wx (by omega) hz)
    clear hz; go_wp2_with fail
    refine (uh HZ _).mono ?_
    rintro e w1 ⟨⟨m, rfl, hmm⟩, hb1⟩
    rcases hmm with rfl | ⟨q1, rfl, hq1, hq2⟩
    ·go_wp2
     go_ret
     exact ⟨⟨_, rfl, .inl rfl⟩, below2 hbel hb1⟩
    ·go_wp2
     go_roundw
     case rel =>
      refine ⟨k + 1, q1, by omega, by omega, by go_num, rfl, ?_, below2 hbel hb1⟩
      rw [uh hsnoc]
      intro f' hf'
      rcases List.mem_append.1 hf' with h1 | h1
      ·exact uh HC f' h1
      ·simp at h1; subst h1; omega
     case measure => simp [intOf]; omega
   ·have e : k = len := by omega
    subst e
    rw [List.take_of_length_le (by have := uh HL; omega)] at hall
    have HC := hide hall; clear hall
    go_wp2
    go_ret
    exact ⟨⟨_, rfl, .inr ⟨q, rfl, by have := uh HL; omega, by have := uh HL; unfold SmallMl; exact ⟨by omega, uh HC⟩⟩⟩, hbel⟩
 ·have hs' : (L : Int) < (len : Int) := by omega
  go_enter Try.func44, Try.ntmps44
  go_wp2
  go_ret
  exact ⟨⟨_, rfl, .inl rfl⟩, Below.refl _ _⟩

theorem szTombS_sum (a : Option Addr) (cap n L : Nat) (w : World) (hL : L ≤ 1048576) (hm : n ≤ maxLen) :
  Calls Try.prog 45 #[.slice a n cap, .int .i64 (L : Int)] w fun e w' => (∃ m : Int, e = .returned (.int .i64 m) ∧ (m = -1 ∨ ∃ q : Nat, m = (q : Int) ∧ q + n ≤ L)) ∧ w' = w := by
 unfold maxLen at hm
 by_cases hs : n ≤ L
 ·have hs' : (n : Int) ≤ (L : Int) := by omega
  go_enter Try.func45, Try.ntmps45
  go_wp2
  go_ret
  exact ⟨⟨_, rfl, .inr ⟨L - n, by omega, by omega⟩⟩, rfl⟩
 ·have hs' : (L : Int) < (n : Int) := by omega
  go_enter Try.func45, Try.ntmps45
  go_wp2
  go_ret
  exact ⟨⟨_, rfl, .inl rfl⟩, rfl⟩

set_option maxHeartbeats 4000000 in
set_option maxRecDepth 100000 in
theorem szBox_sum (b : Bx) (N : Nat) (hN : N ≤ 1048576) (a1 a2 : Option Addr) (c1 c2 : Nat) (w : World) (h : ArgBx w.heap.size w a1 a2 b) :
  Calls Try.prog 28 #[.agg #[.string b.name, .int .i64 b.valid, .int .i64 b.next, .int .i64 b.mod, .slice a1 b.mails.length c1, .slice a2 b.tombs.length c2, .int .i64 b.hor], .int .i64 (N : Int)] w fun e w' => (∃ m : Int, e = .returned (.int .i64 m) ∧ (m = -1 ∨ ∃ q : Nat, m = (q : Int) ∧ q + (b.mails.length + b.tombs.length) ≤ N ∧ SmallBx N b)) ∧ Below w.heap.size w w' := by
 have hn := h.name; have hm2 := h.m2
 unfold maxLen at hn
 by_cases h1 : b.name.size ≤ N
 ·obtain ⟨L, hL⟩ : ∃ L, L = N - b.name.size := ⟨_, rfl⟩
  have e0 : (N : Int) - (b.name.size : Int) = (L : Int) := by omega
  have hLN : L ≤ N := by omega
  have hL2 : L ≤ 1048576 := by omega
  obtain ⟨X, hX⟩ : ∃ X, X = w.alloc (.cells ([.string b.name, .int .i64 b.valid, .int .i64 b.next, .int .i64 b.mod, .slice a1 b.mails.length c1, .slice a2 b.tombs.length c2, .int .i64 b.hor] : List Value).toArray 61) := ⟨_, rfl⟩
  have x0 : HasObj X w.heap.size 61 [.string b.name, .int .i64 b.valid, .int .i64 b.next, .int .i64 b.mod, .slice a1 b.mails.length c1, .slice a2 b.tombs.length c2, .int .i64 b.hor] := by rw [hX]; exact HasObj.new _ _ _
  have hbX : Below w.heap.size w X := by rw [hX]; exact (Below.refl _ _).alloc (Nat.le_refl _) _
  have hA := h.up hbX; have HM := hide (szMailS_sum a1 c1 L b.mails X hL2 hA.m1 hA.mails); have HA := hide h; have k0 := x0.cell 0 rfl; have k4 := x0.cell 4 rfl; have X0 := hide x0; have BX := hide hbX; have HX := hX.symm
  have i1 : ¬ (L : Int) < 0 := by omega
  clear h hX x0 hbX hA hL
  go_enter Try.func28, Try.ntmps28
  go_wp2_with fail
  refine (uh HM).mono ?_
  rintro e w1 ⟨⟨m, rfl, hmm⟩, hb1⟩
  have B1 := hide ((uh BX).trans (hb1.mono (uh BX).size)); have y0 := (uh X0).ups hb1; have k5 := y0.cell 5 rfl; clear hb1 HX k0 k4
  rcases hmm with rfl | ⟨q1, rfl, hq1, hs1⟩
  ·go_wp2
   go_ret
   exact ⟨⟨_, rfl, .inl rfl⟩, uh B1⟩
  ·have HT := hide (szTombS_sum a2 c2 b.tombs.length q1 w1 (by omega) hm2)
   have i2 : ¬ (q1 : Int) < 0 := by omega
   go_wp2_with fail
   refine (uh HT).mono ?_
   rintro e w2 ⟨⟨m2, rfl, hmm2⟩, hw⟩
   subst w2
   rcases hmm2 with rfl | ⟨q2, rfl, hq2⟩
   ·go_wp2
    go_ret
    exact ⟨⟨_, rfl, .inl rfl⟩, uh B1⟩
   ·have i3 : ¬ (q2 : Int) < 0 := by omega
    go_wp2
    go_ret
    exact ⟨⟨_, rfl, .inr ⟨q2, rfl, by omega, ⟨h1, ⟨by have := hs1.1; omega, fun x hx => by have := hs1.2 x hx; omega⟩, by omega⟩⟩⟩, uh B1⟩
 ·have e0 : (N : Int) - (b.name.size : Int) < 0 := by omega
  go_enter Try.func28, Try.ntmps28
  go_wp2
  go_ret
  exact ⟨⟨_, rfl, .inl rfl⟩, (Below.refl _ _).alloc (Nat.le_refl _) _⟩

set_option maxHeartbeats 4000000 in
set_option maxRecDepth 100000 in
theorem szBoxS_sum (a : Option Addr) (cap L : Nat) (l : List Bx) (w : World) (hL : L ≤ 1048576) (hm : l.length ≤ maxLen) (h : ArgBs w.heap.size w a l) :
  Calls Try.prog 11 #[.slice a l.length cap, .int .i64 (L : Int)] w fun e w' =>
   (∃ m : Int, e = .returned (.int .i64 m) ∧ (m = -1 ∨ ∃ q : Nat, m = (q : Int) ∧ q + sizeBs l ≤ L ∧ SmallBs L l)) ∧ Below w.heap.size w w' := by
 unfold maxLen at hm
 obtain ⟨len, hl⟩ : ∃ len, len = l.length := ⟨_, rfl⟩
 rw [← hl] at hm ⊢
 have HL := hide hl; clear hl
 by_cases hs : len ≤ L
 ·have HA := hide (fun W (hb : Below w.heap.size w W) => h.up hb)
  have hs' : (len : Int) ≤ (L : Int) := by omega
  clear h
  go_enter Try.func11, Try.ntmps11
  go_wp2
  go_loopw [1, 5] (fun m i wr => ∃ k q : Nat, k ≤ len ∧ q + len + sizeBs (l.take k) ≤ L + k ∧ i = .int .i64 k ∧ m = .int .i64 q ∧ (∀ f ∈ l.take k, SmallBx L f) ∧ Below w.heap.size w wr) (fun _ i _ => len - (intOf i).toNat)
  case atStart => exact ⟨0, L - len, Nat.zero_le _, by simp [sizeBs]; omega, rfl, by go_num, by simp, Below.refl _ _⟩
  case round =>
   obtain ⟨k, q, hk, hq, rfl, rfl, hall, hbel⟩ := hrel
   by_cases hlt : k < len
   ·have hkl : k < l.length := by have := uh HL; omega
    have hgk : l[k]? = some l[k] := List.getElem?_eq_getElem hkl
    obtain ⟨x, a1, a2, c1, c2, rfl, hxb, hAB, k0, k1, k2, k3, k4, k5, k6⟩ := uh HA wr hbel k l[k] hgk
    have hsnoc := hide (show l.take (k + 1) = l.take k ++ [l[k]] from List.take_succ_eq_append_getElem hkl); have hnx := hide (sizeBs_take hgk)
    have hqL : q ≤ L := by have := sizeBs_len (l.take k); rw [List.length_take] at this; omega
    have HC := hide hall; have HQ := hide hq; clear hall hgk hq
    generalize l[k] = f at *
    have HZ := hide (fun wx (hb : Below wr.heap.size wr wx) => szBox_sum f q (by omega) a1 a2 c1 c2 wx (hAB.up hb))
    clear hAB; go_wp2_with fail
    refine (uh HZ _ (Below.refl _ _)).mono ?_
    rintro e w1 ⟨⟨m, rfl, hmm⟩, hb1⟩
    rcases hmm with rfl | ⟨q1, rfl, hq1, hq2⟩
    ·go_wp2
     go_ret
     exact ⟨⟨_, rfl, .inl rfl⟩, below2 hbel hb1⟩
    ·have i9 : ¬ (q1 : Int) < 0 := by omega
     go_wp2
     go_roundw
     case rel =>
      refine ⟨k + 1, q1, by omega, by have := uh HQ; rw [uh hnx]; omega, by go_num, rfl, ?_, below2 hbel hb1⟩
      rw [uh hsnoc]
      intro f' hf'
      rcases List.mem_append.1 hf' with h1 | h1
      ·exact uh HC f' h1
      ·simp at h1; subst h1; exact ⟨Nat.le_trans hq2.1 hqL, ⟨Nat.le_trans hq2.2.1.1 hqL, fun x hx => Nat.le_trans (hq2.2.1.2 x hx) hqL⟩, Nat.le_trans hq2.2.2 hqL⟩
     case measure => simp [intOf]; omega
   ·have e : k = len := by omega
    subst e
    rw [List.take_of_length_le (by have := uh HL; omega)] at hall hq
    have HC := hide hall; have HQ := hide hq; clear hall hq
    go_wp2
    go_ret
    exact ⟨⟨_, rfl, .inr ⟨q, rfl, by have := uh HQ; omega, ⟨by have := uh HQ; omega, uh HC⟩⟩⟩, hbel⟩
 ·have hs' : (L : Int) < (len : Int) := by omega
  go_enter Try.func11, Try.ntmps11
  go_wp2
  go_ret
  exact ⟨⟨_, rfl, .inl rfl⟩, Below.refl _ _⟩
/-- A row of boxes stays one's own when a cell of it is written. -/
theorem EachB.cell {B g j : Nat} {W : World} {l : List Lb} {c n : Nat} {xs : List Value} {B2 : Nat} (h : EachB B W l) (hr : W.ownsRow B2 42 7 (.slice (some ⟨g, 0, none⟩) n c) n xs) (u : Value) : EachB B (W.setCell ⟨g, j, none⟩ u) l :=
 h.aside hr (g_store (j := j) (g_self W (some g)) u) (by decide) (by decide)
set_option maxHeartbeats 8000000 in
set_option maxRecDepth 100000 in
theorem toBoxS_any (a : Option Addr) (cap : Nat) (l : List Bx) (w : World) (hs : SmallBs 1048576 l) (h : ArgBs w.heap.size w a l) :
  Calls Try.prog 17 #[.slice a l.length cap] w fun e w' => ∃ v L, L.map (·.b) = l ∧ e = .returned v ∧ OwnBs w.heap.size w' v L ∧ L.Pairwise ApartB ∧ Below w.heap.size w w' := by
 obtain ⟨i0, hi, hz0, hz1, hz2⟩ := info_parts Try.infoBox
 have hsl : l.length ≤ 1048576 := Nat.le_trans (sizeBs_len l) hs.sum
 have HA := hide (fun W (hb : Below w.heap.size w W) => h.up hb)
 have HS := hide hs.each; clear h hs
 go_enter Try.func17, Try.ntmps17
 go_wp2_with (refine wpList_make_full _ rfl _ _ 26 rfl w.heap.size 42 i0 _ 7 Try.underlying26 hi hz0 hz1 .i64 .i64 _ _ l.length rfl rfl rfl rfl (by rw [hz2]; omega) (by unfold maxLen; omega) (Nat.le_refl _) ?_; intro wm hown hgm)
 rw [rowC_made lbC_len (by decide) (a0 := lb0) rfl] at hown
 have hgl : w.heap.size < wm.heap.size := (hown.lt _ rfl).2
 obtain ⟨n, hn⟩ : ∃ n, n = l.length := ⟨_, rfl⟩
 have HN := hide hn
 rw [← hn] at hown hsl ⊢
 clear hn
 go_loopw [4] (fun i wr => ∃ (k : Nat) (L : List Lb), k ≤ n ∧ i = .int .i64 k ∧ L.length = n ∧ (L.take k).map (·.b) = l.take k ∧ L.drop k = List.replicate (n - k) lb0 ∧ wr.ownsRow w.heap.size 42 7 (.slice (some ⟨w.heap.size, 0, none⟩) n n) n (rowC lbC L) ∧ EachB w.heap.size wr L ∧ (L.take k).Pairwise ApartB ∧ Below w.heap.size w wr) (fun i _ => n - (intOf i).toNat)
 case atStart => exact ⟨0, List.replicate n lb0, Nat.zero_le _, rfl, by simp, by simp, by simp, hown, fun x hx => by rw [List.eq_of_mem_replicate hx]; exact ⟨World.ownsRow_nil _ _ _ _, World.ownsRow_nil _ _ _ _⟩, by simp, g_below hgm⟩
 case round =>
  obtain ⟨k, L, hk, rfl, hLn, hLk, hLd, hownk, hEE, hap, hbel⟩ := hrel
  clear hown
  by_cases hlt : k < n
  ·have hkl : k < l.length := by rw [← uh HN]; exact hlt
   obtain ⟨x, a1, a2, c1, c2, rfl, hxb, hAB, k0, k1, k2, k3, k4, k5, k6⟩ := uh HA wr hbel k l[k] (List.getElem?_eq_getElem hkl)
   have hget : L[k]? = some lb0 := by
    have h1 : (L.drop k)[0]? = some lb0 := by rw [hLd, List.getElem?_replicate]; simp; omega
    rwa [List.getElem?_drop, Nat.add_zero] at h1
   have hmem := uh HS l[k] (List.getElem_mem hkl); have HTK := hide (show l.take (k + 1) = l.take k ++ [l[k]] from List.take_succ_eq_append_getElem hkl)
   generalize l[k] = f at *
   have HT := hide (fun wx (hb : Below wr.heap.size wr wx) => toBox_any f a1 a2 c1 c2 wx hmem (hAB.up hb))
   have hgr : w.heap.size < wr.heap.size := (hownk.lt _ rfl).2
   have OK := hide hownk; have EK := hide hEE; have HG := hide hget; have HLN := hide hLn; have HLK := hide hLk; have HLD := hide hLd; have HAP := hide hap; clear hownk hget hAB hmem hLn hLk hLd hap hEE; go_wp2_with fail
   refine (uh HT _ (Below.refl _ _)).mono ?_
   rintro e w1 ⟨vm, vt, rfl, oF, hb1⟩
   have hget := uh HG; have FB := hide oF.base
   have SB := hide (fun y (hy : y ∈ L) => ((uh EK) y hy).base)
   obtain ⟨am, cm, rfl⟩ := g_shape oF.1
   obtain ⟨at1, ct1, rfl⟩ := g_shape oF.2
   generalize hvm : Value.slice am f.mails.length cm = vm at *
   generalize hvt : Value.slice at1 f.tombs.length ct1 = vt at *
   have own1 : w1.ownsRow w.heap.size 42 7 (.slice (some ⟨w.heap.size, 0, none⟩) n n) n (rowC lbC L) := g_stays (uh OK) hb1
   have EE1 := (uh EK).up hb1
   have OF1 : EachB w.heap.size w1 [⟨f, vm, vt⟩] := fun y hy => by simp at hy; subst hy; exact oF.based hbel.size
   have hB0 := below2 hbel hb1; have f0 := own1.frozenAt (k * 7); have f1 := own1.frozenAt (k * 7 + 1); have f2 := own1.frozenAt (k * 7 + 2); have f3 := own1.frozenAt (k * 7 + 3); have f4 := own1.frozenAt (k * 7 + 4); have f5 := own1.frozenAt (k * 7 + 5); have f6 := own1.frozenAt (k * 7 + 6)
   obtain ⟨d0, d1, d2, d3, d4, d5, d6⟩ := br_cells own1 hget hlt
   have st0 := own1.stored (k * 7) (.string f.name)
   rw [show k * 7 = k * 7 + 0 from rfl, rowC_set lbC_len hget (j := 0) (by decide) (⟨⟨f.name, lb0.b.valid, lb0.b.next, lb0.b.mod, lb0.b.mails, lb0.b.tombs, lb0.b.hor⟩, lb0.m, lb0.t⟩ : Lb) (.string f.name) rfl] at st0
   have st1 := st0.1.stored (k * 7 + 1) (.int .i64 f.valid)
   rw [rowC_set2 lbC_len hget (⟨⟨f.name, lb0.b.valid, lb0.b.next, lb0.b.mod, lb0.b.mails, lb0.b.tombs, lb0.b.hor⟩, lb0.m, lb0.t⟩ : Lb) (j := 1) (by decide) (⟨⟨f.name, f.valid, lb0.b.next, lb0.b.mod, lb0.b.mails, lb0.b.tombs, lb0.b.hor⟩, lb0.m, lb0.t⟩ : Lb) (.int .i64 f.valid) rfl] at st1
   have st2 := st1.1.stored (k * 7 + 2) (.int .i64 f.next)
   rw [rowC_set2 lbC_len hget (⟨⟨f.name, f.valid, lb0.b.next, lb0.b.mod, lb0.b.mails, lb0.b.tombs, lb0.b.hor⟩, lb0.m, lb0.t⟩ : Lb) (j := 2) (by decide) (⟨⟨f.name, f.valid, f.next, lb0.b.mod, lb0.b.mails, lb0.b.tombs, lb0.b.hor⟩, lb0.m, lb0.t⟩ : Lb) (.int .i64 f.next) rfl] at st2
   have st3 := st2.1.stored (k * 7 + 3) (.int .i64 f.mod)
   rw [rowC_set2 lbC_len hget (⟨⟨f.name, f.valid, f.next, lb0.b.mod, lb0.b.mails, lb0.b.tombs, lb0.b.hor⟩, lb0.m, lb0.t⟩ : Lb) (j := 3) (by decide) (⟨⟨f.name, f.valid, f.next, f.mod, lb0.b.mails, lb0.b.tombs, lb0.b.hor⟩, lb0.m, lb0.t⟩ : Lb) (.int .i64 f.mod) rfl] at st3
   have st4 := st3.1.stored (k * 7 + 4) (vm)
   rw [rowC_set2 lbC_len hget (⟨⟨f.name, f.valid, f.next, f.mod, lb0.b.mails, lb0.b.tombs, lb0.b.hor⟩, lb0.m, lb0.t⟩ : Lb) (j := 4) (by decide) (⟨⟨f.name, f.valid, f.next, f.mod, lb0.b.mails, lb0.b.tombs, lb0.b.hor⟩, vm, lb0.t⟩ : Lb) (vm) rfl] at st4
   have st5 := st4.1.stored (k * 7 + 5) (vt)
   rw [rowC_set2 lbC_len hget (⟨⟨f.name, f.valid, f.next, f.mod, lb0.b.mails, lb0.b.tombs, lb0.b.hor⟩, vm, lb0.t⟩ : Lb) (j := 5) (by decide) (⟨⟨f.name, f.valid, f.next, f.mod, lb0.b.mails, lb0.b.tombs, lb0.b.hor⟩, vm, vt⟩ : Lb) (vt) rfl] at st5
   have st6 := st5.1.stored (k * 7 + 6) (.int .i64 f.hor)
   rw [rowC_set2 lbC_len hget (⟨⟨f.name, f.valid, f.next, f.mod, lb0.b.mails, lb0.b.tombs, lb0.b.hor⟩, vm, vt⟩ : Lb) (j := 6) (by decide) (⟨f, vm, vt⟩ : Lb) (.int .i64 f.hor) rfl] at st6
   have HST := hide st6.1
   have hB := hide ((((((((hB0).setCell (p := ⟨w.heap.size, k * 7, none⟩) (Nat.le_refl _) (.string f.name)).setCell (p := ⟨w.heap.size, k * 7 + 1, none⟩) (Nat.le_refl _) (.int .i64 f.valid)).setCell (p := ⟨w.heap.size, k * 7 + 2, none⟩) (Nat.le_refl _) (.int .i64 f.next)).setCell (p := ⟨w.heap.size, k * 7 + 3, none⟩) (Nat.le_refl _) (.int .i64 f.mod)).setCell (p := ⟨w.heap.size, k * 7 + 4, none⟩) (Nat.le_refl _) (vm)).setCell (p := ⟨w.heap.size, k * 7 + 5, none⟩) (Nat.le_refl _) (vt)).setCell (p := ⟨w.heap.size, k * 7 + 6, none⟩) (Nat.le_refl _) (.int .i64 f.hor))
   have EZ := hide (EachB.cell (j := k * 7 + 6) (EachB.cell (j := k * 7 + 5) (EachB.cell (j := k * 7 + 4) (EachB.cell (j := k * 7 + 3) (EachB.cell (j := k * 7 + 2) (EachB.cell (j := k * 7 + 1) (EachB.cell (j := k * 7) (EE1) own1 (.string f.name)) st0.1 (.int .i64 f.valid)) st1.1 (.int .i64 f.next)) st2.1 (.int .i64 f.mod)) st3.1 (vm)) st4.1 (vt)) st5.1 (.int .i64 f.hor)); have FZ := hide (EachB.cell (j := k * 7 + 6) (EachB.cell (j := k * 7 + 5) (EachB.cell (j := k * 7 + 4) (EachB.cell (j := k * 7 + 3) (EachB.cell (j := k * 7 + 2) (EachB.cell (j := k * 7 + 1) (EachB.cell (j := k * 7) (OF1) own1 (.string f.name)) st0.1 (.int .i64 f.valid)) st1.1 (.int .i64 f.next)) st2.1 (.int .i64 f.mod)) st3.1 (vm)) st4.1 (vt)) st5.1 (.int .i64 f.hor)); clear own1 hget st0 st1 st2 st3 st4 st5 st6 hB0 EE1 OF1 oF hb1 hbel
   subst hvm hvt
   go_wp2
   go_roundw
   case rel =>
    have hLn := uh HLN
    have hkL : k < L.length := by omega
    refine ⟨k + 1, L.set k ⟨f, .slice am f.mails.length cm, .slice at1 f.tombs.length ct1⟩, by omega, by go_num, by rw [List.length_set]; exact hLn, ?_, ?_, uh HST, ?_, ?_, uh hB⟩
    ·rw [List.take_add_one, List.getElem?_set_self hkL, List.take_set_of_le (Nat.le_refl _), List.map_append, uh HLK, uh HTK]
     rfl
    ·rw [List.drop_set_of_lt (Nat.lt_succ_self _), show L.drop (k + 1) = (L.drop k).drop 1 from by rw [List.drop_drop], uh HLD, List.drop_replicate]
     congr 1
    ·intro y hy
     rcases List.mem_or_eq_of_mem_set hy with h1 | h1
     ·exact uh EZ y h1
     ·exact uh FZ y (by simp [h1])
    ·rw [List.take_add_one, List.getElem?_set_self hkL, List.take_set_of_le (Nat.le_refl _)]
     refine List.pairwise_append.2 ⟨uh HAP, by simp, fun y hy z hz => ?_⟩
     simp at hz
     subst hz
     have hyL := List.mem_of_mem_take hy
     exact ⟨fun g h1 h2 => by have q1 := uh SB y hyL g (.inl h1); have q2 := uh FB g (.inl h2); omega, fun g h1 h2 => by have q1 := uh SB y hyL g (.inr h1); have q2 := uh FB g (.inr h2); omega⟩
   case measure => simp [intOf]; omega
  ·have e : k = n := by omega
   subst e
   have HLN := hide hLn; have HLK := hide hLk; have HAP := hide hap; have OK := hide hownk; have EK := hide hEE; clear hLn hLk hap hownk hEE hLd
   go_wp2
   go_ret
   have hLn := uh HLN; have hLk := uh HLK; have hap := uh HAP
   rw [List.take_of_length_le (by omega)] at hLk hap
   rw [List.take_of_length_le (by have := uh HN; omega)] at hLk
   exact ⟨_, L, hLk, rfl, ⟨by unfold OwnBr; rw [hLn]; exact uh OK, uh EK⟩, hap, hbel⟩
end Go.Proofs.Ytanapiaobpoebaa
