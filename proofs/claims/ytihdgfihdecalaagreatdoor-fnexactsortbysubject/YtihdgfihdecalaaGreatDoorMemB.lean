/- Boxes and views as the laws' own helpers take them, over what is known of the memory. -/
import Derived.Test.YtihdgfihdecalaaGreatDoorMmA
import Derived.Test.YtihdgfihdecalaaGreatDoorBoxNameS
namespace Go.Proofs.YtihdgfihdecalaaGreatDoor
open Go.RowKit
open Plain
set_option linter.unusedVariables false
set_option linter.unusedSimpArgs false
attribute [local go_sem] cell_of frozen_of
/-- The mails of a box that may be read. -/
def SeeMl (w : World) (a : Option Addr) (l : List Ml) : Prop := ∀ (k : Nat) (f : Ml), l[k]? = some f → ∃ g, a = some ⟨g, 0, none⟩ ∧ HasCell w g (k * 4) (.int .i64 f.uid) ∧ HasCell w g (k * 4 + 1) (.int .i64 f.flags) ∧ HasCell w g (k * 4 + 2) (.int .i64 f.mod) ∧ HasCell w g (k * 4 + 3) (.string f.text)
theorem OwnMl.see {B : Nat} {w : World} {a : Option Addr} {n c : Nat} {l : List Ml} (h : OwnMl B w (.slice a n c) l) : SeeMl w a l := by
  intro k f hf
  obtain ⟨g, c', e, _, h1, h2, h3, h4⟩ := ml_read h (Below.refl _ _) hf
  cases e
  exact ⟨g, rfl, ⟨h1⟩, ⟨h2⟩, ⟨h3⟩, ⟨h4⟩⟩
abbrev rowMl (a : Option Addr) (c : Nat) (l : List Ml) : Pc := .row a l.length c 55 4 (rowC mlC l)
abbrev markedMl (a : Option Addr) (c k0 n : Nat) : Pc := .row a n c 55 4 (rowC mlC (marksK mkMl 4 k0 n))
abbrev markedTb (a : Option Addr) (c k0 n : Nat) : Pc := .row a n c 81 2 (rowC tbC (marksK mkTb 2 k0 n))
abbrev rowTb (a : Option Addr) (c : Nat) (l : List Tb) : Pc := .row a l.length c 81 2 (rowC tbC l)
theorem Mem.two {W W' : World} {p q : Pc} (hp : p.lies W' W.heap.size) (hq : q.lies W' W.heap.size) (ha : ∀ k, p.blk = some k → q.blk ≠ some k) (hb : Below W.heap.size W W') : Mem W W' [p, q] :=
  ⟨hb, fun x hx => (by rcases List.mem_cons.1 hx with rfl | hx; exact hp; cases List.mem_singleton.1 hx; exact hq), List.pairwise_cons.2 ⟨fun x hx => (by cases List.mem_singleton.1 hx; exact ha), List.pairwise_singleton _ _⟩⟩
theorem Mem.box {W W' : World} {am at1 : Option Addr} {cm ct : Nat} {b : Bx} (h : OwnBx W.heap.size W' (.slice am b.mails.length cm) (.slice at1 b.tombs.length ct) b) (hb : Below W.heap.size W W') : Mem W W' [rowMl am cm b.mails, rowTb at1 ct b.tombs] :=
  Mem.two (p := rowMl am cm b.mails) (q := rowTb at1 ct b.tombs) h.1 h.2 (rows_apart h.1 h.2 (by decide)) hb
section
variable {w W : World} {L : List Pc}
theorem ownBox {am at1 : Option Addr} {cm ct : Nat} {b : Bx} {f g : Pc → List Pc} [M : Mem w W L] [h1 : InL L (rowMl am cm b.mails) f] [h2 : InL L (rowTb at1 ct b.tombs) g] : OwnBx w.heap.size W (.slice am b.mails.length cm) (.slice at1 b.tombs.length ct) b :=
  ⟨M.get (rowMl am cm b.mails), M.get (rowTb at1 ct b.tombs)⟩
theorem toBox_mem (b : Bx) (a1 a2 : Option Addr) (c1 c2 : Nat) [M : Mem w W L] (hs : SmallBx 1048576 b) (h : ArgBx w.heap.size w a1 a2 b) :
    Calls Tryz.prog 8 #[boxV b (.slice a1 b.mails.length c1) (.slice a2 b.tombs.length c2)] W fun e W' => ∃ am cm at1 ct, e = .returned (boxV b (.slice am b.mails.length cm) (.slice at1 b.tombs.length ct)) ∧ Mem w W' (rowMl am cm b.mails :: rowTb at1 ct b.tombs :: L) :=
  (toBox_any b a1 a2 c1 c2 W hs (h.up M.below)).mono fun e W' ⟨m, t, he, ho, hb⟩ => by
    obtain ⟨am, cm, rfl⟩ := g_shape ho.1
    obtain ⟨at1, ct, rfl⟩ := g_shape ho.2
    exact ⟨am, cm, at1, ct, he, M.more2 (Mem.box ho hb)⟩
theorem eqBox_mem (b : Bx) (am at1 bm bt : Option Addr) (cm ct dm dt : Nat) {f1 f2 g1 g2 : Pc → List Pc} [M : Mem w W L] [h1 : InL L (rowMl am cm b.mails) f1] [h2 : InL L (rowTb at1 ct b.tombs) f2] [k1 : InL L (rowMl bm dm b.mails) g1] [k2 : InL L (rowTb bt dt b.tombs) g2]
    (hs : SmallBx 1048576 b) : Calls Tryz.prog 12 #[boxV b (.slice am b.mails.length cm) (.slice at1 b.tombs.length ct), boxV b (.slice bm b.mails.length dm) (.slice bt b.tombs.length dt)] W fun e W' => e = .returned (.bool true) ∧ Mem w W' L :=
  (eqBox_same b _ _ _ _ _ _ W hs.2.1.1 hs.2.2 ownBox ownBox).mono fun e W' ⟨he, hb⟩ => ⟨he, M.more0 hb⟩
set_option maxHeartbeats 4000000 in
set_option maxRecDepth 100000 in
theorem markBox_mem (b : Bx) (am at1 : Option Addr) (cm ct k0 : Nat) {f g : Pc → List Pc} [M : Mem w W L] [h1 : InL L (rowMl am cm b.mails) f] [h2 : InL (f (markedMl am cm k0 b.mails.length)) (rowTb at1 ct b.tombs) g]
    (hs : SmallBx 1048576 b) (hk0 : 1 ≤ k0) (hk1 : k0 ≤ 10000000) : Calls Tryz.prog 14 #[boxV b (.slice am b.mails.length cm) (.slice at1 b.tombs.length ct), .int .i64 (k0 : Int)] W
      fun e W' => e = .returned (.int .i64 ((k0 + b.mails.length * 4 + b.tombs.length * 2 : Nat) : Int)) ∧ Mem w W' (g (markedTb at1 ct (k0 + b.mails.length * 4) b.tombs.length)) := by
  have N1 : ((k0 + b.mails.length * 4 : Nat) : Int) = (k0 : Int) + (b.mails.length : Int) * 4 := by omega
  have HL : Hid (b.mails.length ≤ 1048576 ∧ b.tombs.length ≤ 1048576 ∧ k0 + b.mails.length * 4 ≤ 100000000) := ⟨hs.2.1.1, hs.2.2, by have := hs.2.1.1; omega⟩
  have HK : Hid (1 ≤ k0 ∧ k0 ≤ 10000000) := ⟨hk0, hk1⟩
  clear hk0 hk1 hs
  have MA : Mem w (W.alloc (.cells ([.string b.name, .int .i64 b.valid, .int .i64 b.next, .int .i64 b.mod, .slice am b.mails.length cm, .slice at1 b.tombs.length ct, .int .i64 b.hor] : List Value).toArray 34)) (.obj W.heap.size 34 [.string b.name, .int .i64 b.valid, .int .i64 b.next, .int .i64 b.mod, .slice am b.mails.length cm, .slice at1 b.tombs.length ct, .int .i64 b.hor] :: L) := Mem.alloc
  go_enter Tryz.func14, Tryz.ntmps14
  go_wp2_with fail
  refine (markMailS_any b.mails _ w.heap.size k0 _ (unhide HL).1 (unhide HK).1 (by have := (unhide HK).2; omega) (MA.get (rowMl am cm b.mails))).mono ?_
  rintro e w1 ⟨rfl, om, hg⟩
  have M1 : Mem w w1 (.obj W.heap.size 34 [.string b.name, .int .i64 b.valid, .int .i64 b.next, .int .i64 b.mod, .slice am b.mails.length cm, .slice at1 b.tombs.length ct, .int .i64 b.hor] :: f (markedMl am cm k0 b.mails.length)) :=
    MA.turn (p := rowMl am cm b.mails) (q := markedMl am cm k0 b.mails.length) hg (by unfold OwnMl at om; rw [marksK_len] at om; exact om) (.inl rfl)
  clear om hg MA
  rw [N1]
  go_wp2_with fail
  rw [← N1]
  refine (markTombS_any b.tombs _ w.heap.size (k0 + b.mails.length * 4) _ (unhide HL).2.1 (by have := (unhide HK).1; omega) (unhide HL).2.2 (M1.get (rowTb at1 ct b.tombs))).mono ?_
  rintro e w2 ⟨rfl, om, hg⟩
  have M2 := hide ((M1.turn (p := rowTb at1 ct b.tombs) (q := markedTb at1 ct (k0 + b.mails.length * 4) b.tombs.length) hg (by unfold OwnTb at om; rw [marksK_len] at om; exact om) (.inl rfl)).part (List.sublist_cons_self _ _))
  clear om hg M1
  go_wp2
  go_ret
  exact ⟨rfl, unhide M2⟩
end
end Go.Proofs.YtihdgfihdecalaaGreatDoor
